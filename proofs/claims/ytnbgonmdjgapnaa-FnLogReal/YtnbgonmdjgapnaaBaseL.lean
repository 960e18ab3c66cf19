import Derived.Test.YtnbgonmdjgapnaaBase32
import Derived.Test.YtnbgonmdjgapnaaBase33
import Derived.Deep.DeepCutAuto
import Derived.Deep.RegionWith
import Derived.Test.YtnbgonmdjgapnaaBase01
import Derived.Deep.QuietTactic
import Derived.BigQuiet
import Derived.Test.YtnbgonmdjgapnaaBase06
import Derived.DataReads
namespace Go.Proofs.Ytnbgonmdjgapnaa
open Go.RowKit
set_option linter.unusedSimpArgs false
set_option linter.unusedVariables false
set_option maxRecDepth 20000
theorem ac_small {a : Ac} {nc body nb : Int} (h : acB a nc body nb = true) : Small a := by
  unfold acB at h
  unfold Small
  split at h
  · simp [dsB, -List.length_eq_zero_iff] at h
    omega
  split at h
  · simp [ksB, inB, -List.length_eq_zero_iff] at h
    omega
  split at h
  · simp at h
    simp [h]
  split at h
  · simp at h
    simp [h]
  · cases h
theorem small_ok {p : Pr} (h : okB p = true) : SmallP p := by
  obtain ⟨h1, h2, h3, h4⟩ := ok_sizes h
  have hf := okB_form h
  refine ⟨by omega, by omega, fun j hj => ⟨by have := h4 j hj; omega, fun i hi => ?_⟩⟩
  have := hf.2 j hj
  simp only [boB, Bool.and_eq_true, List.all_eq_true] at this
  exact ac_small (this.2 _ (nth_mem Ac.z _ i hi))
theorem IntsOn.ltw {S : Nat → Prop} {w : World} {v : Value} {xs : List Int} (h : IntsOn S w v xs) : IntsOn (fun b => S b ∧ b < w.heap.size) w v xs := by
  obtain ⟨a, cap, e, hm, hc⟩ := h
  refine ⟨a, cap, e, hm, fun i hi => ?_⟩
  obtain ⟨b, off, e2, hs, hb, c⟩ := hc i hi
  exact ⟨b, off, e2, ⟨hs, hb⟩, hb, c⟩
theorem DeedsOn.ltw {S : Nat → Prop} {w : World} {v : Value} {xs : List De} (h : DeedsOn S w v xs) : DeedsOn (fun b => S b ∧ b < w.heap.size) w v xs := by
  obtain ⟨a, cap, e, hm, hc⟩ := h
  refine ⟨a, cap, e, hm, fun i hi => ?_⟩
  obtain ⟨b, off, e2, hs, hb, c⟩ := hc i hi
  exact ⟨b, off, e2, ⟨hs, hb⟩, hb, c⟩
theorem ActsOn.ltw {S : Nat → Prop} {w : World} {v : Value} {xs : List Ac} (h : ActsOn S w v xs) : ActsOn (fun b => S b ∧ b < w.heap.size) w v xs := by
  obtain ⟨a, cap, e, hm, hc⟩ := h
  refine ⟨a, cap, e, hm, fun i hi => ?_⟩
  obtain ⟨b, off, dv, kv, e2, hs, hb, c0, c1, c2, c3, d, k⟩ := hc i hi
  exact ⟨b, off, dv, kv, e2, ⟨hs, hb⟩, hb, c0, c1, c2, c3, d.ltw, k.ltw⟩
theorem BodiesOn.ltw {S : Nat → Prop} {w : World} {v : Value} {xs : List (List Ac)} (h : BodiesOn S w v xs) : BodiesOn (fun b => S b ∧ b < w.heap.size) w v xs := by
  obtain ⟨a, cap, e, hm, hc⟩ := h
  refine ⟨a, cap, e, hm, fun i hi => ?_⟩
  obtain ⟨b, off, av, e2, hs, hb, c, d⟩ := hc i hi
  exact ⟨b, off, av, e2, ⟨hs, hb⟩, hb, c, d.ltw⟩
theorem PrS.wide {S S' : Nat → Prop} (hS : ∀ b, S b → S' b) {w : World} {cv bv : Value} {p : Pr} (h : PrS S w cv bv p) : PrS S' w cv bv p := ⟨h.1.wide hS, h.2.wide hS⟩
theorem PrS.ltw {S : Nat → Prop} {w : World} {cv bv : Value} {p : Pr} (h : PrS S w cv bv p) : PrS (fun b => S b ∧ b < w.heap.size) w cv bv p := ⟨h.1.ltw, h.2.ltw⟩
theorem PrS.lt {S : Nat → Prop} {w : World} {cv bv : Value} {p : Pr} (h : PrS S w cv bv p) : PrS (fun b => b < w.heap.size) w cv bv p := h.ltw.wide (fun _ hb => hb.2)
def Reach (p : Pr) (s : Sy) : Prop := ∃ ts, s = runS p (newS p) ts
theorem Reach.inx {p : Pr} {s : Sy} (h : Reach p s) (hok : okB p = true) : Inx p s := by
  obtain ⟨ts, rfl⟩ := h
  exact (new_inx hok).run ts
def SBox (w : World) (Y : Nat) (c t l : Value) (k : Int) : Prop := w.heap[Y]? = some (.cells #[c, t, .int .i64 k, l] 32 (0, 0))
theorem SBox.heap {w w' : World} {Y : Nat} {c t l : Value} {k : Int} (h : SBox w Y c t l k) (hk : w'.heap[Y]? = w.heap[Y]?) : SBox w' Y c t l k := hk.trans h
theorem SBox.lt {w : World} {Y : Nat} {c t l : Value} {k : Int} (h : SBox w Y c t l k) : Y < w.heap.size := bx_lt h
theorem SBox.cells {w : World} {Y : Nat} {c t l : Value} {k : Int} (h : SBox w Y c t l k) : (w.cell? ⟨Y, 0, none⟩ = some c ∧ w.cell? ⟨Y, 1, none⟩ = some t ∧ w.cell? ⟨Y, 2, none⟩ = some (.int .i64 k) ∧ w.cell? ⟨Y, 3, none⟩ = some l) ∧ (w.frozen? ⟨Y, 0, none⟩ = false ∧ w.frozen? ⟨Y, 1, none⟩ = false ∧ w.frozen? ⟨Y, 2, none⟩ = false ∧ w.frozen? ⟨Y, 3, none⟩ = false) ∧ Y < w.heap.size := box4c h
theorem SBox.put {w : World} {Y : Nat} {c t l c' t' l' : Value} {k k' : Int} (h : SBox w Y c t l k) : SBox ((((w.setCell ⟨Y, 0, none⟩ c').setCell ⟨Y, 1, none⟩ t').setCell ⟨Y, 2, none⟩ (.int .i64 k')).setCell ⟨Y, 3, none⟩ l') Y c' t' l' k' := (box4 h).1
structure SyD (B R G Z P Y lo hi C : Nat) (w : World) (pr : Pr) (s : Sy) (cv bv c t l : Value) (wx : World) : Prop where
  g : PBox wx G (.slice none 0 0) (.slice none 0 0)
  z : SBox wx Z (.slice none 0 0) (.slice none 0 0) (.slice none 0 0) 0
  p : PBox wx P cv bv
  y : SBox wx Y c t l s.clock
  pr : PrS (fun b => C ≤ b ∧ b < P) wx cv bv pr
  s : OwnS P wx c t l s
  rd : ∃ p', lo ≤ p' ∧ p' ≤ hi ∧ RdAt B wx R p'
  fr : Fr R w.heap.size w wx
theorem SyD.move {B R G Z P Y lo hi C : Nat} {w wx W : World} {pr : Pr} {s : Sy} {cv bv c t l : Value} (h : SyD B R G Z P Y lo hi C w pr s cv bv c t l wx) (hf : Fr R wx.heap.size wx W) (hw : w.heap.size ≤ wx.heap.size) (hrd : ∃ p', lo ≤ p' ∧ p' ≤ hi ∧ RdAt B W R p') (hG : R < G) (hZ : R < Z) (hP : R < P) (hY : R < Y) (hC : R < C) : SyD B R G Z P Y lo hi C w pr s cv bv c t l W := by
  refine ⟨h.g.heap (hf.block _ h.g.lt (by omega)), h.z.heap (hf.block _ h.z.lt (by omega)), h.p.heap (hf.block _ h.p.lt (by omega)), h.y.heap (hf.block _ h.y.lt (by omega)), h.pr.kept ⟨hf.size, fun b o hb hlt => hf.cell hlt (by have hb : C ≤ b ∧ b < P := hb; omega)⟩, h.s.ext (fun g hg hlt => hf.block g hlt (by omega)), hrd, h.fr.trans (hf.mono hw)⟩
theorem SyD.store {B R G Z P Y lo hi C : Nat} {w w4 w5 : World} {pr : Pr} {s s5 : Sy} {cv bv c t l c5 t5 l5 : Value} (h : SyD B R G Z P Y lo hi C w pr s cv bv c t l w4) (hb : Below w4.heap.size w4 w5) (hO : OwnS w4.heap.size w5 c5 t5 l5 s5) (hG : G < Y) (hZ : Z < Y) (hP : P < Y) (hC : C ≤ w4.heap.size) (hwY : w.heap.size ≤ Y) (hBY : B ≤ Y) (hw : w.heap.size ≤ w4.heap.size) :
    SyD B R G Z P Y lo hi C w pr s5 cv bv c5 t5 l5 ((((w5.setCell ⟨Y, 0, none⟩ c5).setCell ⟨Y, 1, none⟩ t5).setCell ⟨Y, 2, none⟩ (.int .i64 s5.clock)).setCell ⟨Y, 3, none⟩ l5) := by
  have hF : FrS (fun b => b = Y) w5 ((((w5.setCell ⟨Y, 0, none⟩ c5).setCell ⟨Y, 1, none⟩ t5).setCell ⟨Y, 2, none⟩ (.int .i64 s5.clock)).setCell ⟨Y, 3, none⟩ l5) := ((((FrS.refl (fun b => b = Y) w5).setCell (p := ⟨Y, 0, none⟩) rfl _).setCell (p := ⟨Y, 1, none⟩) rfl _).setCell (p := ⟨Y, 2, none⟩) rfl _).setCell (p := ⟨Y, 3, none⟩) rfl _
  have hY := h.y.lt
  have hF4 := (FrS.of_below (S := fun b => b = Y) hb).trans hF
  have hbel : Below Y w4 ((((w5.setCell ⟨Y, 0, none⟩ c5).setCell ⟨Y, 1, none⟩ t5).setCell ⟨Y, 2, none⟩ (.int .i64 s5.clock)).setCell ⟨Y, 3, none⟩ l5) := hF4.below (fun b e => by have e : b = Y := e; omega) (by omega)
  obtain ⟨p', h1, h2, h3⟩ := h.rd
  refine ⟨h.g.heap (hF4.block _ h.g.lt (by show ¬ G = Y; omega)), h.z.heap (hF4.block _ h.z.lt (by show ¬ Z = Y; omega)), h.p.heap (hF4.block _ h.p.lt (by show ¬ P = Y; omega)), SBox.put (h.y.heap (hb.block _ hY)), h.pr.kept ⟨hF4.size, fun b o hb' hlt => hF4.cell hlt (by have hb' : C ≤ b ∧ b < P := hb'; show ¬ b = Y; omega)⟩, ((((hO.setX hY _).setX hY _).setX hY _).setX hY _).base (Nat.le_of_lt h.p.lt), ⟨p', h1, h2, h3.below (hbel.mono hBY)⟩, h.fr.trans (Fr.of_below (hbel.mono hwY))⟩
theorem two_boxes {wx : World} {G Z : Nat} {g0 g1 z0 z1 z3 x0 x1 c t l : Value} {zk k : Int} (hg : PBox wx G g0 g1) (hz : SBox wx Z z0 z1 z3 zk) (h : G ≠ Z) :
    PBox ((((((wx.setCell ⟨G, 0, none⟩ x0).setCell ⟨G, 1, none⟩ x1).setCell ⟨Z, 0, none⟩ c).setCell ⟨Z, 1, none⟩ t).setCell ⟨Z, 2, none⟩ (.int .i64 k)).setCell ⟨Z, 3, none⟩ l) G x0 x1 ∧
    SBox ((((((wx.setCell ⟨G, 0, none⟩ x0).setCell ⟨G, 1, none⟩ x1).setCell ⟨Z, 0, none⟩ c).setCell ⟨Z, 1, none⟩ t).setCell ⟨Z, 2, none⟩ (.int .i64 k)).setCell ⟨Z, 3, none⟩ l) Z c t l k := by
  refine ⟨?_, SBox.put (k := zk) (c := z0) (t := z1) (l := z3) ?_⟩
  · refine ((hg.set0 x0).set1 x1).heap ?_
    rw [heap_set_ne _ _ _ G h, heap_set_ne _ _ _ G h, heap_set_ne _ _ _ G h, heap_set_ne _ _ _ G h]
  · refine hz.heap ?_
    rw [heap_set_ne _ _ _ Z (Ne.symm h), heap_set_ne _ _ _ Z (Ne.symm h)]
def DrawnS (B R p hi : Nat) (w : World) (e : Ending) (w' : World) : Prop :=
  ∃ (pr : Pr) (s : Sy) (cv bv c t l : Value) (p' D : Nat), e = .returned (.tuple #[.agg #[cv, bv], .agg #[c, t, .int .i64 s.clock, l]]) ∧ w.heap.size ≤ D ∧ PrS (fun b => w.heap.size ≤ b ∧ b < D) w' cv bv pr ∧ OwnS D w' c t l s ∧ okB pr = true ∧ 1 ≤ pr.cells.length ∧ Reach pr s ∧ p ≤ p' ∧ p' ≤ p + hi ∧ RdAt B w' R p' ∧ Fr R w.heap.size w w'
theorem DrawnS.fin {B R p hi G Z P Y C : Nat} {w wx X : World} {pr : Pr} {s : Sy} {cv bv c t l : Value} (h : SyD B R G Z P Y p (p + hi) C w pr s cv bv c t l wx) (hB : B ≤ w.heap.size) (hG : w.heap.size ≤ G) (hZ : w.heap.size ≤ Z) (hGC : G < C) (hZC : Z < C) (hCP : C ≤ P) (hX : FrS (fun b => b = G ∨ b = Z) wx X) (hok : okB pr = true) (hc1 : 1 ≤ pr.cells.length) (hr : Reach pr s) :
    DrawnS B R p hi w (.returned (.tuple #[.agg #[cv, bv], .agg #[c, t, .int .i64 s.clock, l]])) X := by
  obtain ⟨p', h1, h2, h3⟩ := h.rd
  have hbel : Below w.heap.size wx X := hX.below (fun b hb => by rcases hb with hb | hb <;> omega) h.fr.size
  have hK : Kept (fun b => C ≤ b ∧ b < P) wx X := ⟨hX.size, fun b o hb hlt => World.cell?_of_block (hX.block b hlt (fun e => by have hb : C ≤ b ∧ b < P := hb; rcases e with e | e <;> omega))⟩
  refine ⟨pr, s, cv, bv, c, t, l, p', P, rfl, by omega, (h.pr.kept hK).wide (fun b hb => by have : C ≤ b ∧ b < P := hb; show w.heap.size ≤ b ∧ b < P; omega), h.s.ext (fun g hg hlt => hX.block g hlt (fun e => by rcases e with e | e <;> omega)), hok, hc1, hr, h1, h2, h3.below (hbel.mono hB), h.fr.trans (Fr.of_below hbel)⟩
set_option maxHeartbeats 4000000 in
theorem l71Sys_any (B R p : Nat) (w : World) (h : RdAt B w R p) (hp : p ≤ 400000) :
    Calls Try.prog 128 #[.pointer (some ⟨R, 0, none⟩)] w (DrawnS B R p 20000 w) := by
  have hlt := h.lt
  have hle := h.le
  have HY : Hid (∃ V, V = ((w.alloc (.cells #[.slice none 0 0, .slice none 0 0] 26)).alloc (.cells #[.slice none 0 0, .slice none 0 0, .int .i64 0, .slice none 0 0] 32)) ∧ PBox V w.heap.size (.slice none 0 0) (.slice none 0 0) ∧ SBox V (w.heap.size + 1) (.slice none 0 0) (.slice none 0 0) (.slice none 0 0) 0 ∧ V.heap.size = w.heap.size + 2 ∧ Below w.heap.size w V ∧ RdAt B V R p) := by
    refine ⟨_, rfl, PBox.alloc (heap_alloc_new w _) _, ?_, by simp, (((Below.refl _ _).alloc (Nat.le_refl _) _).alloc (by simp) _), h.below (((Below.refl _ _).alloc hle _).alloc (by simp; omega) _)⟩
    unfold SBox
    simpa using heap_alloc_new (w.alloc (.cells #[.slice none 0 0, .slice none 0 0] 26)) (.cells #[.slice none 0 0, .slice none 0 0, .int .i64 0, .slice none 0 0] 32)
  clear h
  go_enter Try.func128, Try.ntmps128
  go_wp2_with fail
  obtain ⟨V, hV, hVG, hVZ, hVs, hVb, hVR⟩ := HY.out
  rw [← hV]
  clear hV HY
  have hC : V.heap.size = w.heap.size + 1 + 1 := by omega
  have HVG := (show Hid (PBox _ _ _ _) from hVG)
  have HVZ := (show Hid (SBox _ _ _ _ _ _) from hVZ)
  have HVB := (show Hid (Below _ _ _) from hVb)
  clear hVG hVZ hVb hVs
  refine (l71Prog_any B R p _ hVR (by omega)).mono ?_
  rintro e w1 ⟨pr, cv, bv, p1, rfl, hO, hBs, hok, hc1, a1, a2, hR1, hF1⟩
  have HP1 : Hid (PrS (fun b => V.heap.size ≤ b) w1 cv bv pr) := ⟨hO.on (fun b hb => hb), hBs.on (fun b hb => hb)⟩
  have hsV := HVB.out.size
  have hs1 := hF1.size
  have HG1 : Hid (PBox w1 w.heap.size (.slice none 0 0) (.slice none 0 0)) := HVG.out.fr hF1 (by omega)
  have HZ1 : Hid (SBox w1 (w.heap.size + 1) (.slice none 0 0) (.slice none 0 0) (.slice none 0 0) 0) := HVZ.out.heap (hF1.block (w.heap.size + 1) HVZ.out.lt (by omega))
  have HF1 : Hid (Fr R w.heap.size w w1) := (Fr.of_below HVB.out).trans (hF1.mono (by omega))
  have HR1 := (show Hid (RdAt _ _ _ _) from hR1)
  have HOK := (show Hid (_ = _) from hok)
  have HC1 := (show Hid (1 ≤ _) from hc1)
  obtain ⟨ac, cc, hcv, _⟩ := HP1.out.1.shape
  obtain ⟨ab, cb, hbv, _⟩ := HP1.out.2.shape
  subst hcv hbv
  clear hO hBs hok hc1 hR1 hF1 HVG HVZ hVR
  go_wp2_with fail
  refine (sSysNew_any (fun b => V.heap.size ≤ b) pr _ _ _ (HP1.out.kept (Kept.below ((Below.refl _ _).alloc (Nat.le_refl _) _)))).mono ?_
  rintro e w2 ⟨c, t, l, rfl, hO2, hb2⟩
  rw [HOK.out]
  have HRE : Hid (Reach pr (newS pr)) := ⟨[], rfl⟩
  have HMS : Hid (mSoB pr (newS pr) = true) := new_ok HOK.out
  have HIX : Hid (Inx pr (newS pr)) := new_inx HOK.out
  have HRS : Hid (∀ ts, Reach pr (runS pr (newS pr) ts)) := fun ts => ⟨ts, rfl⟩
  have hs2 : w1.heap.size + 1 ≤ w2.heap.size := by have := hb2.size; simpa using this
  have HD0 : Hid (SyD B R w.heap.size (w.heap.size + 1) w1.heap.size w2.heap.size p (p + 20000) V.heap.size w pr (newS pr) (.slice ac pr.cells.length cc) (.slice ab pr.bodies.length cb) c t l (w2.alloc (.cells #[c, t, .int .i64 (newS pr).clock, l] 32))) := by
    have hb12 : Below w1.heap.size w1 (w2.alloc (.cells #[c, t, .int .i64 (newS pr).clock, l] 32)) := ((((Below.refl w1.heap.size w1).alloc (Nat.le_refl _) _).trans (hb2.mono (by simp)))).alloc (by omega) _
    refine ⟨HG1.out.heap (hb12.block _ HG1.out.lt), HZ1.out.heap (hb12.block _ HZ1.out.lt), ?_, heap_alloc_new w2 _, (HP1.out.ltw.kept ⟨hb12.size, fun b o hb hlt => hb12.cell (p := ⟨b, o, none⟩) hlt⟩), ?_, ⟨p1, a1, by omega, HR1.out.below (hb12.mono HR1.out.le)⟩, HF1.out.trans (Fr.of_below (hb12.mono HF1.out.size))⟩
    · have h1 : PBox (w1.alloc (.cells #[.slice ac pr.cells.length cc, .slice ab pr.bodies.length cb] 26)) w1.heap.size (.slice ac pr.cells.length cc) (.slice ab pr.bodies.length cb) := heap_alloc_new w1 _
      exact (h1.heap (hb2.block _ (by simp))).alloc _
    · exact (hO2.below ((Below.refl _ _).alloc (Nat.le_refl _) _) (Nat.le_refl _)).base (by simp)
  have HR0 : Hid (∃ p', p ≤ p' ∧ p' ≤ p + 10000 ∧ RdAt B (w2.alloc (.cells #[c, t, .int .i64 (newS pr).clock, l] 32)) R p') := ⟨p1, a1, by omega, HR1.out.below ((((((Below.refl w1.heap.size w1).alloc (Nat.le_refl _) _).trans (hb2.mono (by simp)))).alloc (by omega) _).mono HR1.out.le)⟩
  have hC2 : V.heap.size ≤ (w2.alloc (.cells #[c, t, .int .i64 (newS pr).clock, l] 32)).heap.size := by simp; omega
  obtain ⟨c1, m1, t1, n1, l1, o1, rfl, rfl, rfl⟩ := hO2.on.shapes
  clear hO2 hb2 HG1 HZ1 HF1 HR1 HP1
  go_wp2_with fail
  have hsy : w1.heap.size < w2.heap.size := by omega
  have hsp : w.heap.size + 1 < w1.heap.size := by omega
  revert HD0 HRE HMS HIX HRS HR0 hC2 hsy hsp
  generalize newS pr = s0
  generalize (w2.alloc (.cells #[.slice c1 s0.cells.length m1, .slice t1 s0.tasks.length n1, .int .i64 s0.clock, .slice l1 s0.log.length o1] 32)) = V2
  generalize w2.heap.size = Y
  generalize w1.heap.size = P
  intro HRE HMS HIX HRS HD0 HR0 hC2 hsy hsp
  have HRd : Hid (∃ p', p ≤ p' ∧ p' ≤ p + 10000 ∧ RdAt B V2.drew R p') := by
    obtain ⟨p', h1, h2, h3⟩ := HR0.out
    exact ⟨p', h1, h2, h3.below (Below.refl _ _).drew⟩
  obtain ⟨p2, hp2, hp3, hRd⟩ := HRd.out
  have HRd := (show Hid (RdAt _ _ _ _) from hRd)
  have hw2 := HD0.out.fr.size
  have SM : Hid (∀ W : World, Fr R V2.heap.size V2 W → (W.cell? ⟨P, 0, none⟩ = some (.slice ac pr.cells.length cc) ∧ W.cell? ⟨P, 1, none⟩ = some (.slice ab pr.bodies.length cb)) ∧ (W.cell? ⟨Y, 0, none⟩ = some (.slice c1 s0.cells.length m1) ∧ W.cell? ⟨Y, 1, none⟩ = some (.slice t1 s0.tasks.length n1) ∧ W.cell? ⟨Y, 2, none⟩ = some (.int .i64 s0.clock) ∧ W.cell? ⟨Y, 3, none⟩ = some (.slice l1 s0.log.length o1))) := fun W hf => by
    have h1 : PBox W P _ _ := HD0.out.p.heap (hf.block P HD0.out.p.lt (by omega))
    have h2 : SBox W Y _ _ _ _ := HD0.out.y.heap (hf.block Y HD0.out.y.lt (by omega))
    exact ⟨⟨h1.cells.1, h1.cells.2.1⟩, h2.cells.1⟩
  obtain ⟨⟨p0, p1'⟩, y0, y1, y2, y3⟩ := SM.out _ (Fr.refl _ _ _)
  obtain ⟨⟨p0d, p1d⟩, y0d, y1d, y2d, y3d⟩ := SM.out V2.drew (Fr.of_below (Below.refl _ _).drew)
  have hPl := HD0.out.p.lt
  have hYl := HD0.out.y.lt
  clear hRd
  go_cut [6] (fun s6 wx => s6 = .bool true ∧ ∃ s c t l, Reach pr s ∧ SyD B R w.heap.size (w.heap.size + 1) P Y p (p + 20000) V.heap.size w pr s (.slice ac pr.cells.length cc) (.slice ab pr.bodies.length cb) c t l wx)
  case first =>
    go_region_with (first
      | (go_at_call 77; refine (pick_any B R p2 120 _ HRd.out (by omega) (by omega) (by omega)).mono ?_; rintro e w3 ⟨q, rfl, q0, q1, hR3, hF3⟩; have HX3 : Hid (Fr R V2.heap.size V2 w3) := (Fr.of_below (Below.refl _ _).drew).trans hF3; have HR3 : Hid (RdAt B w3 R (p2 + 1)) := hR3; obtain ⟨nq, rfl⟩ : ∃ nq : Nat, q = (nq : Int) := ⟨q.toNat, by omega⟩; have hwn : IntKind.i64.wrap (10 + (nq : Int)) = ((10 + nq : Nat) : Int) := (by rw [IntKind.wrap_i64]; omega); obtain ⟨⟨p03, p13⟩, y03, y13, y23, y33⟩ := SM.out w3 HX3.out; have hs3 := HX3.out.size; clear hR3 hF3)
      | (go_at_call 163; refine (l71Turns_any B R (p2 + 1) (10 + nq) _ HR3.out (by omega) (by omega)).mono ?_; rintro e w4 ⟨tv0, ts, p4, rfl, hT4, hl4, hx4, h41, h42, hR4, hF4⟩; have HX4 : Hid (Fr R V2.heap.size V2 w4) := HX3.out.trans (hF4.mono hs3); have HD4 : Hid (SyD B R w.heap.size (w.heap.size + 1) P Y p (p + 20000) V.heap.size w pr s0 (.slice ac pr.cells.length cc) (.slice ab pr.bodies.length cb) (.slice c1 s0.cells.length m1) (.slice t1 s0.tasks.length n1) (.slice l1 s0.log.length o1) w4) := HD0.out.move HX4.out hw2 ⟨p4, by omega, by omega, hR4⟩ (by omega) (by omega) (by omega) (by omega) (by omega); obtain ⟨tsa, tsc, rfl, _⟩ := hT4.shape; have HT4 : Hid (IntsAt w4 (.slice tsa ts.length tsc) ts) := hT4.at; obtain ⟨⟨p04, p14⟩, y04, y14, y24, y34⟩ := SM.out w4 HX4.out; have hs4 := HX4.out.size; clear hT4 hx4 hR4 hF4)
      | (go_at_call 80; refine (sysRun_yes (fun b => P ≤ b) pr s0 ts _ _ _ _ _ _ _ HD4.out.pr.lt HD4.out.s.on HMS.out HIX.out (small_ok HOK.out) HT4.out (by omega)).mono ?_; rintro e w5 ⟨c5, t5, l5, rfl, hO5, hb5⟩; have HD5 : Hid (SyD B R w.heap.size (w.heap.size + 1) P Y p (p + 20000) V.heap.size w pr (runS pr s0 ts) (.slice ac pr.cells.length cc) (.slice ab pr.bodies.length cb) c5 t5 l5 ((((w5.setCell ⟨Y, 0, none⟩ c5).setCell ⟨Y, 1, none⟩ t5).setCell ⟨Y, 2, none⟩ (.int .i64 (runS pr s0 ts).clock)).setCell ⟨Y, 3, none⟩ l5)) := HD4.out.store hb5 hO5 (by omega) (by omega) (by omega) (by omega) (by omega) (by omega) (by omega); have HSB5 : Hid (SBox w5 Y (.slice c1 s0.cells.length m1) (.slice t1 s0.tasks.length n1) (.slice l1 s0.log.length o1) s0.clock) := HD4.out.y.heap (hb5.block Y HD4.out.y.lt); obtain ⟨c5a, c5c, t5a, t5c, l5a, l5c, rfl, rfl, rfl⟩ := hO5.on.shapes; obtain ⟨⟨y05, y15, y25, y35⟩, ⟨f05, f15, f25, f35⟩, hYl5⟩ := HSB5.out.cells; clear hO5 hb5))
    all_goals
      go_wp2_with fail
      go_meet
      exact ⟨rfl, _, _, _, _, HRS.out ts, HD5.out⟩
  case rest =>
  obtain ⟨rfl, s, c, t, l, hre, hd⟩ := hcut
  have HRE2 := (show Hid (Reach _ _) from hre)
  have HD := (show Hid (SyD _ _ _ _ _ _ _ _ _ _ _ _ _ _ _ _ _ _) from hd)
  have hCw : V.heap.size ≤ wc.heap.size := by have := hd.p.lt; omega
  obtain ⟨xa, xc, ya, yc, za, zc, rfl, rfl, rfl⟩ := hd.s.on.shapes
  obtain ⟨k0, k1, _, _⟩ := hd.p.cells
  obtain ⟨g0, g1, fg0, fg1⟩ := hd.g.cells
  obtain ⟨⟨x0, x1, x2, x3⟩, _, _⟩ := hd.y.cells
  obtain ⟨⟨z0, z1, z2, z3⟩, ⟨fz0, fz1, fz2, fz3⟩, _⟩ := hd.z.cells
  have hGl := hd.g.lt
  have hZl := hd.z.lt
  have hPl' := hd.p.lt
  have hYl' := hd.y.lt
  clear hre hd SM HD0 HR0 HRd p0 p1' y0 y1 y2 y3 p0d p1d y0d y1d y2d y3d hPl hYl HRE HMS HIX HRS
  go_wp2_with fail
  go_region
  go_wp2_with fail
  obtain ⟨h1, h2⟩ := two_boxes (x0 := .slice ac pr.cells.length cc) (x1 := .slice ab pr.bodies.length cb) (c := .slice xa s.cells.length xc) (t := .slice ya s.tasks.length yc) (l := .slice za s.log.length zc) (k := s.clock) HD.out.g HD.out.z (by omega)
  obtain ⟨e0, e1, _, _⟩ := h1.cells
  obtain ⟨⟨d0, d1, d2, d3⟩, _, _⟩ := h2.cells
  clear k0 k1 g0 g1 fg0 fg1 x0 x1 x2 x3 z0 z1 z2 z3 fz0 fz1 fz2 fz3 h1 h2
  refine bodyPost_ret (v := .tuple #[.agg #[.slice ac pr.cells.length cc, .slice ab pr.bodies.length cb], .agg #[.slice xa s.cells.length xc, .slice ya s.tasks.length yc, .int .i64 s.clock, .slice za s.log.length zc]]) (by simp [results, Try.results128, go_sem, e0, e1, d0, d1, d2, d3]) rfl ?_
  refine DrawnS.fin HD.out hle (Nat.le_refl _) (by omega) (by omega) (by omega) (by omega) ?_ HOK.out HC1.out HRE2.out
  exact ((((((FrS.refl _ _).setCell (p := ⟨w.heap.size, 0, none⟩) (.inl rfl) _).setCell (p := ⟨w.heap.size, 1, none⟩) (.inl rfl) _).setCell (p := ⟨w.heap.size + 1, 0, none⟩) (.inr rfl) _).setCell (p := ⟨w.heap.size + 1, 1, none⟩) (.inr rfl) _).setCell (p := ⟨w.heap.size + 1, 2, none⟩) (.inr rfl) _).setCell (p := ⟨w.heap.size + 1, 3, none⟩) (.inr rfl) _ |>.drew
end Go.Proofs.Ytnbgonmdjgapnaa

namespace Go.Proofs.Ytnbgonmdjgapnaa
open Go.RowKit
set_option linter.unusedSimpArgs false
set_option linter.unusedVariables false
theorem eq_of_nth {α : Type} (z : α) {l m : List α} (hl : l.length = m.length) (h : ∀ i, i < l.length → nth z l i = nth z m i) : l = m := by
  apply List.ext_getElem hl
  intro i h1 h2
  have := h i h1
  rw [nth_eq z l i h1, nth_eq z m i h2] at this
  exact this
theorem ne_of_nth {α : Type} (z : α) {l m : List α} {i : Nat} (h : nth z l i ≠ nth z m i) : l ≠ m := fun e => h (by rw [e])
noncomputable def isT (p : Prop) : Bool := @decide p (Classical.propDecidable p)
theorem isT_yes {p : Prop} (h : p) : isT p = true := @decide_eq_true p (Classical.propDecidable p) h
theorem isT_no {p : Prop} (h : ¬ p) : isT p = false := @decide_eq_false p (Classical.propDecidable p) h
set_option maxHeartbeats 1000000 in
theorem lqInts_any (xs ys : List Int) (v v' : Value) (w : World) (h : IntsAt w v xs) (h' : IntsAt w v' ys) :
    Calls Try.prog 22 #[v, v'] w fun r w' => r = .returned (.bool (decide (xs = ys))) ∧ Below w.heap.size w w' := by
  obtain ⟨a, cap, rfl, hm, hc⟩ := h
  obtain ⟨a', cap', rfl, hm', hc'⟩ := h'
  by_cases hlen : xs.length = ys.length
  · have HC := (show Hid (∀ i, i < xs.length → _) from hc)
    have HC' := (show Hid (∀ i, i < ys.length → _) from hc')
    have HL := (show Hid (xs.length = ys.length) from hlen)
    rw [← hlen] at hm' ⊢
    clear hc hc' hlen
    go_enter Try.func22, Try.ntmps22
    go_wp2_with fail
    go_loopw [5] (fun q w' => ∃ k : Nat, k ≤ xs.length ∧ q = .int .i64 k ∧ (∀ j, j < k → nth 0 xs j = nth 0 ys j) ∧ Below w.heap.size w w') (fun q _ => xs.length - (intOf q).toNat)
    case atStart => exact ⟨0, Nat.zero_le _, rfl, fun j hj => absurd hj (Nat.not_lt_zero _), Below.refl _ _⟩
    case round =>
      obtain ⟨k, hk, rfl, hall, hb⟩ := hrel
      have HA := (show Hid (∀ j, j < k → nth 0 xs j = nth 0 ys j) from hall)
      clear hall
      by_cases hlt : k < xs.length
      · obtain ⟨b, off, rfl, hbw, c0⟩ := HC.out k hlt
        obtain ⟨b', off', rfl, hbw', c0'⟩ := HC'.out k (by have := HL.out; omega)
        rw [← hb.cell (p := ⟨b, _, none⟩) hbw] at c0
        rw [← hb.cell (p := ⟨b', _, none⟩) hbw'] at c0'
        have hi : (k : Int) < (xs.length : Int) := by omega
        have HB := (show Hid (Below w.heap.size w wr) from hb)
        by_cases he : nth 0 xs k = nth 0 ys k
        · have HE : Hid (∀ j, j < k + 1 → nth 0 xs j = nth 0 ys j) := fun j hj => by
            rcases Nat.lt_succ_iff_lt_or_eq.1 hj with h1 | rfl
            · exact HA.out j h1
            · exact he
          rw [← he] at c0'
          clear he hb
          generalize nth 0 xs k = z at *
          go_wp2_with fail
          go_quiet (fail)
          go_wp2_with fail
          go_roundw
          case rel => exact ⟨k + 1, by omega, by go_num, HE.out, below_drewN HB.out _⟩
          case measure => simp [intOf]; omega
        · have HN : Hid (decide (xs = ys) = false) := by
            have := ne_of_nth 0 he
            simp [Hid, this]
          have he' : (nth 0 xs k == nth 0 ys k) = false := by simp [he]
          clear hb
          generalize nth 0 xs k = z at *
          generalize nth 0 ys k = z' at *
          go_wp2_with fail
          go_quiet (fail)
          go_wp2_with fail
          go_ret
          exact ⟨by rw [HN.out]; rfl, below_drewN HB.out _⟩
      · have HY : Hid (decide (xs = ys) = true) := by
          have := eq_of_nth 0 HL.out (fun i hi => HA.out i (by omega))
          simp [Hid, this]
        go_wp2_with fail
        go_ret
        exact ⟨by rw [HY.out]; rfl, hb⟩
  · have HN : Hid (decide (xs = ys) = false) := by
      have : xs ≠ ys := fun e => hlen (by rw [e])
      simp [Hid, this]
    have h1 : ¬ (xs.length : Int) = (ys.length : Int) := by omega
    clear hc hc' hlen
    go_enter Try.func22, Try.ntmps22
    go_wp2_with fail
    go_ret
    exact ⟨by rw [HN.out]; rfl, Below.refl _ _⟩
end Go.Proofs.Ytnbgonmdjgapnaa

namespace Go.Proofs.Ytnbgonmdjgapnaa
open Go.RowKit
set_option linter.unusedSimpArgs false
set_option linter.unusedVariables false
theorem bytes_of {w : World} {x : Addr} {len cap : Nat} {zs : List Int} (hl : len ≤ cap) (hz : zs.length = cap) (hcell : ∀ i, i < zs.length → w.cell? (x.add i) = some (.int .u8 (zs.getD i 0))) (hwf : ∀ n ∈ zs, (Lit.int .u8 n).wf = true) : Bytes w (some x) len := fun i hi => by
  have hi' : i < zs.length := by omega
  have h1 := hcell i hi'
  have hlt := World.block_lt_of_cell? w _ h1
  have hs := World.cell?_spot (hcell 0 (by omega))
  have hw := hwf (zs.getD i 0) (by rw [List.getD_eq_getElem?_getD, List.getElem?_eq_getElem hi']; exact List.getElem_mem hi')
  obtain ⟨xb, xo, xs⟩ := x
  cases xs with
  | some s => simp [Addr.add] at hs
  | none =>
    have hm : IntKind.u8.min = 0 := by decide
    have hM : IntKind.u8.max = 255 := by decide
    have hr : 0 ≤ zs.getD i 0 ∧ zs.getD i 0 ≤ 255 := by
      unfold Lit.wf at hw
      simp only [Bool.and_eq_true, decide_eq_true_eq, hm, hM] at hw
      exact hw
    rw [Go.WideShapes.add_plain] at h1 hlt
    exact ⟨xb, xo, zs.getD i 0, rfl, hlt, hr.1, hr.2, h1⟩
end Go.Proofs.Ytnbgonmdjgapnaa
