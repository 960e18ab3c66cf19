import Derived.Test.YtgbgjljflgbcaaaSo38
import Derived.Test.YtgbgjljflgbcaaaSo11
import Derived.Test.YtgbgjljflgbcaaaSo37
import Derived.OwnWalk
import Derived.Test.YtgbgjljflgbcaaaSo01
import Derived.Deep.DeepCutAuto
import Derived.Deep.RegionWith
namespace Go.Proofs.Ytgbgjljflgbcaaa
set_option maxHeartbeats 8000000
open Go.RowKit
set_option linter.unusedSimpArgs false
set_option linter.unusedVariables false
set_option maxRecDepth 20000
def lenV : Value -> Nat
 | .slice _ n _ => n
 | _ => 0
def TurnR (B R p most : Nat) (w : World) (e : Ending) (w' : World) : Prop :=
 ∃ (v : Value) (ts : List Int) (p' : Nat), e = .returned v /\ IntsOn (fun b => w.heap.size <= b) w' v ts /\ ts.length <= most + 4 /\ (∀ x, x ∈ ts -> 0 <= x /\ x < 7) /\ p <= p' /\ p' <= p + 3 * (most + 4) /\ RdAt B w' R p' /\ Fr R w.heap.size w w'
theorem IntsOn.take {S : Nat -> Prop} {w : World} {a : Option Addr} {n cap : Nat} {xs : List Int} (h : IntsOn S w (.slice a n cap) xs) (k : Nat) (hk : k <= xs.length) : IntsOn S w (.slice a k cap) (xs.take k) := by
 obtain ⟨a', cap', e, hm, hc⟩ := h
 injection e with e1 e2 e3
 subst e1 e3
 have hl : (xs.take k).length = k := by simp; omega
 refine ⟨a, cap, by rw [hl], by omega, fun i hi => ?_⟩
 obtain ⟨b, off, e4, c⟩ := hc i (by omega)
 refine ⟨b, off, e4, ?_⟩
 have : nth 0 (xs.take k) i = nth 0 xs i := by
  unfold nth
  simp [List.getElem?_take, show i < k by omega]
 rw [this]
 exact c
theorem l71Turns_any (B R p most : Nat) (w : World) (h : RdAt B w R p) (hp : p <= 900000) (hm : most <= 1000) :
   Calls Try.prog 129 #[.pointer (some ⟨R, 0, none⟩), .int .i64 (most : Int)] w (TurnR B R p most w) := by
 have hlt := h.lt
 have hle := h.le
 obtain ⟨i0, hi, hz0, hz1, hz2⟩ := info_parts Try.info_int
 have HR0 := (show Hid (RdAt _ _ _ _) from h)
 clear h
 go_enter Try.func129, Try.ntmps129
 go_wp2_with fail
 go_loopw [5] (fun o w' => ∃ (xs : List Int) (p' : Nat), OwnInt w.heap.size w' o xs /\ xs.length <= most + 4 /\ (∀ x, x ∈ xs -> 0 <= x /\ x < 7) /\ p <= p' /\ p' <= p + 3 * xs.length /\ RdAt B w' R p' /\ Fr R w.heap.size w w') (fun o _ => most - lenV o)
 case atStart => exact ⟨[], p, own_made0 _ _ _ _ rfl (Nat.le_refl _), by simp, by simp, Nat.le_refl _, by simp, HR0.out.below ((Below.refl _ _).alloc hle _), (Fr.refl _ _ _).alloc (Nat.le_refl _) _⟩
 clear HR0
 case round =>
   obtain ⟨xs, p1, hown, hl, hx, h1, h2, hR, hF⟩ := hrel
   obtain ⟨oa, oc, rfl, hoc, hoc2⟩ := own_shape hown
   have HO := (show Hid (OwnInt _ _ _ _) from hown)
   have HX := (show Hid (∀ x, _) from hx)
   have HF := (show Hid (Fr _ _ _ _) from hF)
   have HR := (show Hid (RdAt _ _ _ _) from hR)
   have hsz := hF.size
   clear hown hx hF hR hoc hoc2
   by_cases hgo : xs.length < most
   case neg =>
     have hgo' : ¬ (xs.length : Int) < (most : Int) := by omega
     have hmost : (most : Int) <= (xs.length : Int) := by omega
     have hoc3 : xs.length <= oc := by
       obtain ⟨a, c, e, h3, _⟩ := own_shape HO.out
       injection e with e1 e2 e3
       omega
     go_wp2_with fail
     go_ret
     exact ⟨_, xs.take most, p1, rfl, (HO.out.on (fun b hb => hb)).take most (by omega), by simp; omega, fun x hx => HX.out x (List.mem_of_mem_take hx), h1, by omega, HR.out, HF.out⟩
   case pos =>
   have hgo' : (xs.length : Int) < (most : Int) := by omega
   go_wp2_with fail
   refine (pick_any B R p1 7 _ HR.out (by omega) (by omega) (by omega)).mono ?_
   rintro e w1 ⟨k, rfl, hk0, hk7, hR1, hF1⟩
   have HO1 : Hid (OwnInt w.heap.size w1 (.slice oa xs.length oc) xs) := own_fr HO.out hF1 (by omega)
   have HF2 : Hid (Fr R w.heap.size w w1) := HF.out.trans (hF1.mono hsz)
   have HR1 := (show Hid (RdAt _ _ _ _) from hR1)
   have hs1 := hF1.size
   clear hR1 hF1 HO HF HR
   go_wp2_with fail
   refine (pick_any B R (p1 + 1) 5 _ HR1.out (by omega) (by omega) (by omega)).mono ?_
   rintro e w2 ⟨q2, rfl, q20, q25, hR2, hF2⟩
   have HO2 : Hid (OwnInt w.heap.size w2 (.slice oa xs.length oc) xs) := own_fr HO1.out hF2 (by omega)
   have HF3 : Hid (Fr R w.heap.size w w2) := HF2.out.trans (hF2.mono (by omega))
   have HR2 := (show Hid (RdAt _ _ _ _) from hR2)
   have hs2 := hF2.size
   clear hR2 hF2 HO1 HF2 HR1
   obtain ⟨n0, rfl⟩ : ∃ n0 : Nat, q2 = (n0 : Int) := ⟨q2.toNat, by omega⟩
   have hwn : IntKind.i64.wrap (1 + (n0 : Int)) = ((1 + n0 : Nat) : Int) := by rw [IntKind.wrap_i64]; omega
   go_wp2_with fail
   go_loopw [5, 7] (fun o q w' => ∃ (ys : List Int) (j : Nat), q = .int .i64 j /\ OwnInt w.heap.size w' o ys /\ ys.length + j = xs.length + (1 + n0) /\ (∀ y, y ∈ ys -> 0 <= y /\ y < 7) /\ RdAt B w' R (p1 + 1 + 1) /\ Fr R w.heap.size w w') (fun _ q _ => (intOf q).toNat)
   case atStart => exact ⟨xs, 1 + n0, by first | rfl | go_num, HO2.out, rfl, HX.out, HR2.out, HF3.out⟩
   clear HO2 HR2 HF3
   case round =>
     obtain ⟨ys, j, rfl, hown, hj, hy, hR, hF⟩ := hrel
     obtain ⟨ya, yc, rfl, hyc, hyc2⟩ := own_shape hown
     have HO := (show Hid (OwnInt _ _ _ _) from hown)
     have HY := (show Hid (∀ x, _) from hy)
     have HF := (show Hid (Fr _ _ _ _) from hF)
     have HR := (show Hid (RdAt _ _ _ _) from hR)
     have hsz := hF.size
     clear hown hy hF hR hyc hyc2
     by_cases hj0 : 0 < j
     case neg =>
       have hj1 : ¬ (0 : Int) < (j : Int) := by omega
       go_wp2_with fail
       refine (pick_any B R (p1 + 1 + 1) 40 _ HR.out (by omega) (by omega) (by omega)).mono ?_
       rintro e w5 ⟨q5, rfl, q50, q51, hR5, hF5⟩
       have HO5 : Hid (OwnInt w.heap.size w5 (.slice ya ys.length yc) ys) := own_fr HO.out hF5 (by omega)
       have HF5 : Hid (Fr R w.heap.size w w5) := HF.out.trans (hF5.mono hsz)
       have HR5 := (show Hid (RdAt _ _ _ _) from hR5)
       clear hR5 hF5 HO HF HR
       by_cases hq : q5 = 0
       . subst hq
         go_wp2_with fail
         (try simp only [Exit.inBlock, Exit.then])
         go_ret
         exact ⟨_, ys, p1 + 1 + 1 + 1, rfl, HO5.out.on (fun b hb => hb), by omega, HY.out, by omega, by omega, HR5.out, HF5.out⟩
       . have hqb : (q5 == 0) = false := by simp [hq]
         go_wp2_with fail
         go_roundw
         case rel => exact ⟨ys, p1 + 1 + 1 + 1, HO5.out, by omega, HY.out, by omega, by omega, HR5.out, HF5.out⟩
         case measure => simp [lenV]; omega
     case pos =>
     have hj1 : (0 : Int) < (j : Int) := by omega
     have hwj : IntKind.i64.wrap ((j : Int) - 1) = ((j - 1 : Nat) : Int) := by rw [IntKind.wrap_i64]; omega
     go_wp2_with (at_builtin; refine wpList_append_own _ rfl _ _ 23 rfl w.heap.size 3 i0 (.int .i64 0) 1 8 Try.underlying23 hi hz0 hz1 hz2 rfl (by decide) _ _ _ rfl (own_below HO.out bq0 (Nat.le_refl _)) ⟨wr.heap.size, 0, none⟩ 1 1 [.int .i64 k] rfl rfl (fun j u hj => by match j, hj with | 0, hj => simp at hj; subst hj; simp [Addr.add]) (fun u hu => by simp at hu; subst hu; rfl) ?a3 ?a4 ?a5 ?_)
     case a3 => unfold maxLen; omega
     case a4 => omega
     case a5 => (try simp); omega
     intro v' w4 hown' hgrow _
     have HO4 : Hid (OwnInt w.heap.size w4 v' (ys ++ [k])) := OwnInt.snoc hown'
     have hge : ∀ g, (Value.slice ya ys.length yc).ownBlock = some g -> w.heap.size <= g := fun g hg => (HO.out.lt g hg).1
     have HB4 : Hid (Below w.heap.size wr w4) := Below.grown ((Below.refl _ _).alloc hsz _) hgrow (by simp; omega) hge
     have HF4 : Hid (Fr R w.heap.size w w4) := HF.out.trans (Fr.of_below HB4.out)
     have HR4 : Hid (RdAt B w4 R (p1 + 1 + 1)) := HR.out.below (HB4.out.mono hle)
     clear hown' hgrow hge HO HF HR HB4
     go_wp2_with fail
     go_roundw
     case rel => exact ⟨ys ++ [k], j - 1, by go_num, HO4.out, by simp; omega, fun y hy => by rcases List.mem_append.1 hy with h | h; exact HY.out y h; rw [List.mem_singleton.1 h]; exact ⟨hk0, hk7⟩, HR4.out, HF4.out⟩
     case measure => simp [intOf]; omega

set_option maxRecDepth 20000
theorem ac_small {a : Ac} {nc body nb : Int} (h : acB a nc body nb = true) : Small a := by
 unfold acB at h
 unfold Small
 split at h
 . simp [dsB, -List.length_eq_zero_iff] at h
   omega
 split at h
 . simp [ksB, inB, -List.length_eq_zero_iff] at h
   omega
 split at h
 . simp at h
   simp [h]
 split at h
 . simp at h
   simp [h]
 . cases h
theorem small_ok {p : Pr} (h : okB p = true) : SmallP p := by
 obtain ⟨h1, h2, h3, h4⟩ := ok_sizes h
 have hf := okB_form h
 refine ⟨by omega, by omega, fun j hj => ⟨by have := h4 j hj; omega, fun i hi => ?_⟩⟩
 have := hf.2 j hj
 simp only [boB, Bool.and_eq_true, List.all_eq_true] at this
 exact ac_small (this.2 _ (nth_mem Ac.z _ i hi))
theorem IntsOn.ltw {S : Nat -> Prop} {w : World} {v : Value} {xs : List Int} (h : IntsOn S w v xs) : IntsOn (fun b => S b /\ b < w.heap.size) w v xs := by
 obtain ⟨a, cap, e, hm, hc⟩ := h
 refine ⟨a, cap, e, hm, fun i hi => ?_⟩
 obtain ⟨b, off, e2, hs, hb, c⟩ := hc i hi
 exact ⟨b, off, e2, ⟨hs, hb⟩, hb, c⟩
theorem DeedsOn.ltw {S : Nat -> Prop} {w : World} {v : Value} {xs : List De} (h : DeedsOn S w v xs) : DeedsOn (fun b => S b /\ b < w.heap.size) w v xs := by
 obtain ⟨a, cap, e, hm, hc⟩ := h
 refine ⟨a, cap, e, hm, fun i hi => ?_⟩
 obtain ⟨b, off, e2, hs, hb, c⟩ := hc i hi
 exact ⟨b, off, e2, ⟨hs, hb⟩, hb, c⟩
theorem ActsOn.ltw {S : Nat -> Prop} {w : World} {v : Value} {xs : List Ac} (h : ActsOn S w v xs) : ActsOn (fun b => S b /\ b < w.heap.size) w v xs := by
 obtain ⟨a, cap, e, hm, hc⟩ := h
 refine ⟨a, cap, e, hm, fun i hi => ?_⟩
 obtain ⟨b, off, dv, kv, e2, hs, hb, c0, c1, c2, c3, d, k⟩ := hc i hi
 exact ⟨b, off, dv, kv, e2, ⟨hs, hb⟩, hb, c0, c1, c2, c3, d.ltw, k.ltw⟩
theorem BodiesOn.ltw {S : Nat -> Prop} {w : World} {v : Value} {xs : List (List Ac)} (h : BodiesOn S w v xs) : BodiesOn (fun b => S b /\ b < w.heap.size) w v xs := by
 obtain ⟨a, cap, e, hm, hc⟩ := h
 refine ⟨a, cap, e, hm, fun i hi => ?_⟩
 obtain ⟨b, off, av, e2, hs, hb, c, d⟩ := hc i hi
 exact ⟨b, off, av, e2, ⟨hs, hb⟩, hb, c, d.ltw⟩
theorem PrS.wide {S S' : Nat -> Prop} (hS : ∀ b, S b -> S' b) {w : World} {cv bv : Value} {p : Pr} (h : PrS S w cv bv p) : PrS S' w cv bv p := ⟨h.1.wide hS, h.2.wide hS⟩
theorem PrS.ltw {S : Nat -> Prop} {w : World} {cv bv : Value} {p : Pr} (h : PrS S w cv bv p) : PrS (fun b => S b /\ b < w.heap.size) w cv bv p := ⟨h.1.ltw, h.2.ltw⟩
theorem PrS.lt {S : Nat -> Prop} {w : World} {cv bv : Value} {p : Pr} (h : PrS S w cv bv p) : PrS (fun b => b < w.heap.size) w cv bv p := h.ltw.wide (fun _ hb => hb.2)
def Reach (p : Pr) (s : Sy) : Prop := ∃ ts, s = runS p (newS p) ts
theorem Reach.inx {p : Pr} {s : Sy} (h : Reach p s) (hok : okB p = true) : Inx p s := by
 obtain ⟨ts, rfl⟩ := h
 exact (new_inx hok).run ts
def SBox (w : World) (Y : Nat) (c t l : Value) (k : Int) : Prop := w.heap[Y]? = some (.cells #[c, t, .int .i64 k, l] 32 (0, 0))
theorem SBox.heap {w w' : World} {Y : Nat} {c t l : Value} {k : Int} (h : SBox w Y c t l k) (hk : w'.heap[Y]? = w.heap[Y]?) : SBox w' Y c t l k := hk.trans h
theorem SBox.lt {w : World} {Y : Nat} {c t l : Value} {k : Int} (h : SBox w Y c t l k) : Y < w.heap.size := bx_lt h
theorem SBox.cells {w : World} {Y : Nat} {c t l : Value} {k : Int} (h : SBox w Y c t l k) : (w.cell? ⟨Y, 0, none⟩ = some c /\ w.cell? ⟨Y, 1, none⟩ = some t /\ w.cell? ⟨Y, 2, none⟩ = some (.int .i64 k) /\ w.cell? ⟨Y, 3, none⟩ = some l) /\ (w.frozen? ⟨Y, 0, none⟩ = false /\ w.frozen? ⟨Y, 1, none⟩ = false /\ w.frozen? ⟨Y, 2, none⟩ = false /\ w.frozen? ⟨Y, 3, none⟩ = false) /\ Y < w.heap.size := box4c h
theorem SBox.put {w : World} {Y : Nat} {c t l c' t' l' : Value} {k k' : Int} (h : SBox w Y c t l k) : SBox ((((w.setCell ⟨Y, 0, none⟩ c').setCell ⟨Y, 1, none⟩ t').setCell ⟨Y, 2, none⟩ (.int .i64 k')).setCell ⟨Y, 3, none⟩ l') Y c' t' l' k' := (box4 h).1
structure SyD (B R G Z P Y lo hi C : Nat) (w : World) (pr : Pr) (s : Sy) (cv bv c t l : Value) (wx : World) : Prop where
 g : PBox wx G (.slice none 0 0) (.slice none 0 0)
 z : SBox wx Z (.slice none 0 0) (.slice none 0 0) (.slice none 0 0) 0
 p : PBox wx P cv bv
 y : SBox wx Y c t l s.clock
 pr : PrS (fun b => C <= b /\ b < P) wx cv bv pr
 s : OwnS P wx c t l s
 rd : ∃ p', lo <= p' /\ p' <= hi /\ RdAt B wx R p'
 fr : Fr R w.heap.size w wx
theorem SyD.move {B R G Z P Y lo hi C : Nat} {w wx W : World} {pr : Pr} {s : Sy} {cv bv c t l : Value} (h : SyD B R G Z P Y lo hi C w pr s cv bv c t l wx) (hf : Fr R wx.heap.size wx W) (hw : w.heap.size <= wx.heap.size) (hrd : ∃ p', lo <= p' /\ p' <= hi /\ RdAt B W R p') (hG : R < G) (hZ : R < Z) (hP : R < P) (hY : R < Y) (hC : R < C) : SyD B R G Z P Y lo hi C w pr s cv bv c t l W := by
 refine ⟨h.g.heap (hf.block _ h.g.lt (by omega)), h.z.heap (hf.block _ h.z.lt (by omega)), h.p.heap (hf.block _ h.p.lt (by omega)), h.y.heap (hf.block _ h.y.lt (by omega)), h.pr.kept ⟨hf.size, fun b o hb hlt => hf.cell hlt (by have hb : C <= b /\ b < P := hb; omega)⟩, h.s.ext (fun g hg hlt => hf.block g hlt (by omega)), hrd, h.fr.trans (hf.mono hw)⟩
theorem SyD.store {B R G Z P Y lo hi C : Nat} {w w4 w5 : World} {pr : Pr} {s s5 : Sy} {cv bv c t l c5 t5 l5 : Value} (h : SyD B R G Z P Y lo hi C w pr s cv bv c t l w4) (hb : Below w4.heap.size w4 w5) (hO : OwnS w4.heap.size w5 c5 t5 l5 s5) (hG : G < Y) (hZ : Z < Y) (hP : P < Y) (hC : C <= w4.heap.size) (hwY : w.heap.size <= Y) (hBY : B <= Y) (hw : w.heap.size <= w4.heap.size) :
  SyD B R G Z P Y lo hi C w pr s5 cv bv c5 t5 l5 ((((w5.setCell ⟨Y, 0, none⟩ c5).setCell ⟨Y, 1, none⟩ t5).setCell ⟨Y, 2, none⟩ (.int .i64 s5.clock)).setCell ⟨Y, 3, none⟩ l5) := by
 have hF : FrS (fun b => b = Y) w5 ((((w5.setCell ⟨Y, 0, none⟩ c5).setCell ⟨Y, 1, none⟩ t5).setCell ⟨Y, 2, none⟩ (.int .i64 s5.clock)).setCell ⟨Y, 3, none⟩ l5) := ((((FrS.refl (fun b => b = Y) w5).setCell (p := ⟨Y, 0, none⟩) rfl _).setCell (p := ⟨Y, 1, none⟩) rfl _).setCell (p := ⟨Y, 2, none⟩) rfl _).setCell (p := ⟨Y, 3, none⟩) rfl _
 have hY := h.y.lt
 have hF4 := (FrS.of_below (S := fun b => b = Y) hb).trans hF
 have hbel : Below Y w4 ((((w5.setCell ⟨Y, 0, none⟩ c5).setCell ⟨Y, 1, none⟩ t5).setCell ⟨Y, 2, none⟩ (.int .i64 s5.clock)).setCell ⟨Y, 3, none⟩ l5) := hF4.below (fun b e => by have e : b = Y := e; omega) (by omega)
 obtain ⟨p', h1, h2, h3⟩ := h.rd
 refine ⟨h.g.heap (hF4.block _ h.g.lt (by show ¬ G = Y; omega)), h.z.heap (hF4.block _ h.z.lt (by show ¬ Z = Y; omega)), h.p.heap (hF4.block _ h.p.lt (by show ¬ P = Y; omega)), SBox.put (h.y.heap (hb.block _ hY)), h.pr.kept ⟨hF4.size, fun b o hb' hlt => hF4.cell hlt (by have hb' : C <= b /\ b < P := hb'; show ¬ b = Y; omega)⟩, ((((hO.setX hY _).setX hY _).setX hY _).setX hY _).base (Nat.le_of_lt h.p.lt), ⟨p', h1, h2, h3.below (hbel.mono hBY)⟩, h.fr.trans (Fr.of_below (hbel.mono hwY))⟩
theorem two_boxes {wx : World} {G Z : Nat} {g0 g1 z0 z1 z3 x0 x1 c t l : Value} {zk k : Int} (hg : PBox wx G g0 g1) (hz : SBox wx Z z0 z1 z3 zk) (h : G ≠ Z) :
   PBox ((((((wx.setCell ⟨G, 0, none⟩ x0).setCell ⟨G, 1, none⟩ x1).setCell ⟨Z, 0, none⟩ c).setCell ⟨Z, 1, none⟩ t).setCell ⟨Z, 2, none⟩ (.int .i64 k)).setCell ⟨Z, 3, none⟩ l) G x0 x1 /\
   SBox ((((((wx.setCell ⟨G, 0, none⟩ x0).setCell ⟨G, 1, none⟩ x1).setCell ⟨Z, 0, none⟩ c).setCell ⟨Z, 1, none⟩ t).setCell ⟨Z, 2, none⟩ (.int .i64 k)).setCell ⟨Z, 3, none⟩ l) Z c t l k := by
 refine ⟨?_, SBox.put (k := zk) (c := z0) (t := z1) (l := z3) ?_⟩
 . refine ((hg.set0 x0).set1 x1).heap ?_
   rw [heap_set_ne _ _ _ G h, heap_set_ne _ _ _ G h, heap_set_ne _ _ _ G h, heap_set_ne _ _ _ G h]
 . refine hz.heap ?_
   rw [heap_set_ne _ _ _ Z (Ne.symm h), heap_set_ne _ _ _ Z (Ne.symm h)]
def DrawnS (B R p hi : Nat) (w : World) (e : Ending) (w' : World) : Prop :=
 ∃ (pr : Pr) (s : Sy) (cv bv c t l : Value) (p' D : Nat), e = .returned (.tuple #[.agg #[cv, bv], .agg #[c, t, .int .i64 s.clock, l]]) /\ w.heap.size <= D /\ PrS (fun b => w.heap.size <= b /\ b < D) w' cv bv pr /\ OwnS D w' c t l s /\ okB pr = true /\ 1 <= pr.cells.length /\ Reach pr s /\ p <= p' /\ p' <= p + hi /\ RdAt B w' R p' /\ Fr R w.heap.size w w'
theorem DrawnS.fin {B R p hi G Z P Y C : Nat} {w wx X : World} {pr : Pr} {s : Sy} {cv bv c t l : Value} (h : SyD B R G Z P Y p (p + hi) C w pr s cv bv c t l wx) (hB : B <= w.heap.size) (hG : w.heap.size <= G) (hZ : w.heap.size <= Z) (hGC : G < C) (hZC : Z < C) (hCP : C <= P) (hX : FrS (fun b => b = G \/ b = Z) wx X) (hok : okB pr = true) (hc1 : 1 <= pr.cells.length) (hr : Reach pr s) :
  DrawnS B R p hi w (.returned (.tuple #[.agg #[cv, bv], .agg #[c, t, .int .i64 s.clock, l]])) X := by
 obtain ⟨p', h1, h2, h3⟩ := h.rd
 have hbel : Below w.heap.size wx X := hX.below (fun b hb => by rcases hb with hb | hb <;> omega) h.fr.size
 have hK : Kept (fun b => C <= b /\ b < P) wx X := ⟨hX.size, fun b o hb hlt => World.cell?_of_block (hX.block b hlt (fun e => by have hb : C <= b /\ b < P := hb; rcases e with e | e <;> omega))⟩
 refine ⟨pr, s, cv, bv, c, t, l, p', P, rfl, by omega, (h.pr.kept hK).wide (fun b hb => by have : C <= b /\ b < P := hb; show w.heap.size <= b /\ b < P; omega), h.s.ext (fun g hg hlt => hX.block g hlt (fun e => by rcases e with e | e <;> omega)), hok, hc1, hr, h1, h2, h3.below (hbel.mono hB), h.fr.trans (Fr.of_below hbel)⟩
theorem l71Sys_any (B R p : Nat) (w : World) (h : RdAt B w R p) (hp : p <= 400000) :
   Calls Try.prog 95 #[.pointer (some ⟨R, 0, none⟩)] w (DrawnS B R p 20000 w) := by
 have hlt := h.lt
 have hle := h.le
 have HY : Hid (∃ V, V = ((w.alloc (.cells #[.slice none 0 0, .slice none 0 0] 26)).alloc (.cells #[.slice none 0 0, .slice none 0 0, .int .i64 0, .slice none 0 0] 32)) /\ PBox V w.heap.size (.slice none 0 0) (.slice none 0 0) /\ SBox V (w.heap.size + 1) (.slice none 0 0) (.slice none 0 0) (.slice none 0 0) 0 /\ V.heap.size = w.heap.size + 2 /\ Below w.heap.size w V /\ RdAt B V R p) := by
   refine ⟨_, rfl, PBox.alloc (heap_alloc_new w _) _, ?_, by simp, (((Below.refl _ _).alloc (Nat.le_refl _) _).alloc (by simp) _), h.below (((Below.refl _ _).alloc hle _).alloc (by simp; omega) _)⟩
   unfold SBox
   simpa using heap_alloc_new (w.alloc (.cells #[.slice none 0 0, .slice none 0 0] 26)) (.cells #[.slice none 0 0, .slice none 0 0, .int .i64 0, .slice none 0 0] 32)
 clear h
 go_enter Try.func95, Try.ntmps95
 go_wp2_with fail
 obtain ⟨V, hV, hVG, hVZ, hVs, hVb, hVR⟩ := HY.out
 rw [<- hV]
 clear hV HY
 have hC : V.heap.size = w.heap.size + 1 + 1 := by omega
 have HVG := (show Hid (PBox _ _ _ _) from hVG)
 have HVZ := (show Hid (SBox _ _ _ _ _ _) from hVZ)
 have HVB := (show Hid (Below _ _ _) from hVb)
 clear hVG hVZ hVb hVs
 refine (l71Prog_any B R p _ hVR (by omega)).mono ?_
 rintro e w1 ⟨pr, cv, bv, p1, rfl, hO, hBs, hok, hc1, a1, a2, hR1, hF1⟩
 have HP1 : Hid (PrS (fun b => V.heap.size <= b) w1 cv bv pr) := ⟨hO.on (fun b hb => hb), hBs.on (fun b hb => hb)⟩
 have hsV := HVB.out.size
 have hs1 := hF1.size
 have HG1 : Hid (PBox w1 w.heap.size (.slice none 0 0) (.slice none 0 0)) := HVG.out.fr hF1 (by omega)
 have HZ1 : Hid (SBox w1 (w.heap.size + 1) (.slice none 0 0) (.slice none 0 0) (.slice none 0 0) 0) := HVZ.out.heap (hF1.block (w.heap.size + 1) HVZ.out.lt (by omega))
 have HF1 : Hid (Fr R w.heap.size w w1) := (Fr.of_below HVB.out).trans (hF1.mono (by omega))
 have HR1 := (show Hid (RdAt _ _ _ _) from hR1)
 have HOK := (show Hid (_ = _) from hok)
 have HC1 := (show Hid (1 <= _) from hc1)
 obtain ⟨ac, cc, hcv, _⟩ := HP1.out.1.shape
 obtain ⟨ab, cb, hbv, _⟩ := HP1.out.2.shape
 subst hcv hbv
 clear hO hBs hok hc1 hR1 hF1 HVG HVZ hVR
 go_wp2_with fail
 refine (sSysNew_any (fun b => V.heap.size <= b) pr _ _ _ (HP1.out.kept (Kept.below ((Below.refl _ _).alloc (Nat.le_refl _) _)))).mono ?_
 rintro e w2 ⟨c, t, l, rfl, hO2, hb2⟩
 rw [HOK.out]
 have HRE : Hid (Reach pr (newS pr)) := ⟨[], rfl⟩
 have HMS : Hid (mSoB pr (newS pr) = true) := new_ok HOK.out
 have HIX : Hid (Inx pr (newS pr)) := new_inx HOK.out
 have HRS : Hid (∀ ts, Reach pr (runS pr (newS pr) ts)) := fun ts => ⟨ts, rfl⟩
 have hs2 : w1.heap.size + 1 <= w2.heap.size := by have := hb2.size; simpa using this
 have HD0 : Hid (SyD B R w.heap.size (w.heap.size + 1) w1.heap.size w2.heap.size p (p + 20000) V.heap.size w pr (newS pr) (.slice ac pr.cells.length cc) (.slice ab pr.bodies.length cb) c t l (w2.alloc (.cells #[c, t, .int .i64 (newS pr).clock, l] 32))) := by
   have hb12 : Below w1.heap.size w1 (w2.alloc (.cells #[c, t, .int .i64 (newS pr).clock, l] 32)) := ((((Below.refl w1.heap.size w1).alloc (Nat.le_refl _) _).trans (hb2.mono (by simp)))).alloc (by omega) _
   refine ⟨HG1.out.heap (hb12.block _ HG1.out.lt), HZ1.out.heap (hb12.block _ HZ1.out.lt), ?_, heap_alloc_new w2 _, (HP1.out.ltw.kept ⟨hb12.size, fun b o hb hlt => hb12.cell (p := ⟨b, o, none⟩) hlt⟩), ?_, ⟨p1, a1, by omega, HR1.out.below (hb12.mono HR1.out.le)⟩, HF1.out.trans (Fr.of_below (hb12.mono HF1.out.size))⟩
   . have h1 : PBox (w1.alloc (.cells #[.slice ac pr.cells.length cc, .slice ab pr.bodies.length cb] 26)) w1.heap.size (.slice ac pr.cells.length cc) (.slice ab pr.bodies.length cb) := heap_alloc_new w1 _
     exact (h1.heap (hb2.block _ (by simp))).alloc _
   . exact (hO2.below ((Below.refl _ _).alloc (Nat.le_refl _) _) (Nat.le_refl _)).base (by simp)
 have HR0 : Hid (∃ p', p <= p' /\ p' <= p + 10000 /\ RdAt B (w2.alloc (.cells #[c, t, .int .i64 (newS pr).clock, l] 32)) R p') := ⟨p1, a1, by omega, HR1.out.below ((((((Below.refl w1.heap.size w1).alloc (Nat.le_refl _) _).trans (hb2.mono (by simp)))).alloc (by omega) _).mono HR1.out.le)⟩
 have hC2 : V.heap.size <= (w2.alloc (.cells #[c, t, .int .i64 (newS pr).clock, l] 32)).heap.size := by simp; omega
 obtain ⟨c1, m1, t1, n1, l1, o1, rfl, rfl, rfl⟩ := hO2.on.shapes
 clear hO2 hb2 HG1 HZ1 HF1 HR1 HP1
 go_wp2_with fail
 have hsy : w1.heap.size < w2.heap.size := by omega
 have hsp : w.heap.size + 1 < w1.heap.size := by omega
 revert HD0 HRE HMS HIX HRS HR0 hC2 hsy hsp
 generalize newS pr = s0
 generalize (w2.alloc (.cells #[.slice c1 s0.cells.length m1, .slice t1 s0.tasks.length n1, .int .i64 s0.clock, .slice l1 s0.log.length o1] 32)) = V2
 generalize w2.heap.size = Y
 generalize w1.heap.size = P
 intro HRE HMS HIX HRS HD0 HR0 hC2 hsy hsp
 have HRd : Hid (∃ p', p <= p' /\ p' <= p + 10000 /\ RdAt B V2.drew R p') := by
   obtain ⟨p', h1, h2, h3⟩ := HR0.out
   exact ⟨p', h1, h2, h3.below (Below.refl _ _).drew⟩
 obtain ⟨p2, hp2, hp3, hRd⟩ := HRd.out
 have HRd := (show Hid (RdAt _ _ _ _) from hRd)
 have hw2 := HD0.out.fr.size
 have SM : Hid (∀ W : World, Fr R V2.heap.size V2 W -> (W.cell? ⟨P, 0, none⟩ = some (.slice ac pr.cells.length cc) /\ W.cell? ⟨P, 1, none⟩ = some (.slice ab pr.bodies.length cb)) /\ (W.cell? ⟨Y, 0, none⟩ = some (.slice c1 s0.cells.length m1) /\ W.cell? ⟨Y, 1, none⟩ = some (.slice t1 s0.tasks.length n1) /\ W.cell? ⟨Y, 2, none⟩ = some (.int .i64 s0.clock) /\ W.cell? ⟨Y, 3, none⟩ = some (.slice l1 s0.log.length o1))) := fun W hf => by
   have h1 : PBox W P _ _ := HD0.out.p.heap (hf.block P HD0.out.p.lt (by omega))
   have h2 : SBox W Y _ _ _ _ := HD0.out.y.heap (hf.block Y HD0.out.y.lt (by omega))
   exact ⟨⟨h1.cells.1, h1.cells.2.1⟩, h2.cells.1⟩
 obtain ⟨⟨p0, p1'⟩, y0, y1, y2, y3⟩ := SM.out _ (Fr.refl _ _ _)
 obtain ⟨⟨p0d, p1d⟩, y0d, y1d, y2d, y3d⟩ := SM.out V2.drew (Fr.of_below (Below.refl _ _).drew)
 have hPl := HD0.out.p.lt
 have hYl := HD0.out.y.lt
 clear hRd
 go_cut [6] (fun s6 wx => s6 = .bool true /\ ∃ s c t l, Reach pr s /\ SyD B R w.heap.size (w.heap.size + 1) P Y p (p + 20000) V.heap.size w pr s (.slice ac pr.cells.length cc) (.slice ab pr.bodies.length cb) c t l wx)
 case first =>
   go_region_with (first
     | (go_at_call 48; refine (pick_any B R p2 120 _ HRd.out (by omega) (by omega) (by omega)).mono ?_; rintro e w3 ⟨q, rfl, q0, q1, hR3, hF3⟩; have HX3 : Hid (Fr R V2.heap.size V2 w3) := (Fr.of_below (Below.refl _ _).drew).trans hF3; have HR3 : Hid (RdAt B w3 R (p2 + 1)) := hR3; obtain ⟨nq, rfl⟩ : ∃ nq : Nat, q = (nq : Int) := ⟨q.toNat, by omega⟩; have hwn : IntKind.i64.wrap (10 + (nq : Int)) = ((10 + nq : Nat) : Int) := (by rw [IntKind.wrap_i64]; omega); obtain ⟨⟨p03, p13⟩, y03, y13, y23, y33⟩ := SM.out w3 HX3.out; have hs3 := HX3.out.size; clear hR3 hF3)
     | (go_at_call 129; refine (l71Turns_any B R (p2 + 1) (10 + nq) _ HR3.out (by omega) (by omega)).mono ?_; rintro e w4 ⟨tv0, ts, p4, rfl, hT4, hl4, hx4, h41, h42, hR4, hF4⟩; have HX4 : Hid (Fr R V2.heap.size V2 w4) := HX3.out.trans (hF4.mono hs3); have HD4 : Hid (SyD B R w.heap.size (w.heap.size + 1) P Y p (p + 20000) V.heap.size w pr s0 (.slice ac pr.cells.length cc) (.slice ab pr.bodies.length cb) (.slice c1 s0.cells.length m1) (.slice t1 s0.tasks.length n1) (.slice l1 s0.log.length o1) w4) := HD0.out.move HX4.out hw2 ⟨p4, by omega, by omega, hR4⟩ (by omega) (by omega) (by omega) (by omega) (by omega); obtain ⟨tsa, tsc, rfl, _⟩ := hT4.shape; have HT4 : Hid (IntsAt w4 (.slice tsa ts.length tsc) ts) := hT4.at; obtain ⟨⟨p04, p14⟩, y04, y14, y24, y34⟩ := SM.out w4 HX4.out; have hs4 := HX4.out.size; clear hT4 hx4 hR4 hF4)
     | (go_at_call 51; refine (sysRun_yes (fun b => P <= b) pr s0 ts _ _ _ _ _ _ _ HD4.out.pr.lt HD4.out.s.on HMS.out HIX.out (small_ok HOK.out) HT4.out (by omega)).mono ?_; rintro e w5 ⟨c5, t5, l5, rfl, hO5, hb5⟩; have HD5 : Hid (SyD B R w.heap.size (w.heap.size + 1) P Y p (p + 20000) V.heap.size w pr (runS pr s0 ts) (.slice ac pr.cells.length cc) (.slice ab pr.bodies.length cb) c5 t5 l5 ((((w5.setCell ⟨Y, 0, none⟩ c5).setCell ⟨Y, 1, none⟩ t5).setCell ⟨Y, 2, none⟩ (.int .i64 (runS pr s0 ts).clock)).setCell ⟨Y, 3, none⟩ l5)) := HD4.out.store hb5 hO5 (by omega) (by omega) (by omega) (by omega) (by omega) (by omega) (by omega); have HSB5 : Hid (SBox w5 Y (.slice c1 s0.cells.length m1) (.slice t1 s0.tasks.length n1) (.slice l1 s0.log.length o1) s0.clock) := HD4.out.y.heap (hb5.block Y HD4.out.y.lt); obtain ⟨c5a, c5c, t5a, t5c, l5a, l5c, rfl, rfl, rfl⟩ := hO5.on.shapes; obtain ⟨⟨y05, y15, y25, y35⟩, ⟨f05, f15, f25, f35⟩, hYl5⟩ := HSB5.out.cells; clear hO5 hb5))
   all_goals
     go_wp2_with fail
     go_meet
     exact ⟨rfl, _, _, _, _, HRS.out ts, HD5.out⟩
 case rest =>
 obtain ⟨rfl, s, c, t, l, hre, hd⟩ := hcut
 have HRE2 := (show Hid (Reach _ _) from hre)
 have HD := (show Hid (SyD _ _ _ _ _ _ _ _ _ _ _ _ _ _ _ _ _ _) from hd)
 have hCw : V.heap.size <= wc.heap.size := by have := hd.p.lt; omega
 obtain ⟨xa, xc, ya, yc, za, zc, rfl, rfl, rfl⟩ := hd.s.on.shapes
 obtain ⟨k0, k1, _, _⟩ := hd.p.cells
 obtain ⟨g0, g1, fg0, fg1⟩ := hd.g.cells
 obtain ⟨⟨x0, x1, x2, x3⟩, _, _⟩ := hd.y.cells
 obtain ⟨⟨z0, z1, z2, z3⟩, ⟨fz0, fz1, fz2, fz3⟩, _⟩ := hd.z.cells
 have hGl := hd.g.lt
 have hZl := hd.z.lt
 have hPl' := hd.p.lt
 have hYl' := hd.y.lt
 clear hre hd SM HD0 HR0 HRd p0 p1' y0 y1 y2 y3 p0d p1d y0d y1d y2d y3d hPl hYl HRE HMS HIX HRS
 go_wp2_with fail
 go_region
 go_wp2_with fail
 obtain ⟨h1, h2⟩ := two_boxes (x0 := .slice ac pr.cells.length cc) (x1 := .slice ab pr.bodies.length cb) (c := .slice xa s.cells.length xc) (t := .slice ya s.tasks.length yc) (l := .slice za s.log.length zc) (k := s.clock) HD.out.g HD.out.z (by omega)
 obtain ⟨e0, e1, _, _⟩ := h1.cells
 obtain ⟨⟨d0, d1, d2, d3⟩, _, _⟩ := h2.cells
 clear k0 k1 g0 g1 fg0 fg1 x0 x1 x2 x3 z0 z1 z2 z3 fz0 fz1 fz2 fz3 h1 h2
 refine bodyPost_ret (v := .tuple #[.agg #[.slice ac pr.cells.length cc, .slice ab pr.bodies.length cb], .agg #[.slice xa s.cells.length xc, .slice ya s.tasks.length yc, .int .i64 s.clock, .slice za s.log.length zc]]) (by simp [results, Try.results95, go_sem, e0, e1, d0, d1, d2, d3]) rfl ?_
 refine DrawnS.fin HD.out hle (Nat.le_refl _) (by omega) (by omega) (by omega) (by omega) ?_ HOK.out HC1.out HRE2.out
 exact ((((((FrS.refl _ _).setCell (p := ⟨w.heap.size, 0, none⟩) (.inl rfl) _).setCell (p := ⟨w.heap.size, 1, none⟩) (.inl rfl) _).setCell (p := ⟨w.heap.size + 1, 0, none⟩) (.inr rfl) _).setCell (p := ⟨w.heap.size + 1, 1, none⟩) (.inr rfl) _).setCell (p := ⟨w.heap.size + 1, 2, none⟩) (.inr rfl) _).setCell (p := ⟨w.heap.size + 1, 3, none⟩) (.inr rfl) _ |>.drew
end Go.Proofs.Ytgbgjljflgbcaaa
