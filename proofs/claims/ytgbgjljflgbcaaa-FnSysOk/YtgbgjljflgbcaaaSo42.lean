import Derived.Test.YtgbgjljflgbcaaaSo40
import Derived.Test.YtgbgjljflgbcaaaSo41
import Derived.Test.YtgbgjljflgbcaaaSo01
namespace Go.Proofs.Ytgbgjljflgbcaaa
set_option maxHeartbeats 8000000
open Go.RowKit
set_option linter.unusedSimpArgs false
set_option linter.unusedVariables false
set_option maxRecDepth 20000
theorem PusOn.ltw {S : Nat -> Prop} {w : World} {v : Value} {xs : List Pu} (h : PusOn S w v xs) : PusOn (fun b => S b /\ b < w.heap.size) w v xs := by
 obtain ⟨a, cap, e, hm, hc⟩ := h
 refine ⟨a, cap, e, hm, fun i hi => ?_⟩
 obtain ⟨b, off, e2, hs, hb, c0, c1⟩ := hc i hi
 exact ⟨b, off, e2, ⟨hs, hb⟩, hb, c0, c1⟩
theorem CesOn.ltw {S : Nat -> Prop} {w : World} {v : Value} {xs : List Ce} (h : CesOn S w v xs) : CesOn (fun b => S b /\ b < w.heap.size) w v xs := by
 obtain ⟨a, cap, e, hm, hc⟩ := h
 refine ⟨a, cap, e, hm, fun i hi => ?_⟩
 obtain ⟨b, off, e2, hs, hb, c0, c1, c2⟩ := hc i hi
 exact ⟨b, off, e2, ⟨hs, hb⟩, hb, c0, c1, c2⟩
theorem TasOn.ltw {S : Nat -> Prop} {w : World} {v : Value} {xs : List Ta} (h : TasOn S w v xs) : TasOn (fun b => S b /\ b < w.heap.size) w v xs := by
 obtain ⟨a, cap, e, hm, hc⟩ := h
 refine ⟨a, cap, e, hm, fun i hi => ?_⟩
 obtain ⟨b, off, v3, v8, v9, v10, e2, g1, g2, c0, c1, c2, c3, c4, c5, c6, c7, c8, c9, c10, c11, c12, h3, h8, h9, h10⟩ := hc i hi
 exact ⟨b, off, v3, v8, v9, v10, e2, ⟨g1, g2⟩, g2, c0, c1, c2, c3, c4, c5, c6, c7, c8, c9, c10, c11, c12, h3.ltw, h8.ltw, h9.ltw, h10.ltw⟩
theorem EnsOn.ltw {S : Nat -> Prop} {w : World} {v : Value} {xs : List En} (h : EnsOn S w v xs) : EnsOn (fun b => S b /\ b < w.heap.size) w v xs := by
 obtain ⟨a, cap, e, hm, hc⟩ := h
 refine ⟨a, cap, e, hm, fun i hi => ?_⟩
 obtain ⟨b, off, v3, v4, e2, g1, g2, c0, c1, c2, c3, c4, c5, h3, h4⟩ := hc i hi
 exact ⟨b, off, v3, v4, e2, ⟨g1, g2⟩, g2, c0, c1, c2, c3, c4, c5, h3.ltw, h4.ltw⟩
theorem SyOn.ltw {S : Nat -> Prop} {w : World} {cv tv lv : Value} {s : Sy} (h : SyOn S w cv tv lv s) : SyOn (fun b => S b /\ b < w.heap.size) w cv tv lv s := ⟨h.1.ltw, h.2.1.ltw, h.2.2.ltw⟩
structure OkB (R C P D q : Nat) (w : World) (pr : Pr) (s : Sy) (cv bv c t l : Value) (wx : World) : Prop where
 g : PBox wx w.heap.size (.slice none 0 0) (.slice none 0 0)
 z : SBox wx (w.heap.size + 1) (.slice none 0 0) (.slice none 0 0) (.slice none 0 0) 0
 p : PBox wx P cv bv
 y : SBox wx (P + 1) c t l s.clock
 ps : PrS (fun b => C <= b /\ b < P) wx cv bv pr
 sy : SyOn (fun b => C <= b /\ b < D) wx c t l s
 rd : RdAt (R + 1) wx R q
 bl : Below w.heap.size w wx
 of : Off pr s
 od : R = w.heap.size + 2 /\ R < C /\ C <= P /\ D <= wx.heap.size
theorem OkB.fr {R C P D q q' : Nat} {w wx W : World} {pr : Pr} {s : Sy} {cv bv c t l : Value} (h : OkB R C P D q w pr s cv bv c t l wx) (hf : Fr R wx.heap.size wx W) (hr : RdAt (R + 1) W R q') : OkB R C P D q' w pr s cv bv c t l W := by
 have ho := h.od
 have hs := h.bl.size
 exact ⟨h.g.heap (hf.block _ h.g.lt (by omega)), h.z.heap (hf.block _ h.z.lt (by omega)), h.p.heap (hf.block _ h.p.lt (by omega)), h.y.heap (hf.block _ h.y.lt (by omega)), h.ps.kept ⟨hf.size, fun b o hb hlt => hf.cell hlt (by have hb : C <= b /\ b < P := hb; omega)⟩, h.sy.kept ⟨hf.size, fun b o hb hlt => hf.cell hlt (by have hb : C <= b /\ b < D := hb; omega)⟩, hr, h.bl.trans ((hf.mono (B' := w.heap.size) (by omega)).below (by omega)), h.of, ho.1, ho.2.1, ho.2.2.1, by have := hf.size; omega⟩
theorem OkB.bel {R C P D q : Nat} {w wx W : World} {pr : Pr} {s : Sy} {cv bv c t l : Value} (h : OkB R C P D q w pr s cv bv c t l wx) (hf : Below wx.heap.size wx W) : OkB R C P D q w pr s cv bv c t l W := h.fr (Fr.of_below hf) (h.rd.below (hf.mono h.rd.le))
theorem OkB.alloc {R C P D q : Nat} {w wx : World} {pr : Pr} {s : Sy} {cv bv c t l : Value} (h : OkB R C P D q w pr s cv bv c t l wx) (o : Obj) : OkB R C P D q w pr s cv bv c t l (wx.alloc o) := h.bel ((Below.refl _ _).alloc (Nat.le_refl _) _)
theorem OkB.drew {R C P D q : Nat} {w wx : World} {pr : Pr} {s : Sy} {cv bv c t l : Value} (h : OkB R C P D q w pr s cv bv c t l wx) : OkB R C P D q w pr s cv bv c t l wx.drew := h.bel (Below.refl _ _).drew
theorem OkB.S {R C P D q : Nat} {w wx : World} {pr : Pr} {s : Sy} {cv bv c t l : Value} (h : OkB R C P D q w pr s cv bv c t l wx) : PBox wx P cv bv /\ SBox wx (P + 1) c t l s.clock := ⟨h.p, h.y⟩
theorem OkB.setX {R C P D q X o : Nat} {w wx : World} {pr : Pr} {s : Sy} {cv bv c t l v : Value} (h : OkB R C P D q w pr s cv bv c t l wx) (hX : P + 1 < X) (hD : D <= X) : OkB R C P D q w pr s cv bv c t l (wx.setCell ⟨X, o, none⟩ v) := by
 have ho := h.od
 refine ⟨h.g.heap (heap_set_ne _ _ _ _ (by show w.heap.size ≠ X; omega)), h.z.heap (heap_set_ne _ _ _ _ (by show w.heap.size + 1 ≠ X; omega)), h.p.heap (heap_set_ne _ _ _ _ (by show P ≠ X; omega)), h.y.heap (heap_set_ne _ _ _ _ (by show P + 1 ≠ X; omega)), h.ps.kept (Kept.set _ _ _ _ (fun hb => by have hb : C <= X /\ X < P := hb; omega)), ?_, h.rd.below ((Below.refl _ _).setCell (by show R + 1 <= X; omega) _), h.bl.setCell (by show w.heap.size <= X; omega) _, h.of, by simpa using ho⟩
 exact h.sy.kept (Kept.set _ _ _ _ (fun hb => by have hb : C <= X /\ X < D := hb; omega))
theorem OwnS.heapS {B : Nat} {w w' : World} {c t l : Value} {s : Sy} (h : OwnS B w c t l s) (hb : Below w.heap.size w w') : OwnS B w' c t l s := by
 obtain ⟨f, T, L, h, hT, hL⟩ := h
 exact ⟨f, T, L, h.ext (fun _ _ _ => rfl) fun g _ hg => hb.block g hg, hT, hL⟩
def Ran (pr : Pr) (w : World) (r : Ending) (w' : World) : Prop :=
 ∃ (bb : Bool) (s' : Sy) (c' t' l' : Value), r = .returned (.tuple #[.agg #[c', t', .int .i64 s'.clock, l'], .bool bb]) /\ OwnS w.heap.size w' c' t' l' s' /\ (bb = true -> Off pr s') /\ Below w.heap.size w w'
theorem sysRun_some (S : Nat -> Prop) (p : Pr) (s : Sy) (k : Int) (pc pb cv tv lv : Value) (tsa : Option Addr) (tsc : Nat) (w : World) (hP : PrS (fun b => b < w.heap.size) w pc pb p) (h : SyOn S w cv tv lv s) (ho : Off p s) (hsp : SmallP p) (hts : IntsAt w (.slice tsa 1 tsc) [k]) :
   Calls Try.prog 51 #[.agg #[pc, pb], .agg #[cv, tv, .int .i64 s.clock, lv], .slice tsa 1 tsc] w (Ran p w) := by
 cases hm : mSoB p s
 . refine (sysRun_no p s [k] tsa tsc pc pb cv tv lv w hP.at h.at ho.sm hsp (.inl hm)).mono ?_
   rintro r w' ⟨rfl, hb⟩
   exact ⟨false, ⟨[], [], 0, []⟩, _, _, _, rfl, OwnS.nil _ _, fun e => Bool.noConfusion e, hb⟩
 . refine (sysRun_yes S p s [k] pc pb cv tv lv _ w hP h hm (ho.inx hm) hsp hts (by simp)).mono ?_
   rintro r w' ⟨c', t', l', rfl, hO, hb⟩
   exact ⟨true, runS p s [k], c', t', l', rfl, hO, fun _ => Off.self ((ho.inx hm).run [k]), hb⟩
noncomputable def dkReg (k : Nat) : Code := ((Try.f19.body.bind (regAt k)).getD .skip)
theorem ints_one1 {w : World} {g : Nat} {n : Int} (h : w.heap[g]? = some (.cells #[.int .i64 n] 3 (0, 0))) : IntsAt w (.slice (some ⟨g, 0, none⟩) 1 1) [n] := by
 refine ⟨_, 1, rfl, by simp, fun i hi => ?_⟩
 have e : i = 0 := by simp at hi; omega
 subst e
 refine ⟨g, 0, rfl, bx_lt h, ?_⟩
 rw [cell_of_row w g _ _ _ (0, 0) h]; rfl
theorem tag_put {w : World} {X : Nat} {c t l c' t' l' : Value} {k k' : Int} (h : SBox w X c t l k) : TagKept 32 w ((((w.setCell ⟨X, 0, none⟩ c').setCell ⟨X, 1, none⟩ t').setCell ⟨X, 2, none⟩ (.int .i64 k')).setCell ⟨X, 3, none⟩ l') := fun g cur e hg he => by
 have hne : g ≠ X := fun e' => by subst e'; rw [h] at hg; injection hg with hg; injection hg with _ hg2 _; exact he hg2.symm
 rw [heap_set_ne _ _ _ _ hne, heap_set_ne _ _ _ _ hne, heap_set_ne _ _ _ _ hne, heap_set_ne _ _ _ _ hne]
theorem dk_put {R C P D q D2 X : Nat} {w W : World} {pr : Pr} {s s' : Sy} {cv bv c t l c' t' l' z0 z1 z3 : Value} {zk : Int} (hx : SBox W X z0 z1 z3 zk) (hr : OwnS D2 W c' t' l' s') (ho : OkB R C P D q w pr s cv bv c t l W) (h1 : P + 1 < X) (h2 : D <= X) :
  SBox ((((W.setCell ⟨X, 0, none⟩ c').setCell ⟨X, 1, none⟩ t').setCell ⟨X, 2, none⟩ (.int .i64 s'.clock)).setCell ⟨X, 3, none⟩ l') X c' t' l' s'.clock /\ OwnS D2 ((((W.setCell ⟨X, 0, none⟩ c').setCell ⟨X, 1, none⟩ t').setCell ⟨X, 2, none⟩ (.int .i64 s'.clock)).setCell ⟨X, 3, none⟩ l') c' t' l' s' /\ OkB R C P D q w pr s cv bv c t l ((((W.setCell ⟨X, 0, none⟩ c').setCell ⟨X, 1, none⟩ t').setCell ⟨X, 2, none⟩ (.int .i64 s'.clock)).setCell ⟨X, 3, none⟩ l') :=
 ⟨SBox.put hx, hr.tag (tag_put hx), (((ho.setX h1 h2).setX h1 h2).setX h1 h2).setX h1 h2⟩
set_option maxRecDepth 100000 in
theorem dk_reg8 (V w : World) (R C P D q : Nat) (pr : Pr) (s : Sy) (cv bv c t l : Value) (HO : Hid (OkB R C P D q w pr s cv bv c t l V)) (HSP : Hid (SmallP pr)) (hq : q <= 400000) (hPV : P + 1 < V.heap.size) (hDV : D <= V.heap.size) (Q : Exit -> Act -> World -> Prop) (u0 u1 u2 u3 u7 u8 u9 u10 u11 u12 u13 u14 u15 u16 u17 u18 u19 u20 u21 u22 u23 u24 u25 u26 u27 u28 u29 u30 u31 u32 u33 u34 u35 u36 u37 u38 u39 u40 u41 u42 u43 u44 u45 : Value)
   (hQ : Hid (∀ (v33 v34 v35 v36 v37 v38 v39 v40 v41 : Value) (X : Nat) (bb : Bool) (s' : Sy) (c' t' l' : Value) (D2 : Nat) (W : World), OkB R C P D (q + 1) w pr s cv bv c t l W -> SBox W X c' t' l' s'.clock -> OwnS D2 W c' t' l' s' -> V.heap.size <= D2 -> V.heap.size <= X -> (bb = true -> Off pr s') -> Q .normal ⟨(u0 :: u1 :: u2 :: u3 :: .pointer (some ⟨R, 0, none⟩) :: .pointer (some ⟨P, 0, none⟩) :: .pointer (some ⟨P + 1, 0, none⟩) :: u7 :: .pointer (some ⟨X, 0, none⟩) :: .bool bb :: u10 :: u11 :: u12 :: u13 :: u14 :: u15 :: u16 :: u17 :: u18 :: u19 :: u20 :: u21 :: u22 :: u23 :: u24 :: u25 :: u26 :: u27 :: u28 :: u29 :: u30 :: u31 :: u32 :: v33 :: v34 :: v35 :: v36 :: v37 :: v38 :: v39 :: v40 :: v41 :: u42 :: u43 :: u44 :: u45 :: []).toArray, []⟩ W)) :
   Code.wp Try.prog (dkReg 8) Q ⟨(u0 :: u1 :: u2 :: u3 :: .pointer (some ⟨R, 0, none⟩) :: .pointer (some ⟨P, 0, none⟩) :: .pointer (some ⟨P + 1, 0, none⟩) :: u7 :: u8 :: u9 :: u10 :: u11 :: u12 :: u13 :: u14 :: u15 :: u16 :: u17 :: u18 :: u19 :: u20 :: u21 :: u22 :: u23 :: u24 :: u25 :: u26 :: u27 :: u28 :: u29 :: u30 :: u31 :: u32 :: u33 :: u34 :: u35 :: u36 :: u37 :: u38 :: u39 :: u40 :: u41 :: u42 :: u43 :: u44 :: u45 :: []).toArray, []⟩ V := by
 conv => arg 2; whnf
 refine wp_region_noPanic ?_
 refine till_begin (S := fun w' => PBox w' P cv bv /\ SBox w' (P + 1) c t l s.clock) (z := 11) (by kernel_rfl) ?_
 replace HO := (show Hid (OkB _ _ _ _ _ _ _ _ _ _ _ _ _ _) from HO.out.drew)
 have hVW : V.heap.size <= V.drew.heap.size := Nat.le_refl _
 generalize V.drew = W0 at HO hVW ⊢
 refine till_take (i := 0) (v := (.agg #[cv, bv])) rfl (by kernel_rfl) (fun _ _ _ h => h) (by rfl) ?_ HO.out.S ?_
 . (intro w hSw; obtain ⟨s0, s1⟩ := hSw; obtain ⟨p0, p1, _, _⟩ := s0.cells; obtain ⟨⟨y0, y1, y2, y3⟩, _, _⟩ := s1.cells; go_simp)
 (try simp only [Act.put, zq1, zq2, zq3])
 refine till_take (i := 1) (v := (.agg #[c, t, .int .i64 s.clock, l])) rfl (by kernel_rfl) (fun _ _ _ h => h) (by rfl) ?_ HO.out.S ?_
 . (intro w hSw; obtain ⟨s0, s1⟩ := hSw; obtain ⟨p0, p1, _, _⟩ := s0.cells; obtain ⟨⟨y0, y1, y2, y3⟩, _, _⟩ := s1.cells; go_simp)
 (try simp only [Act.put, zq1, zq2, zq3])
 refine till_take (i := 2) (v := (.pointer (some ⟨R, 0, none⟩))) rfl (by kernel_rfl) (fun _ _ _ h => h) (by rfl) ?_ HO.out.S ?_
 . (intro w hSw; obtain ⟨s0, s1⟩ := hSw; obtain ⟨p0, p1, _, _⟩ := s0.cells; obtain ⟨⟨y0, y1, y2, y3⟩, _, _⟩ := s1.cells; go_simp)
 (try simp only [Act.put, zq1, zq2, zq3])
 refine till_two (i := 3) (j := 9) rfl rfl (by kernel_rfl) (fun K hK => ?b1) (fun K hK => ?b2)
 case b1 =>
  go_simp
  refine (pick_any (R + 1) R q 7 _ HO.out.rd (by omega) (by omega) (by omega)).mono ?_
  rintro e W1 ⟨q5, rfl, q50, q51, hR5, hF5⟩
  have hsz := hF5.size
  replace hVW : V.heap.size <= W1.heap.size := by omega
  replace HO := (show Hid (OkB _ _ _ _ _ _ _ _ _ _ _ _ _ _) from HO.out.fr hF5 hR5)
  clear hR5 hF5 hsz
  refine hK.out _ _ (fun _ => HO.out.S) ?_
  (try simp only [Act.put, zq1, zq2, zq3])
  clear hK
  refine till_two (i := 4) (j := 9) rfl rfl (by kernel_rfl) (fun K hK => ?b3) (fun K hK => ?b4)
  case b3 =>
   go_simp
   have HTS : Hid (IntsAt (W1.alloc (.cells #[.int .i64 q5] 3)) (.slice (some ⟨W1.heap.size, 0, none⟩) 1 1) [q5]) := ints_one1 (heap_alloc_new W1 _)
   replace HO := (show Hid (OkB _ _ _ _ _ _ _ _ _ _ _ _ _ _) from HO.out.alloc (.cells #[.int .i64 q5] 3))
   refine hK.out _ _ (fun _ => HO.out.S) ?_
   (try simp only [Act.put, zq1, zq2, zq3])
   clear hK
   replace hVW : V.heap.size <= (W1.alloc (.cells #[.int .i64 q5] 3)).heap.size := by simp; omega
   generalize W1.alloc (.cells #[.int .i64 q5] 3) = W2 at HTS HO hVW ⊢
   generalize W1.heap.size = gt at HTS ⊢
   refine till_two (i := 5) (j := 9) rfl rfl (by kernel_rfl) (fun K hK => ?b5) (fun K hK => ?b6)
   case b5 =>
    go_simp
    refine (sysRun_some _ pr s q5 _ _ _ _ _ _ _ _ (HO.out.ps.lt) HO.out.sy HO.out.of HSP.out HTS.out).mono ?_
    rintro e W3 ⟨bb, s', c', t', l', rfl, hO, hoff, hb⟩
    obtain ⟨xa, xc, ya, yc, za, zc, rfl, rfl, rfl⟩ := hO.on.shapes
    have HR : Hid (OwnS W2.heap.size W3 (.slice xa s'.cells.length xc) (.slice ya s'.tasks.length yc) (.slice za s'.log.length zc) s') := hO
    have HRF := (show Hid (bb = true -> Off pr s') from hoff)
    replace HO := (show Hid (OkB _ _ _ _ _ _ _ _ _ _ _ _ _ _) from HO.out.bel hb)
    have hD : V.heap.size <= W2.heap.size := hVW
    replace hVW : V.heap.size <= W3.heap.size := by have := hb.size; omega
    generalize W2.heap.size = D2 at HR hD
    clear hO hoff hb HTS
    refine hK.out _ _ (fun _ => HO.out.S) ?_
    (try simp only [Act.put, zq1, zq2, zq3])
    clear hK
    refine till_take (i := 6) (v := (.tuple #[.agg #[.slice xa s'.cells.length xc, .slice ya s'.tasks.length yc, .int .i64 s'.clock, .slice za s'.log.length zc], .bool bb])) rfl (by kernel_rfl) (fun _ _ _ h => h) (by rfl) ?_ HO.out.S ?_
    . (intro w hSw; go_simp)
    (try simp only [Act.put, zq1, zq2, zq3])
    refine till_take (i := 7) (v := (.agg #[.slice xa s'.cells.length xc, .slice ya s'.tasks.length yc, .int .i64 s'.clock, .slice za s'.log.length zc])) rfl (by kernel_rfl) (fun _ _ _ h => h) (by rfl) ?_ HO.out.S ?_
    . (intro w hSw; go_simp)
    (try simp only [Act.put, zq1, zq2, zq3])
    refine till_two (i := 8) (j := 9) rfl rfl (by kernel_rfl) (fun K hK => ?b7) (fun K hK => ?b8)
    case b7 =>
     go_simp
     refine hK.out _ _ (fun _ => HO.out.S) ?_
     (try simp only [Act.put, zq1, zq2, zq3])
     clear hK
     refine till_step (i := 9) rfl (by kernel_rfl) (fun K hK => ?_)
     go_simp
     have HX : Hid (SBox (W3.alloc (.cells #[.slice none 0 0, .slice none 0 0, .int .i64 0, .slice none 0 0] 32)) W3.heap.size (.slice none 0 0) (.slice none 0 0) (.slice none 0 0) 0) := heap_alloc_new W3 _
     have hXV : V.heap.size <= W3.heap.size := hVW
     replace hVW : V.heap.size <= (W3.alloc (.cells #[.slice none 0 0, .slice none 0 0, .int .i64 0, .slice none 0 0] 32)).heap.size := by simp; omega
     replace HR : Hid (OwnS D2 (W3.alloc (.cells #[.slice none 0 0, .slice none 0 0, .int .i64 0, .slice none 0 0] 32)) (.slice xa s'.cells.length xc) (.slice ya s'.tasks.length yc) (.slice za s'.log.length zc) s') := HR.out.heapS ((Below.refl _ _).alloc (Nat.le_refl _) _)
     replace HO := (show Hid (OkB _ _ _ _ _ _ _ _ _ _ _ _ _ _) from HO.out.alloc (.cells #[.slice none 0 0, .slice none 0 0, .int .i64 0, .slice none 0 0] 32))
     refine hK.out _ _ (fun _ => HO.out.S) ?_
     (try simp only [Act.put, zq1, zq2, zq3])
     clear hK
     generalize W3.alloc (.cells #[.slice none 0 0, .slice none 0 0, .int .i64 0, .slice none 0 0] 32) = W4 at HX HO hVW HR ⊢
     generalize W3.heap.size = X at HX hXV ⊢
     refine till_step (i := 10) rfl (by kernel_rfl) (fun K hK => ?_)
     obtain ⟨⟨z0, z1, z2, z3⟩, ⟨y0, y1, y2, y3⟩, zl⟩ := HX.out.cells
     go_simp
     clear z0 z1 z2 z3 y0 y1 y2 y3 zl
     have hP1 : P + 1 < X := by have h1 := hPV; omega
     have hDX : D <= X := by omega
     obtain ⟨hA, hB, hC⟩ := dk_put HX.out HR.out HO.out hP1 hDX
     replace HX := (show Hid (SBox _ _ _ _ _ _) from hA)
     replace HR := (show Hid (OwnS _ _ _ _ _ _) from hB)
     replace HO := (show Hid (OkB _ _ _ _ _ _ _ _ _ _ _ _ _ _) from hC)
     clear hA hB hC
     refine hK.out _ _ (fun _ => HO.out.S) ?_
     (try simp only [Act.put, zq1, zq2, zq3])
     clear hK
     refine till_step (i := 11) rfl (by kernel_rfl) (fun K hK => ?_)
     go_simp
     refine hK.out _ _ (fun h => absurd rfl h) ?_
     clear hK
     (try simp only [Act.put, zq1, zq2, zq3])
     refine till_done (by kernel_rfl) ?_ _
     exact hQ.out _ _ _ _ _ _ _ _ _ X bb s' (.slice xa s'.cells.length xc) (.slice ya s'.tasks.length yc) (.slice za s'.log.length zc) D2 _ HO.out HX.out HR.out (by omega) hXV HRF.out
    case b8 =>
     go_simp
     have HX : Hid (SBox (W3.alloc (.cells #[.slice none 0 0, .slice none 0 0, .int .i64 0, .slice none 0 0] 32)) W3.heap.size (.slice none 0 0) (.slice none 0 0) (.slice none 0 0) 0) := heap_alloc_new W3 _
     have hXV : V.heap.size <= W3.heap.size := hVW
     replace hVW : V.heap.size <= (W3.alloc (.cells #[.slice none 0 0, .slice none 0 0, .int .i64 0, .slice none 0 0] 32)).heap.size := by simp; omega
     replace HR : Hid (OwnS D2 (W3.alloc (.cells #[.slice none 0 0, .slice none 0 0, .int .i64 0, .slice none 0 0] 32)) (.slice xa s'.cells.length xc) (.slice ya s'.tasks.length yc) (.slice za s'.log.length zc) s') := HR.out.heapS ((Below.refl _ _).alloc (Nat.le_refl _) _)
     replace HO := (show Hid (OkB _ _ _ _ _ _ _ _ _ _ _ _ _ _) from HO.out.alloc (.cells #[.slice none 0 0, .slice none 0 0, .int .i64 0, .slice none 0 0] 32))
     refine hK.out _ _ (fun _ => HO.out.S) ?_
     (try simp only [Act.put, zq1, zq2, zq3])
     clear hK
     generalize W3.alloc (.cells #[.slice none 0 0, .slice none 0 0, .int .i64 0, .slice none 0 0] 32) = W4 at HX HO hVW HR ⊢
     generalize W3.heap.size = X at HX hXV ⊢
     refine till_two (i := 8) (j := 10) rfl rfl (by kernel_rfl) (fun K hK => ?b9) (fun K hK => ?b10)
     case b9 =>
      go_simp
      refine hK.out _ _ (fun _ => HO.out.S) ?_
      (try simp only [Act.put, zq1, zq2, zq3])
      clear hK
      refine till_step (i := 10) rfl (by kernel_rfl) (fun K hK => ?_)
      obtain ⟨⟨z0, z1, z2, z3⟩, ⟨y0, y1, y2, y3⟩, zl⟩ := HX.out.cells
      go_simp
      clear z0 z1 z2 z3 y0 y1 y2 y3 zl
      have hP1 : P + 1 < X := by have h1 := hPV; omega
      have hDX : D <= X := by omega
      obtain ⟨hA, hB, hC⟩ := dk_put HX.out HR.out HO.out hP1 hDX
      replace HX := (show Hid (SBox _ _ _ _ _ _) from hA)
      replace HR := (show Hid (OwnS _ _ _ _ _ _) from hB)
      replace HO := (show Hid (OkB _ _ _ _ _ _ _ _ _ _ _ _ _ _) from hC)
      clear hA hB hC
      refine hK.out _ _ (fun _ => HO.out.S) ?_
      (try simp only [Act.put, zq1, zq2, zq3])
      clear hK
      refine till_step (i := 11) rfl (by kernel_rfl) (fun K hK => ?_)
      go_simp
      refine hK.out _ _ (fun h => absurd rfl h) ?_
      clear hK
      (try simp only [Act.put, zq1, zq2, zq3])
      refine till_done (by kernel_rfl) ?_ _
      exact hQ.out _ _ _ _ _ _ _ _ _ X bb s' (.slice xa s'.cells.length xc) (.slice ya s'.tasks.length yc) (.slice za s'.log.length zc) D2 _ HO.out HX.out HR.out (by omega) hXV HRF.out
     case b10 =>
      obtain ⟨⟨z0, z1, z2, z3⟩, ⟨y0, y1, y2, y3⟩, zl⟩ := HX.out.cells
      go_simp
      clear z0 z1 z2 z3 y0 y1 y2 y3 zl
      have hP1 : P + 1 < X := by have h1 := hPV; omega
      have hDX : D <= X := by omega
      obtain ⟨hA, hB, hC⟩ := dk_put HX.out HR.out HO.out hP1 hDX
      replace HX := (show Hid (SBox _ _ _ _ _ _) from hA)
      replace HR := (show Hid (OwnS _ _ _ _ _ _) from hB)
      replace HO := (show Hid (OkB _ _ _ _ _ _ _ _ _ _ _ _ _ _) from hC)
      clear hA hB hC
      refine hK.out _ _ (fun _ => HO.out.S) ?_
      (try simp only [Act.put, zq1, zq2, zq3])
      clear hK
      refine till_step (i := 8) rfl (by kernel_rfl) (fun K hK => ?_)
      go_simp
      refine hK.out _ _ (fun _ => HO.out.S) ?_
      (try simp only [Act.put, zq1, zq2, zq3])
      clear hK
      refine till_step (i := 11) rfl (by kernel_rfl) (fun K hK => ?_)
      go_simp
      refine hK.out _ _ (fun h => absurd rfl h) ?_
      clear hK
      (try simp only [Act.put, zq1, zq2, zq3])
      refine till_done (by kernel_rfl) ?_ _
      exact hQ.out _ _ _ _ _ _ _ _ _ X bb s' (.slice xa s'.cells.length xc) (.slice ya s'.tasks.length yc) (.slice za s'.log.length zc) D2 _ HO.out HX.out HR.out (by omega) hXV HRF.out
   case b6 =>
    go_simp
    have HX : Hid (SBox (W2.alloc (.cells #[.slice none 0 0, .slice none 0 0, .int .i64 0, .slice none 0 0] 32)) W2.heap.size (.slice none 0 0) (.slice none 0 0) (.slice none 0 0) 0) := heap_alloc_new W2 _
    have hXV : V.heap.size <= W2.heap.size := hVW
    replace hVW : V.heap.size <= (W2.alloc (.cells #[.slice none 0 0, .slice none 0 0, .int .i64 0, .slice none 0 0] 32)).heap.size := by simp; omega
    replace HTS : Hid (IntsAt (W2.alloc (.cells #[.slice none 0 0, .slice none 0 0, .int .i64 0, .slice none 0 0] 32)) _ [q5]) := HTS.out.mono ((Below.refl _ _).alloc (Nat.le_refl _) _)
    replace HO := (show Hid (OkB _ _ _ _ _ _ _ _ _ _ _ _ _ _) from HO.out.alloc (.cells #[.slice none 0 0, .slice none 0 0, .int .i64 0, .slice none 0 0] 32))
    refine hK.out _ _ (fun _ => HO.out.S) ?_
    (try simp only [Act.put, zq1, zq2, zq3])
    clear hK
    generalize W2.alloc (.cells #[.slice none 0 0, .slice none 0 0, .int .i64 0, .slice none 0 0] 32) = W3 at HX HO hVW HTS ⊢
    generalize W2.heap.size = X at HX hXV ⊢
    refine till_step (i := 5) rfl (by kernel_rfl) (fun K hK => ?_)
    go_simp
    refine (sysRun_some _ pr s q5 _ _ _ _ _ _ _ _ (HO.out.ps.lt) HO.out.sy HO.out.of HSP.out HTS.out).mono ?_
    rintro e W4 ⟨bb, s', c', t', l', rfl, hO, hoff, hb⟩
    obtain ⟨xa, xc, ya, yc, za, zc, rfl, rfl, rfl⟩ := hO.on.shapes
    have HR : Hid (OwnS W3.heap.size W4 (.slice xa s'.cells.length xc) (.slice ya s'.tasks.length yc) (.slice za s'.log.length zc) s') := hO
    have HRF := (show Hid (bb = true -> Off pr s') from hoff)
    replace HX : Hid (SBox W4 X (.slice none 0 0) (.slice none 0 0) (.slice none 0 0) 0) := HX.out.heap (hb.block _ HX.out.lt)
    replace HO := (show Hid (OkB _ _ _ _ _ _ _ _ _ _ _ _ _ _) from HO.out.bel hb)
    have hD : V.heap.size <= W3.heap.size := hVW
    replace hVW : V.heap.size <= W4.heap.size := by have := hb.size; omega
    generalize W3.heap.size = D2 at HR hD
    clear hO hoff hb HTS
    refine hK.out _ _ (fun _ => HO.out.S) ?_
    (try simp only [Act.put, zq1, zq2, zq3])
    clear hK
    refine till_take (i := 6) (v := (.tuple #[.agg #[.slice xa s'.cells.length xc, .slice ya s'.tasks.length yc, .int .i64 s'.clock, .slice za s'.log.length zc], .bool bb])) rfl (by kernel_rfl) (fun _ _ _ h => h) (by rfl) ?_ HO.out.S ?_
    . (intro w hSw; go_simp)
    (try simp only [Act.put, zq1, zq2, zq3])
    refine till_take (i := 7) (v := (.agg #[.slice xa s'.cells.length xc, .slice ya s'.tasks.length yc, .int .i64 s'.clock, .slice za s'.log.length zc])) rfl (by kernel_rfl) (fun _ _ _ h => h) (by rfl) ?_ HO.out.S ?_
    . (intro w hSw; go_simp)
    (try simp only [Act.put, zq1, zq2, zq3])
    refine till_two (i := 8) (j := 10) rfl rfl (by kernel_rfl) (fun K hK => ?b11) (fun K hK => ?b12)
    case b11 =>
     go_simp
     refine hK.out _ _ (fun _ => HO.out.S) ?_
     (try simp only [Act.put, zq1, zq2, zq3])
     clear hK
     refine till_step (i := 10) rfl (by kernel_rfl) (fun K hK => ?_)
     obtain ⟨⟨z0, z1, z2, z3⟩, ⟨y0, y1, y2, y3⟩, zl⟩ := HX.out.cells
     go_simp
     clear z0 z1 z2 z3 y0 y1 y2 y3 zl
     have hP1 : P + 1 < X := by have h1 := hPV; omega
     have hDX : D <= X := by omega
     obtain ⟨hA, hB, hC⟩ := dk_put HX.out HR.out HO.out hP1 hDX
     replace HX := (show Hid (SBox _ _ _ _ _ _) from hA)
     replace HR := (show Hid (OwnS _ _ _ _ _ _) from hB)
     replace HO := (show Hid (OkB _ _ _ _ _ _ _ _ _ _ _ _ _ _) from hC)
     clear hA hB hC
     refine hK.out _ _ (fun _ => HO.out.S) ?_
     (try simp only [Act.put, zq1, zq2, zq3])
     clear hK
     refine till_step (i := 11) rfl (by kernel_rfl) (fun K hK => ?_)
     go_simp
     refine hK.out _ _ (fun h => absurd rfl h) ?_
     clear hK
     (try simp only [Act.put, zq1, zq2, zq3])
     refine till_done (by kernel_rfl) ?_ _
     exact hQ.out _ _ _ _ _ _ _ _ _ X bb s' (.slice xa s'.cells.length xc) (.slice ya s'.tasks.length yc) (.slice za s'.log.length zc) D2 _ HO.out HX.out HR.out (by omega) hXV HRF.out
    case b12 =>
     obtain ⟨⟨z0, z1, z2, z3⟩, ⟨y0, y1, y2, y3⟩, zl⟩ := HX.out.cells
     go_simp
     clear z0 z1 z2 z3 y0 y1 y2 y3 zl
     have hP1 : P + 1 < X := by have h1 := hPV; omega
     have hDX : D <= X := by omega
     obtain ⟨hA, hB, hC⟩ := dk_put HX.out HR.out HO.out hP1 hDX
     replace HX := (show Hid (SBox _ _ _ _ _ _) from hA)
     replace HR := (show Hid (OwnS _ _ _ _ _ _) from hB)
     replace HO := (show Hid (OkB _ _ _ _ _ _ _ _ _ _ _ _ _ _) from hC)
     clear hA hB hC
     refine hK.out _ _ (fun _ => HO.out.S) ?_
     (try simp only [Act.put, zq1, zq2, zq3])
     clear hK
     refine till_step (i := 8) rfl (by kernel_rfl) (fun K hK => ?_)
     go_simp
     refine hK.out _ _ (fun _ => HO.out.S) ?_
     (try simp only [Act.put, zq1, zq2, zq3])
     clear hK
     refine till_step (i := 11) rfl (by kernel_rfl) (fun K hK => ?_)
     go_simp
     refine hK.out _ _ (fun h => absurd rfl h) ?_
     clear hK
     (try simp only [Act.put, zq1, zq2, zq3])
     refine till_done (by kernel_rfl) ?_ _
     exact hQ.out _ _ _ _ _ _ _ _ _ X bb s' (.slice xa s'.cells.length xc) (.slice ya s'.tasks.length yc) (.slice za s'.log.length zc) D2 _ HO.out HX.out HR.out (by omega) hXV HRF.out
  case b4 =>
   go_simp
   have HX : Hid (SBox (W1.alloc (.cells #[.slice none 0 0, .slice none 0 0, .int .i64 0, .slice none 0 0] 32)) W1.heap.size (.slice none 0 0) (.slice none 0 0) (.slice none 0 0) 0) := heap_alloc_new W1 _
   have hXV : V.heap.size <= W1.heap.size := hVW
   replace hVW : V.heap.size <= (W1.alloc (.cells #[.slice none 0 0, .slice none 0 0, .int .i64 0, .slice none 0 0] 32)).heap.size := by simp; omega
   replace HO := (show Hid (OkB _ _ _ _ _ _ _ _ _ _ _ _ _ _) from HO.out.alloc (.cells #[.slice none 0 0, .slice none 0 0, .int .i64 0, .slice none 0 0] 32))
   refine hK.out _ _ (fun _ => HO.out.S) ?_
   (try simp only [Act.put, zq1, zq2, zq3])
   clear hK
   generalize W1.alloc (.cells #[.slice none 0 0, .slice none 0 0, .int .i64 0, .slice none 0 0] 32) = W2 at HX HO hVW ⊢
   generalize W1.heap.size = X at HX hXV ⊢
   refine till_step (i := 4) rfl (by kernel_rfl) (fun K hK => ?_)
   go_simp
   have HTS : Hid (IntsAt (W2.alloc (.cells #[.int .i64 q5] 3)) (.slice (some ⟨W2.heap.size, 0, none⟩) 1 1) [q5]) := ints_one1 (heap_alloc_new W2 _)
   replace HX : Hid (SBox (W2.alloc (.cells #[.int .i64 q5] 3)) X (.slice none 0 0) (.slice none 0 0) (.slice none 0 0) 0) := HX.out.heap (Below.heap_alloc _ _ _ HX.out.lt)
   replace HO := (show Hid (OkB _ _ _ _ _ _ _ _ _ _ _ _ _ _) from HO.out.alloc (.cells #[.int .i64 q5] 3))
   refine hK.out _ _ (fun _ => HO.out.S) ?_
   (try simp only [Act.put, zq1, zq2, zq3])
   clear hK
   replace hVW : V.heap.size <= (W2.alloc (.cells #[.int .i64 q5] 3)).heap.size := by simp; omega
   generalize W2.alloc (.cells #[.int .i64 q5] 3) = W3 at HTS HO hVW HX ⊢
   generalize W2.heap.size = gt at HTS ⊢
   refine till_step (i := 5) rfl (by kernel_rfl) (fun K hK => ?_)
   go_simp
   refine (sysRun_some _ pr s q5 _ _ _ _ _ _ _ _ (HO.out.ps.lt) HO.out.sy HO.out.of HSP.out HTS.out).mono ?_
   rintro e W4 ⟨bb, s', c', t', l', rfl, hO, hoff, hb⟩
   obtain ⟨xa, xc, ya, yc, za, zc, rfl, rfl, rfl⟩ := hO.on.shapes
   have HR : Hid (OwnS W3.heap.size W4 (.slice xa s'.cells.length xc) (.slice ya s'.tasks.length yc) (.slice za s'.log.length zc) s') := hO
   have HRF := (show Hid (bb = true -> Off pr s') from hoff)
   replace HX : Hid (SBox W4 X (.slice none 0 0) (.slice none 0 0) (.slice none 0 0) 0) := HX.out.heap (hb.block _ HX.out.lt)
   replace HO := (show Hid (OkB _ _ _ _ _ _ _ _ _ _ _ _ _ _) from HO.out.bel hb)
   have hD : V.heap.size <= W3.heap.size := hVW
   replace hVW : V.heap.size <= W4.heap.size := by have := hb.size; omega
   generalize W3.heap.size = D2 at HR hD
   clear hO hoff hb HTS
   refine hK.out _ _ (fun _ => HO.out.S) ?_
   (try simp only [Act.put, zq1, zq2, zq3])
   clear hK
   refine till_take (i := 6) (v := (.tuple #[.agg #[.slice xa s'.cells.length xc, .slice ya s'.tasks.length yc, .int .i64 s'.clock, .slice za s'.log.length zc], .bool bb])) rfl (by kernel_rfl) (fun _ _ _ h => h) (by rfl) ?_ HO.out.S ?_
   . (intro w hSw; go_simp)
   (try simp only [Act.put, zq1, zq2, zq3])
   refine till_take (i := 7) (v := (.agg #[.slice xa s'.cells.length xc, .slice ya s'.tasks.length yc, .int .i64 s'.clock, .slice za s'.log.length zc])) rfl (by kernel_rfl) (fun _ _ _ h => h) (by rfl) ?_ HO.out.S ?_
   . (intro w hSw; go_simp)
   (try simp only [Act.put, zq1, zq2, zq3])
   refine till_two (i := 8) (j := 10) rfl rfl (by kernel_rfl) (fun K hK => ?b13) (fun K hK => ?b14)
   case b13 =>
    go_simp
    refine hK.out _ _ (fun _ => HO.out.S) ?_
    (try simp only [Act.put, zq1, zq2, zq3])
    clear hK
    refine till_step (i := 10) rfl (by kernel_rfl) (fun K hK => ?_)
    obtain ⟨⟨z0, z1, z2, z3⟩, ⟨y0, y1, y2, y3⟩, zl⟩ := HX.out.cells
    go_simp
    clear z0 z1 z2 z3 y0 y1 y2 y3 zl
    have hP1 : P + 1 < X := by have h1 := hPV; omega
    have hDX : D <= X := by omega
    obtain ⟨hA, hB, hC⟩ := dk_put HX.out HR.out HO.out hP1 hDX
    replace HX := (show Hid (SBox _ _ _ _ _ _) from hA)
    replace HR := (show Hid (OwnS _ _ _ _ _ _) from hB)
    replace HO := (show Hid (OkB _ _ _ _ _ _ _ _ _ _ _ _ _ _) from hC)
    clear hA hB hC
    refine hK.out _ _ (fun _ => HO.out.S) ?_
    (try simp only [Act.put, zq1, zq2, zq3])
    clear hK
    refine till_step (i := 11) rfl (by kernel_rfl) (fun K hK => ?_)
    go_simp
    refine hK.out _ _ (fun h => absurd rfl h) ?_
    clear hK
    (try simp only [Act.put, zq1, zq2, zq3])
    refine till_done (by kernel_rfl) ?_ _
    exact hQ.out _ _ _ _ _ _ _ _ _ X bb s' (.slice xa s'.cells.length xc) (.slice ya s'.tasks.length yc) (.slice za s'.log.length zc) D2 _ HO.out HX.out HR.out (by omega) hXV HRF.out
   case b14 =>
    obtain ⟨⟨z0, z1, z2, z3⟩, ⟨y0, y1, y2, y3⟩, zl⟩ := HX.out.cells
    go_simp
    clear z0 z1 z2 z3 y0 y1 y2 y3 zl
    have hP1 : P + 1 < X := by have h1 := hPV; omega
    have hDX : D <= X := by omega
    obtain ⟨hA, hB, hC⟩ := dk_put HX.out HR.out HO.out hP1 hDX
    replace HX := (show Hid (SBox _ _ _ _ _ _) from hA)
    replace HR := (show Hid (OwnS _ _ _ _ _ _) from hB)
    replace HO := (show Hid (OkB _ _ _ _ _ _ _ _ _ _ _ _ _ _) from hC)
    clear hA hB hC
    refine hK.out _ _ (fun _ => HO.out.S) ?_
    (try simp only [Act.put, zq1, zq2, zq3])
    clear hK
    refine till_step (i := 8) rfl (by kernel_rfl) (fun K hK => ?_)
    go_simp
    refine hK.out _ _ (fun _ => HO.out.S) ?_
    (try simp only [Act.put, zq1, zq2, zq3])
    clear hK
    refine till_step (i := 11) rfl (by kernel_rfl) (fun K hK => ?_)
    go_simp
    refine hK.out _ _ (fun h => absurd rfl h) ?_
    clear hK
    (try simp only [Act.put, zq1, zq2, zq3])
    refine till_done (by kernel_rfl) ?_ _
    exact hQ.out _ _ _ _ _ _ _ _ _ X bb s' (.slice xa s'.cells.length xc) (.slice ya s'.tasks.length yc) (.slice za s'.log.length zc) D2 _ HO.out HX.out HR.out (by omega) hXV HRF.out
 case b2 =>
  go_simp
  have HX : Hid (SBox (W0.alloc (.cells #[.slice none 0 0, .slice none 0 0, .int .i64 0, .slice none 0 0] 32)) W0.heap.size (.slice none 0 0) (.slice none 0 0) (.slice none 0 0) 0) := heap_alloc_new W0 _
  have hXV : V.heap.size <= W0.heap.size := hVW
  replace hVW : V.heap.size <= (W0.alloc (.cells #[.slice none 0 0, .slice none 0 0, .int .i64 0, .slice none 0 0] 32)).heap.size := by simp; omega
  replace HO := (show Hid (OkB _ _ _ _ _ _ _ _ _ _ _ _ _ _) from HO.out.alloc (.cells #[.slice none 0 0, .slice none 0 0, .int .i64 0, .slice none 0 0] 32))
  refine hK.out _ _ (fun _ => HO.out.S) ?_
  (try simp only [Act.put, zq1, zq2, zq3])
  clear hK
  generalize W0.alloc (.cells #[.slice none 0 0, .slice none 0 0, .int .i64 0, .slice none 0 0] 32) = W1 at HX HO hVW ⊢
  generalize W0.heap.size = X at HX hXV ⊢
  refine till_step (i := 3) rfl (by kernel_rfl) (fun K hK => ?_)
  go_simp
  refine (pick_any (R + 1) R q 7 _ HO.out.rd (by omega) (by omega) (by omega)).mono ?_
  rintro e W2 ⟨q5, rfl, q50, q51, hR5, hF5⟩
  replace HX : Hid (SBox W2 X (.slice none 0 0) (.slice none 0 0) (.slice none 0 0) 0) := HX.out.heap (hF5.block _ HX.out.lt (by have := HO.out.od; omega))
  have hsz := hF5.size
  replace hVW : V.heap.size <= W2.heap.size := by omega
  replace HO := (show Hid (OkB _ _ _ _ _ _ _ _ _ _ _ _ _ _) from HO.out.fr hF5 hR5)
  clear hR5 hF5 hsz
  refine hK.out _ _ (fun _ => HO.out.S) ?_
  (try simp only [Act.put, zq1, zq2, zq3])
  clear hK
  refine till_step (i := 4) rfl (by kernel_rfl) (fun K hK => ?_)
  go_simp
  have HTS : Hid (IntsAt (W2.alloc (.cells #[.int .i64 q5] 3)) (.slice (some ⟨W2.heap.size, 0, none⟩) 1 1) [q5]) := ints_one1 (heap_alloc_new W2 _)
  replace HX : Hid (SBox (W2.alloc (.cells #[.int .i64 q5] 3)) X (.slice none 0 0) (.slice none 0 0) (.slice none 0 0) 0) := HX.out.heap (Below.heap_alloc _ _ _ HX.out.lt)
  replace HO := (show Hid (OkB _ _ _ _ _ _ _ _ _ _ _ _ _ _) from HO.out.alloc (.cells #[.int .i64 q5] 3))
  refine hK.out _ _ (fun _ => HO.out.S) ?_
  (try simp only [Act.put, zq1, zq2, zq3])
  clear hK
  replace hVW : V.heap.size <= (W2.alloc (.cells #[.int .i64 q5] 3)).heap.size := by simp; omega
  generalize W2.alloc (.cells #[.int .i64 q5] 3) = W3 at HTS HO hVW HX ⊢
  generalize W2.heap.size = gt at HTS ⊢
  refine till_step (i := 5) rfl (by kernel_rfl) (fun K hK => ?_)
  go_simp
  refine (sysRun_some _ pr s q5 _ _ _ _ _ _ _ _ (HO.out.ps.lt) HO.out.sy HO.out.of HSP.out HTS.out).mono ?_
  rintro e W4 ⟨bb, s', c', t', l', rfl, hO, hoff, hb⟩
  obtain ⟨xa, xc, ya, yc, za, zc, rfl, rfl, rfl⟩ := hO.on.shapes
  have HR : Hid (OwnS W3.heap.size W4 (.slice xa s'.cells.length xc) (.slice ya s'.tasks.length yc) (.slice za s'.log.length zc) s') := hO
  have HRF := (show Hid (bb = true -> Off pr s') from hoff)
  replace HX : Hid (SBox W4 X (.slice none 0 0) (.slice none 0 0) (.slice none 0 0) 0) := HX.out.heap (hb.block _ HX.out.lt)
  replace HO := (show Hid (OkB _ _ _ _ _ _ _ _ _ _ _ _ _ _) from HO.out.bel hb)
  have hD : V.heap.size <= W3.heap.size := hVW
  replace hVW : V.heap.size <= W4.heap.size := by have := hb.size; omega
  generalize W3.heap.size = D2 at HR hD
  clear hO hoff hb HTS
  refine hK.out _ _ (fun _ => HO.out.S) ?_
  (try simp only [Act.put, zq1, zq2, zq3])
  clear hK
  refine till_take (i := 6) (v := (.tuple #[.agg #[.slice xa s'.cells.length xc, .slice ya s'.tasks.length yc, .int .i64 s'.clock, .slice za s'.log.length zc], .bool bb])) rfl (by kernel_rfl) (fun _ _ _ h => h) (by rfl) ?_ HO.out.S ?_
  . (intro w hSw; go_simp)
  (try simp only [Act.put, zq1, zq2, zq3])
  refine till_take (i := 7) (v := (.agg #[.slice xa s'.cells.length xc, .slice ya s'.tasks.length yc, .int .i64 s'.clock, .slice za s'.log.length zc])) rfl (by kernel_rfl) (fun _ _ _ h => h) (by rfl) ?_ HO.out.S ?_
  . (intro w hSw; go_simp)
  (try simp only [Act.put, zq1, zq2, zq3])
  refine till_two (i := 8) (j := 10) rfl rfl (by kernel_rfl) (fun K hK => ?b15) (fun K hK => ?b16)
  case b15 =>
   go_simp
   refine hK.out _ _ (fun _ => HO.out.S) ?_
   (try simp only [Act.put, zq1, zq2, zq3])
   clear hK
   refine till_step (i := 10) rfl (by kernel_rfl) (fun K hK => ?_)
   obtain ⟨⟨z0, z1, z2, z3⟩, ⟨y0, y1, y2, y3⟩, zl⟩ := HX.out.cells
   go_simp
   clear z0 z1 z2 z3 y0 y1 y2 y3 zl
   have hP1 : P + 1 < X := by have h1 := hPV; omega
   have hDX : D <= X := by omega
   obtain ⟨hA, hB, hC⟩ := dk_put HX.out HR.out HO.out hP1 hDX
   replace HX := (show Hid (SBox _ _ _ _ _ _) from hA)
   replace HR := (show Hid (OwnS _ _ _ _ _ _) from hB)
   replace HO := (show Hid (OkB _ _ _ _ _ _ _ _ _ _ _ _ _ _) from hC)
   clear hA hB hC
   refine hK.out _ _ (fun _ => HO.out.S) ?_
   (try simp only [Act.put, zq1, zq2, zq3])
   clear hK
   refine till_step (i := 11) rfl (by kernel_rfl) (fun K hK => ?_)
   go_simp
   refine hK.out _ _ (fun h => absurd rfl h) ?_
   clear hK
   (try simp only [Act.put, zq1, zq2, zq3])
   refine till_done (by kernel_rfl) ?_ _
   exact hQ.out _ _ _ _ _ _ _ _ _ X bb s' (.slice xa s'.cells.length xc) (.slice ya s'.tasks.length yc) (.slice za s'.log.length zc) D2 _ HO.out HX.out HR.out (by omega) hXV HRF.out
  case b16 =>
   obtain ⟨⟨z0, z1, z2, z3⟩, ⟨y0, y1, y2, y3⟩, zl⟩ := HX.out.cells
   go_simp
   clear z0 z1 z2 z3 y0 y1 y2 y3 zl
   have hP1 : P + 1 < X := by have h1 := hPV; omega
   have hDX : D <= X := by omega
   obtain ⟨hA, hB, hC⟩ := dk_put HX.out HR.out HO.out hP1 hDX
   replace HX := (show Hid (SBox _ _ _ _ _ _) from hA)
   replace HR := (show Hid (OwnS _ _ _ _ _ _) from hB)
   replace HO := (show Hid (OkB _ _ _ _ _ _ _ _ _ _ _ _ _ _) from hC)
   clear hA hB hC
   refine hK.out _ _ (fun _ => HO.out.S) ?_
   (try simp only [Act.put, zq1, zq2, zq3])
   clear hK
   refine till_step (i := 8) rfl (by kernel_rfl) (fun K hK => ?_)
   go_simp
   refine hK.out _ _ (fun _ => HO.out.S) ?_
   (try simp only [Act.put, zq1, zq2, zq3])
   clear hK
   refine till_step (i := 11) rfl (by kernel_rfl) (fun K hK => ?_)
   go_simp
   refine hK.out _ _ (fun h => absurd rfl h) ?_
   clear hK
   (try simp only [Act.put, zq1, zq2, zq3])
   refine till_done (by kernel_rfl) ?_ _
   exact hQ.out _ _ _ _ _ _ _ _ _ X bb s' (.slice xa s'.cells.length xc) (.slice ya s'.tasks.length yc) (.slice za s'.log.length zc) D2 _ HO.out HX.out HR.out (by omega) hXV HRF.out
end Go.Proofs.Ytgbgjljflgbcaaa
