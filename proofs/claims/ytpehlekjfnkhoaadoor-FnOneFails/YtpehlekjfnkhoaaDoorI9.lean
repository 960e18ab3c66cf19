/-
  The walk of FnExactOneRun (by mki9.py).
-/
import Derived.Test.YtpehlekjfnkhoaaDoorI5
import Derived.Test.YtpehlekjfnkhoaaDoorI7
import Derived.Test.YtpehlekjfnkhoaaDoorI8
import Derived.Deep.DeepCutAuto
namespace Go.Proofs.YtpehlekjfnkhoaaDoor
open Go.RowKit
set_option linter.unusedSimpArgs false
set_option linter.unusedVariables false
set_option maxRecDepth 20000

theorem kidsD_len {f : Nat → List Int → Nat × List Int} (hf : ∀ k c, (f k c).2.length = c.length) : ∀ (ks : List Int) (c : List Int), (kidsD f ks c).2.length = c.length := by
  intro ks
  induction ks with
  | nil => intro c; rfl
  | cons k ks ih =>
    intro c
    simp only [kidsD]
    split
    · rw [ih, hf]
    · exact hf _ _
theorem chX_cl {c r : List Int} {ds : List De} (h : (chX c r ds).2.2 = true) : (chX c r ds).1.length = c.length := by
  unfold chX chDo at *
  split at h
  case h_2 => cases h
  case h_1 x hx =>
    split at hx
    case isFalse => cases hx
    case isTrue hg =>
      obtain ⟨h1, h2, h3⟩ := goB_inF hg
      obtain ⟨c', r'⟩ := x
      exact (doDs_inF ds c r c' r' (dsB_all h3).2 h1 hx).cl
theorem actsD_len {f : Nat → List Int → Nat × List Int} (hf : ∀ k c, (f k c).2.length = c.length) : ∀ (as_ : List Ac) (c r : List Int), (actsD f as_ c r).2.length = c.length := by
  intro as_
  induction as_ with
  | nil => intro c r; rfl
  | cons a rest ih =>
    intro c r
    simp only [actsD]
    split
    · split
      · rename_i h; rw [ih, chX_cl h]
      · rfl
    · split
      · split
        · rw [ih, kidsD_len hf]
        · exact kidsD_len hf _ _
      · split
        · rfl
        · split
          · exact ih _ _
          · rfl
theorem bodyD_len (bs : List (List Ac)) : ∀ (n b : Nat) (c : List Int), (bodyD bs n b c).2.length = c.length := by
  intro n
  induction n with
  | zero => intro b c; rfl
  | succ n ih => intro b c; exact actsD_len (fun k c => ih k c) _ _ _
theorem oneX_len (p : Pr) : (oneX p).1.length ≤ 1048576 := by
  unfold oneX
  by_cases h : okB p = true
  · rw [if_pos h]
    have hl := bodyD_len p.bodies 4 0 p.cells
    have h3 : p.cells.length ≤ 3 := by
      simp only [okB, foB, csB, Bool.and_eq_true, decide_eq_true_eq] at h
      omega
    split
    · simp only; omega
    · split
      · simp only; omega
      · simp
  · rw [if_neg h]; simp
theorem sOneRun_eq {p : Pr} {R : List Int} {B1 B2 : Bool} (hR : oneX p = (R, B1, B2)) (cv bv : Value) (w : World) (hc : IntsAt w cv p.cells) (hB : BodiesAt w bv p.bodies) :
    Calls Tryd.prog 6 #[.agg #[cv, bv]] w fun e w' => ∃ a c, e = .returned (.tuple #[.slice a R.length c, .bool B1, .bool B2]) ∧ OwnInt w.heap.size w' (.slice a R.length c) R ∧ Below w.heap.size w w' := by
  have := sOneRun_any p cv bv w hc hB
  rw [hR] at this
  refine this.mono ?_
  rintro e w' ⟨x, rfl, h, hb⟩
  obtain ⟨a, c, rfl, _⟩ := own_shape h
  exact ⟨a, c, rfl, h, hb⟩
theorem oneRun_eq {p : Pr} {R : List Int} {B1 B2 : Bool} (hR : oneX p = (R, B1, B2)) (cv bv : Value) (aN aF : Addr) (w : World) (hc : IntsAt w cv p.cells) (hB : BodiesAt w bv p.bodies) (hE : ErrGl w aN aF) :
    Calls Tryd.prog 7 #[.agg #[cv, bv]] w fun e w' => ∃ a c, e = .returned (.tuple #[.slice a R.length c, .bool B1, .bool B2]) ∧ OwnInt w.heap.size w' (.slice a R.length c) R ∧ Below w.heap.size w w' := by
  have := oneRun_any p cv bv aN aF w hc hB hE
  rw [hR] at this
  refine this.mono ?_
  rintro e w' ⟨x, rfl, h, hb⟩
  obtain ⟨a, c, rfl, _⟩ := own_shape h
  exact ⟨a, c, rfl, h, hb⟩

set_option maxHeartbeats 4000000 in
theorem exactOneRun_walk (p : Pr) (pv0 pv1 : Value) (aN aF : Addr) (w : World) (hP : PrAt w pv0 pv1 p) (hE : ErrGl w aN aF) :
    Calls Tryd.prog 4 #[.agg #[pv0, pv1]] w fun r w' => r = .returned (.bool true) ∧ Below w.heap.size w w' := by
  obtain ⟨aPa0, aPc0, rfl, _⟩ := hP.1.shape
  obtain ⟨aPa1, aPc1, rfl, _⟩ := hP.2.shape
  have HP := (show Hid (PrAt _ _ _ _) from hP)
  clear hP
  have HE := (show Hid (ErrGl _ _ _) from hE)
  clear hE
  obtain ⟨R, B1, B2, hR⟩ : ∃ R B1 B2, oneX p = (R, B1, B2) := ⟨_, _, _, rfl⟩
  have HRR := (show Hid (_ = _) from hR)
  clear hR
  have hRl : R.length ≤ 1048576 := by have h := oneX_len p; rw [HRR.out] at h; exact h
  go_enter Tryd.func4, Tryd.ntmps4
  go_wp2_with fail
  refine (szProg_any p _ _ 1048576 _ (by exact HP.out.1.mono (by repeat (first | with_reducible exact Below.refl _ _ | (with_reducible refine Below.setCell ?_ ?hs _; case hs => ((try simp); try omega)) | (with_reducible refine Below.alloc ?_ ?hs _; case hs => ((try simp); try omega)) | with_reducible refine Below.drew ?_ | with_reducible refine below_drewN ?_ _))) (by exact HP.out.2.mono (by repeat (first | with_reducible exact Below.refl _ _ | (with_reducible refine Below.setCell ?_ ?hs _; case hs => ((try simp); try omega)) | (with_reducible refine Below.alloc ?_ ?hs _; case hs => ((try simp); try omega)) | with_reducible refine Below.drew ?_ | with_reducible refine below_drewN ?_ _))) (by omega) (by omega)).mono ?_
  rintro e w1 ⟨q, rfl, hq, hb1⟩
  have ea0_1 : w1.cell? ⟨w.heap.size, 0, none⟩ = some (.slice aPa0 p.cells.length aPc0) := by rw [hb1.cell (p := ⟨w.heap.size, 0, none⟩) (by simp)]; simp [go_sem]
  have ea1_1 : w1.cell? ⟨w.heap.size, 1, none⟩ = some (.slice aPa1 p.bodies.length aPc1) := by rw [hb1.cell (p := ⟨w.heap.size, 1, none⟩) (by simp)]; simp [go_sem]
  have za_1 : w.heap.size < w1.heap.size := by have := hb1.size; (try simp at this); omega
  have HB1 : Hid (Below w.heap.size w w1) := below_then (by repeat (first | with_reducible exact Below.refl _ _ | (with_reducible refine Below.setCell ?_ ?hs _; case hs => ((try simp); try omega)) | (with_reducible refine Below.alloc ?_ ?hs _; case hs => ((try simp); try omega)) | with_reducible refine Below.drew ?_ | with_reducible refine below_drewN ?_ _)) (by (try simp); try omega) hb1
  have HQQ := (show Hid (0 ≤ q → SmallP p) from hq)
  clear hb1 hq
  by_cases hneg : q < 0
  · go_wp2_with fail
    go_ret
    exact ⟨rfl, HB1.out⟩
  have HSMP : Hid (SmallP p) := HQQ.out (by omega)
  clear HQQ
  go_wp2_with fail
  refine (toProg_th' p _ _ _ (PrAt.mono HP.out HB1.out) HSMP.out).mono ?_
  rintro e w2 ⟨sv0, sv1, rfl, ho, hb, hz⟩
  obtain ⟨sa0, sc0, rfl, _⟩ := ho.1.shape
  obtain ⟨sa1, sc1, rfl, _⟩ := ho.2.shape
  have ea0_2 : w2.cell? ⟨w.heap.size, 0, none⟩ = some (.slice aPa0 p.cells.length aPc0) := by rw [hb.cell (p := ⟨w.heap.size, 0, none⟩) (by (try simp); try omega)]; exact ea0_1
  have ea1_2 : w2.cell? ⟨w.heap.size, 1, none⟩ = some (.slice aPa1 p.bodies.length aPc1) := by rw [hb.cell (p := ⟨w.heap.size, 1, none⟩) (by (try simp); try omega)]; exact ea1_1
  have za_2 : w.heap.size < w2.heap.size := by have := hb.size; (try simp at this); omega
  have HB2 : Hid (Below w.heap.size w w2) := below_then HB1.out HB1.out.size hb
  have HXS := (show Hid (PrAt w2 _ _ _) from ho.at)
  clear ho hz hb
  clear ea0_1 ea1_1 za_1
  clear HB1 
  go_wp2_with fail
  refine (sOneRun_eq HRR.out _ _ _ HXS.out.1 HXS.out.2).mono ?_
  rintro e w3 ⟨sa, sc, rfl, hs, hb⟩
  have ea0_3 : w3.cell? ⟨w.heap.size, 0, none⟩ = some (.slice aPa0 p.cells.length aPc0) := by rw [hb.cell (p := ⟨w.heap.size, 0, none⟩) (by (try simp); try omega)]; exact ea0_2
  have ea1_3 : w3.cell? ⟨w.heap.size, 1, none⟩ = some (.slice aPa1 p.bodies.length aPc1) := by rw [hb.cell (p := ⟨w.heap.size, 1, none⟩) (by (try simp); try omega)]; exact ea1_2
  have za_3 : w.heap.size < w3.heap.size := by have := hb.size; (try simp at this); omega
  have HB3 : Hid (Below w.heap.size w w3) := below_then HB2.out HB2.out.size hb
  have HS_3 := (show Hid (OwnInt w.heap.size w3 _ R) from own_base hs HB2.out.size)
  have HLS : Hid (∀ g, (Value.slice sa R.length sc).ownBlock = some g → g < w3.heap.size) := fun g hg => (hs.lt g hg).2
  clear hs hb HXS
  clear ea0_2 ea1_2 za_2
  clear HB2 
  have h0b : w.heap.size < w3.heap.size := za_3
  go_wp2_with fail
  refine (toProg_th' p _ _ _ (PrAt.mono HP.out HB3.out) HSMP.out).mono ?_
  rintro e w4 ⟨xPv0, xPv1, rfl, ho, hb, hz⟩
  obtain ⟨xPa0, xPc0, rfl, _⟩ := ho.1.shape
  obtain ⟨xPa1, xPc1, rfl, _⟩ := ho.2.shape
  have ea0_4 : w4.cell? ⟨w.heap.size, 0, none⟩ = some (.slice aPa0 p.cells.length aPc0) := by rw [hb.cell (p := ⟨w.heap.size, 0, none⟩) (by (try simp); try omega)]; exact ea0_3
  have ea1_4 : w4.cell? ⟨w.heap.size, 1, none⟩ = some (.slice aPa1 p.bodies.length aPc1) := by rw [hb.cell (p := ⟨w.heap.size, 1, none⟩) (by (try simp); try omega)]; exact ea1_3
  have za_4 : w.heap.size < w4.heap.size := by have := hb.size; (try simp at this); omega
  have HB4 : Hid (Below w.heap.size w w4) := below_then HB3.out HB3.out.size hb
  have HS_4 := (show Hid (OwnInt w.heap.size w4 _ R) from OwnInt.below HS_3.out hb (Nat.le_refl _))
  have HXP4 := (show Hid (PrAt w4 _ _ _) from ho.at)
  obtain ⟨MP, k1, k2, k3, k4⟩ := prSh_of ho hz HSMP.out
  have HYP4 := (show Hid (RowSh 1 w4 _ ∧ BodiesSh w4 _ MP) from ⟨k1, k2⟩)
  have HRP : Hid (∀ a, a ∈ mtP _ MP → w3.heap.size ≤ a.block ∧ a.block < w4.heap.size) := fun a ha => ⟨k3 a ha, prSh_lt k1 k2 a ha⟩
  have hlP := k4
  have hxb := hb.size
  clear ho hz hb k1 k2 k3 k4
  clear ea0_3 ea1_3 za_3
  clear HB3 HS_3
  go_wp2_with fail
  refine (oneRun_eq HRR.out _ _ aN aF _ (by exact IntsAt.mono HXP4.out.1 (by repeat (first | with_reducible exact Below.refl _ _ | (with_reducible refine Below.setCell ?_ ?hs _; case hs => ((try simp); try omega)) | (with_reducible refine Below.alloc ?_ ?hs _; case hs => ((try simp); try omega)) | with_reducible refine Below.drew ?_ | with_reducible refine below_drewN ?_ _))) (by exact BodiesAt.mono HXP4.out.2 (by repeat (first | with_reducible exact Below.refl _ _ | (with_reducible refine Below.setCell ?_ ?hs _; case hs => ((try simp); try omega)) | (with_reducible refine Below.alloc ?_ ?hs _; case hs => ((try simp); try omega)) | with_reducible refine Below.drew ?_ | with_reducible refine below_drewN ?_ _))) (by exact ErrGl.mono HE.out (by repeat (first | with_reducible exact HB4.out | (with_reducible refine Below.setCell ?_ ?hs _; case hs => ((try simp); try omega)) | (with_reducible refine Below.alloc ?_ ?hs _; case hs => ((try simp); try omega)) | with_reducible refine Below.drew ?_ | with_reducible refine below_drewN ?_ _)))).mono ?_
  rintro e w5 ⟨ga, gc, rfl, hg, hb⟩
  have hr : Below w4.heap.size w4 w5 := below_then (by repeat (first | with_reducible exact Below.refl _ _ | (with_reducible refine Below.setCell ?_ ?hs _; case hs => ((try simp); try omega)) | (with_reducible refine Below.alloc ?_ ?hs _; case hs => ((try simp); try omega)) | with_reducible refine Below.drew ?_ | with_reducible refine below_drewN ?_ _)) (by (try simp); try omega) hb
  have ea0_5 : w5.cell? ⟨w.heap.size, 0, none⟩ = some (.slice aPa0 p.cells.length aPc0) := by rw [hr.cell (p := ⟨w.heap.size, 0, none⟩) (by (try simp); try omega)]; exact ea0_4
  have ea1_5 : w5.cell? ⟨w.heap.size, 1, none⟩ = some (.slice aPa1 p.bodies.length aPc1) := by rw [hr.cell (p := ⟨w.heap.size, 1, none⟩) (by (try simp); try omega)]; exact ea1_4
  have za_5 : w.heap.size < w5.heap.size := by have := hr.size; (try simp at this); omega
  have ex0_5 : w5.cell? ⟨w4.heap.size, 0, none⟩ = some (.slice xPa0 p.cells.length xPc0) := by rw [hb.cell (p := ⟨w4.heap.size, 0, none⟩) (by (try simp); try omega)]; simp [go_sem]
  have ex1_5 : w5.cell? ⟨w4.heap.size, 1, none⟩ = some (.slice xPa1 p.bodies.length xPc1) := by rw [hb.cell (p := ⟨w4.heap.size, 1, none⟩) (by (try simp); try omega)]; simp [go_sem]
  have zx_5 : w4.heap.size < w5.heap.size := by have := hb.size; (try simp at this); omega
  have HB5 : Hid (Below w.heap.size w w5) := below_then HB4.out HB4.out.size hr
  have HS_5 := (show Hid (OwnInt w.heap.size w5 _ R) from OwnInt.below HS_4.out hr (Nat.le_refl _))
  have HXP5 := (show Hid (PrAt w5 _ _ _) from PrAt.mono HXP4.out hr)
  have HYP5 := (show Hid (RowSh 1 w5 _ ∧ BodiesSh w5 _ MP) from ⟨HYP4.out.1.set (IntSet.below hr), HYP4.out.2.set (IntSet.below hr)⟩)
  have HG5 := (show Hid (OwnInt w.heap.size w5 _ R) from own_base hg (by have := HB4.out.size; (try simp); omega))
  have HLG : Hid (∀ g, (Value.slice ga R.length gc).ownBlock = some g → w4.heap.size + 1 ≤ g) := fun g hg2 => by have := (hg.lt g hg2).1; (try simp at this); omega
  clear hg hb hr
  clear ea0_4 ea1_4 za_4 HB4 HS_4 HXP4 HYP4
  go_wp2_with fail
  refine (eqIntS_same _ _ R _ HG5.out.at HS_5.out.at).mono ?_
  rintro e w6 ⟨rfl, hb⟩
  have ea0_6 : w6.cell? ⟨w.heap.size, 0, none⟩ = some (.slice aPa0 p.cells.length aPc0) := by rw [hb.cell (p := ⟨w.heap.size, 0, none⟩) (by (try simp); try omega)]; exact ea0_5
  have ea1_6 : w6.cell? ⟨w.heap.size, 1, none⟩ = some (.slice aPa1 p.bodies.length aPc1) := by rw [hb.cell (p := ⟨w.heap.size, 1, none⟩) (by (try simp); try omega)]; exact ea1_5
  have za_6 : w.heap.size < w6.heap.size := by have := hb.size; (try simp at this); omega
  have ex0_6 : w6.cell? ⟨w4.heap.size, 0, none⟩ = some (.slice xPa0 p.cells.length xPc0) := by rw [hb.cell (p := ⟨w4.heap.size, 0, none⟩) (by (try simp); try omega)]; exact ex0_5
  have ex1_6 : w6.cell? ⟨w4.heap.size, 1, none⟩ = some (.slice xPa1 p.bodies.length xPc1) := by rw [hb.cell (p := ⟨w4.heap.size, 1, none⟩) (by (try simp); try omega)]; exact ex1_5
  have zx_6 : w4.heap.size < w6.heap.size := by have := hb.size; (try simp at this); omega
  have HB6 : Hid (Below w.heap.size w w6) := below_then HB5.out HB5.out.size hb
  have HS_6 := (show Hid (OwnInt w.heap.size w6 _ R) from OwnInt.below HS_5.out hb (Nat.le_refl _))
  have HXP6 := (show Hid (PrAt w6 _ _ _) from PrAt.mono HXP5.out hb)
  have HYP6 := (show Hid (RowSh 1 w6 _ ∧ BodiesSh w6 _ MP) from ⟨HYP5.out.1.set (IntSet.below hb), HYP5.out.2.set (IntSet.below hb)⟩)
  have HG6 := (show Hid (OwnInt w.heap.size w6 _ R) from OwnInt.below HG5.out hb (Nat.le_refl _))
  clear hb
  clear ea0_5 ea1_5 ex0_5 ex1_5 za_5 zx_5
  clear HB5 HS_5 HXP5 HYP5 HG5
  go_wp2_with fail
  have HC := (show Hid (PrAt w6.drew (.slice aPa0 p.cells.length aPc0) (.slice aPa1 p.bodies.length aPc1) p) from PrAt.mono HP.out HB6.out.drew)
  have HEX := (show Hid (PrAt w6.drew (.slice xPa0 p.cells.length xPc0) (.slice xPa1 p.bodies.length xPc1) p) from PrAt.mono HXP6.out (Below.refl _ _).drew)
  go_cut [55] (fun sx wx => sx = .bool false ∧ Below w6.heap.size w6 wx)
  case first =>
    go_region_with (first | (go_at_call 10; refine (toProg_th' p _ _ _ HC.out HSMP.out).mono ?_; rintro e wx1 ⟨yv0, yv1, rfl, hoy, hby, hzy⟩; obtain ⟨ya0, yc0, rfl, _⟩ := (hoy.1).shape; obtain ⟨ya1, yc1, rfl, _⟩ := (hoy.2).shape; have y0 : wx1.cell? ⟨w4.heap.size, 0, none⟩ = some (.slice xPa0 p.cells.length xPc0) := (hby.cell (p := ⟨w4.heap.size, 0, none⟩) zx_6).trans ex0_6; have y1 : wx1.cell? ⟨w4.heap.size, 1, none⟩ = some (.slice xPa1 p.bodies.length xPc1) := (hby.cell (p := ⟨w4.heap.size, 1, none⟩) zx_6).trans ex1_6) | (go_at_call 12; refine (eqProg_same' p _ _ _ _ _ (PrAt.mono HEX.out hby) hoy.at).mono ?_; rintro e wx2 ⟨rfl, hbz⟩))
    all_goals
      have HQ := (show Hid (Below w6.heap.size w6 wx2) from below_then (((Below.refl _ _).drew).trans hby) hby.size hbz)
      clear hby hbz hoy hzy y0 y1 HC HEX
      go_wp2_with fail
      go_meet
      exact ⟨rfl, HQ.out⟩
  case rest =>
  obtain ⟨rfl, hb⟩ := hcut
  obtain ⟨w7, hwc⟩ : ∃ w7 : World, w7 = wc := ⟨_, rfl⟩
  subst hwc
  clear HC HEX
  have ea0_7 : w7.cell? ⟨w.heap.size, 0, none⟩ = some (.slice aPa0 p.cells.length aPc0) := by rw [hb.cell (p := ⟨w.heap.size, 0, none⟩) (by (try simp); try omega)]; exact ea0_6
  have ea1_7 : w7.cell? ⟨w.heap.size, 1, none⟩ = some (.slice aPa1 p.bodies.length aPc1) := by rw [hb.cell (p := ⟨w.heap.size, 1, none⟩) (by (try simp); try omega)]; exact ea1_6
  have za_7 : w.heap.size < w7.heap.size := by have := hb.size; (try simp at this); omega
  have ex0_7 : w7.cell? ⟨w4.heap.size, 0, none⟩ = some (.slice xPa0 p.cells.length xPc0) := by rw [hb.cell (p := ⟨w4.heap.size, 0, none⟩) (by (try simp); try omega)]; exact ex0_6
  have ex1_7 : w7.cell? ⟨w4.heap.size, 1, none⟩ = some (.slice xPa1 p.bodies.length xPc1) := by rw [hb.cell (p := ⟨w4.heap.size, 1, none⟩) (by (try simp); try omega)]; exact ex1_6
  have zx_7 : w4.heap.size < w7.heap.size := by have := hb.size; (try simp at this); omega
  have HB7 : Hid (Below w.heap.size w w7) := below_then HB6.out HB6.out.size hb
  have HS_7 := (show Hid (OwnInt w.heap.size w7 _ R) from OwnInt.below HS_6.out hb (Nat.le_refl _))
  have HXP7 := (show Hid (PrAt w7 _ _ _) from PrAt.mono HXP6.out hb)
  have HYP7 := (show Hid (RowSh 1 w7 _ ∧ BodiesSh w7 _ MP) from ⟨HYP6.out.1.set (IntSet.below hb), HYP6.out.2.set (IntSet.below hb)⟩)
  have HG7 := (show Hid (OwnInt w.heap.size w7 _ R) from OwnInt.below HG6.out hb (Nat.le_refl _))
  clear hb
  clear ea0_6 ea1_6 ex0_6 ex1_6 za_6 zx_6
  clear HB6 HS_6 HXP6 HYP6 HG6
  clear HXP7
  go_wp2_with fail
  refine (markProg_tr _ _ MP _ _ HYP7.out.1 HYP7.out.2 (by omega) (by omega)).mono ?_
  rintro e w8 ⟨rfl, wm, hbm, ew⟩
  have hS : IntSet w7 w8 := by rw [ew]; exact (IntSet.below hbm).trans (wrT_set (fun a ha => prSh_ic (HYP7.out.1.set (IntSet.below hbm)) (HYP7.out.2.set (IntSet.below hbm)) a ha) _)
  have ea0_8 : w8.cell? ⟨w.heap.size, 0, none⟩ = some (.slice aPa0 p.cells.length aPc0) := by
    rw [ew, wrT_other (fun hp => by have h1 := HRP.out _ hp; (try simp at h1); omega), hbm.cell (p := ⟨w.heap.size, 0, none⟩) (by (try simp); try omega)]; exact ea0_7
  have ea1_8 : w8.cell? ⟨w.heap.size, 1, none⟩ = some (.slice aPa1 p.bodies.length aPc1) := by
    rw [ew, wrT_other (fun hp => by have h1 := HRP.out _ hp; (try simp at h1); omega), hbm.cell (p := ⟨w.heap.size, 1, none⟩) (by (try simp); try omega)]; exact ea1_7
  have za_8 : w.heap.size < w8.heap.size := by have := hS.size; omega
  have HB8 : Hid (Below w.heap.size w w8) := by
    have h := wrT_below (below_then HB7.out HB7.out.size hbm) (A := mtP (.slice xPa0 p.cells.length xPc0) MP) (fun a ha => by have := (HRP.out a ha).1; omega) (1)
    rw [← ew] at h; exact h
  have HS_8 : Hid (OwnInt w.heap.size w8 (.slice sa R.length sc) R) := by
    have h := OwnInt.wr (OwnInt.below HS_7.out hbm (Nat.le_refl _)) (A := mtP (.slice xPa0 p.cells.length xPc0) MP) (fun g hg a ha e => by have h1 := HRP.out a ha; have h2 := HLS.out g hg; omega) (1)
    rw [← ew] at h; exact h
  have HG8 : Hid (OwnInt w.heap.size w8 (.slice ga R.length gc) R) := by
    have h := OwnInt.wr (OwnInt.below HG7.out hbm (Nat.le_refl _)) (A := mtP (.slice xPa0 p.cells.length xPc0) MP) (fun g hg a ha e => by have h1 := HRP.out a ha; have h2 := HLG.out g hg; omega) (1)
    rw [← ew] at h; exact h
  clear ew hbm hS
  clear ea0_7 ea1_7 za_7 ex0_7 ex1_7 zx_7 HB7 HS_7 HG7 HYP7
  have hkk : ¬ (1 + ((mtP (.slice xPa0 p.cells.length xPc0) MP).length : Int) < 0) := by omega
  go_wp2_with fail
  refine (eqIntS_same _ _ R _ HG8.out.at HS_8.out.at).mono ?_
  rintro e w9 ⟨rfl, hb⟩
  have ea0_9 : w9.cell? ⟨w.heap.size, 0, none⟩ = some (.slice aPa0 p.cells.length aPc0) := by rw [hb.cell (p := ⟨w.heap.size, 0, none⟩) (by (try simp); try omega)]; exact ea0_8
  have ea1_9 : w9.cell? ⟨w.heap.size, 1, none⟩ = some (.slice aPa1 p.bodies.length aPc1) := by rw [hb.cell (p := ⟨w.heap.size, 1, none⟩) (by (try simp); try omega)]; exact ea1_8
  have za_9 : w.heap.size < w9.heap.size := by have := hb.size; (try simp at this); omega
  have HB9 : Hid (Below w.heap.size w w9) := below_then HB8.out HB8.out.size hb
  have HS_9 := (show Hid (OwnInt w.heap.size w9 _ R) from OwnInt.below HS_8.out hb (Nat.le_refl _))
  have HG9 := (show Hid (OwnInt w.heap.size w9 _ R) from OwnInt.below HG8.out hb (Nat.le_refl _))
  clear hb
  clear ea0_8 ea1_8 za_8
  clear HB8 HS_8 HG8
  have hgl := OwnInt.len HG9.out
  go_wp2_with fail
  refine (markIntS_tr _ _ _ (OwnInt.shW HG9.out) (by omega) (by omega)).mono ?_
  rintro e w10 ⟨rfl, ew⟩
  have hIC : ∀ a, a ∈ trR 1 (.slice ga R.length gc) → ICell w9 a := fun a ha => (RowSh.trail (OwnInt.shW HG9.out) a ha).1
  have hS : IntSet w9 w10 := by rw [ew]; exact wrT_set hIC _
  have hGB : ∀ a, a ∈ trR 1 (.slice ga R.length gc) → w4.heap.size + 1 ≤ a.block := fun a ha => HLG.out _ (OwnInt.blk HG9.out a ha)
  have ea0_10 : w10.cell? ⟨w.heap.size, 0, none⟩ = some (.slice aPa0 p.cells.length aPc0) := by
    rw [ew, wrT_other (fun hp => by have h1 := hGB _ hp; (try simp at h1); omega)]; exact ea0_9
  have ea1_10 : w10.cell? ⟨w.heap.size, 1, none⟩ = some (.slice aPa1 p.bodies.length aPc1) := by
    rw [ew, wrT_other (fun hp => by have h1 := hGB _ hp; (try simp at h1); omega)]; exact ea1_9
  have za_10 : w.heap.size < w10.heap.size := by have := hS.size; omega
  have HB10 : Hid (Below w.heap.size w w10) := by
    have h := wrT_below HB9.out (A := trR 1 (.slice ga R.length gc)) (fun a ha => by have := hGB a ha; omega) 1
    rw [← ew] at h; exact h
  have HS_10 : Hid (OwnInt w.heap.size w10 (.slice sa R.length sc) R) := by
    have h := OwnInt.wr HS_9.out (A := trR 1 (.slice ga R.length gc)) (fun g hg a ha e => by have h1 := hGB a ha; have h2 := HLS.out g hg; omega) 1
    rw [← ew] at h; exact h
  have HGS10 := (show Hid (RowSh 1 w10 _) from (OwnInt.shW HG9.out).set hS)
  have HM10 : Hid (HeldT w10 (trR 1 (.slice ga R.length gc)) 1) := by
    have h := wrT_held hIC (trR_nodup 1 _) 1
    rw [← ew] at h; exact h
  clear ew hIC hS hGB HB9 HS_9 HG9 ea0_9 ea1_9 za_9
  have hkm : ¬ (1 + ((trR 1 (.slice ga R.length gc)).length : Int) < 0) := by omega
  go_wp2_with fail
  refine (heldIntS_tr _ _ _ HGS10.out HM10.out (by omega) (by omega)).mono ?_
  rintro e wh ⟨rfl, hw⟩
  have hw := hw.symm
  subst hw
  go_wp2_with fail
  refine (toProg_th' p _ _ _ (PrAt.mono HP.out HB10.out) HSMP.out).mono ?_
  rintro e w11 ⟨tv0, tv1, rfl, ho, hb, hz⟩
  obtain ⟨ta0, tc0, rfl, _⟩ := ho.1.shape
  obtain ⟨ta1, tc1, rfl, _⟩ := ho.2.shape
  have ea0_11 : w11.cell? ⟨w.heap.size, 0, none⟩ = some (.slice aPa0 p.cells.length aPc0) := by rw [hb.cell (p := ⟨w.heap.size, 0, none⟩) (by (try simp); try omega)]; exact ea0_10
  have ea1_11 : w11.cell? ⟨w.heap.size, 1, none⟩ = some (.slice aPa1 p.bodies.length aPc1) := by rw [hb.cell (p := ⟨w.heap.size, 1, none⟩) (by (try simp); try omega)]; exact ea1_10
  have za_11 : w.heap.size < w11.heap.size := by have := hb.size; (try simp at this); omega
  have HB11 : Hid (Below w.heap.size w w11) := below_then HB10.out HB10.out.size hb
  have HS_11 := (show Hid (OwnInt w.heap.size w11 _ R) from OwnInt.below HS_10.out hb (Nat.le_refl _))
  have HM11 := (show Hid (HeldT w11 _ 1) from HeldT.below HM10.out (fun a ha => (RowSh.trail HGS10.out a ha).2) hb)
  have HGS11 := (show Hid (RowSh 1 w11 _) from HGS10.out.set (IntSet.below hb))
  have HXT := (show Hid (PrAt w11 _ _ _) from ho.at)
  clear ho hz hb
  clear ea0_10 ea1_10 za_10
  clear HB10 HS_10 HM10 HGS10
  go_wp2_with fail
  refine (oneRun_eq HRR.out _ _ aN aF _ HXT.out.1 HXT.out.2 (ErrGl.mono HE.out HB11.out)).mono ?_
  rintro e w12 ⟨ha, hc, rfl, hh, hb⟩
  have ea0_12 : w12.cell? ⟨w.heap.size, 0, none⟩ = some (.slice aPa0 p.cells.length aPc0) := by rw [hb.cell (p := ⟨w.heap.size, 0, none⟩) (by (try simp); try omega)]; exact ea0_11
  have ea1_12 : w12.cell? ⟨w.heap.size, 1, none⟩ = some (.slice aPa1 p.bodies.length aPc1) := by rw [hb.cell (p := ⟨w.heap.size, 1, none⟩) (by (try simp); try omega)]; exact ea1_11
  have za_12 : w.heap.size < w12.heap.size := by have := hb.size; (try simp at this); omega
  have HB12 : Hid (Below w.heap.size w w12) := below_then HB11.out HB11.out.size hb
  have HS_12 := (show Hid (OwnInt w.heap.size w12 _ R) from OwnInt.below HS_11.out hb (Nat.le_refl _))
  have HM12 := (show Hid (HeldT w12 _ 1) from HeldT.below HM11.out (fun a ha => (RowSh.trail HGS11.out a ha).2) hb)
  have HGS12 := (show Hid (RowSh 1 w12 _) from HGS11.out.set (IntSet.below hb))
  have HH12 := (show Hid (OwnInt w.heap.size w12 _ R) from own_base hh HB11.out.size)
  clear hh hb HXT
  clear ea0_11 ea1_11 za_11
  clear HB11 HS_11 HM11 HGS11
  go_wp2_with fail
  refine (eqIntS_same _ _ R _ HH12.out.at HS_12.out.at).mono ?_
  rintro e w13 ⟨rfl, hb⟩
  have ea0_13 : w13.cell? ⟨w.heap.size, 0, none⟩ = some (.slice aPa0 p.cells.length aPc0) := by rw [hb.cell (p := ⟨w.heap.size, 0, none⟩) (by (try simp); try omega)]; exact ea0_12
  have ea1_13 : w13.cell? ⟨w.heap.size, 1, none⟩ = some (.slice aPa1 p.bodies.length aPc1) := by rw [hb.cell (p := ⟨w.heap.size, 1, none⟩) (by (try simp); try omega)]; exact ea1_12
  have za_13 : w.heap.size < w13.heap.size := by have := hb.size; (try simp at this); omega
  have HB13 : Hid (Below w.heap.size w w13) := below_then HB12.out HB12.out.size hb
  have HS_13 := (show Hid (OwnInt w.heap.size w13 _ R) from OwnInt.below HS_12.out hb (Nat.le_refl _))
  have HM13 := (show Hid (HeldT w13 _ 1) from HeldT.below HM12.out (fun a ha => (RowSh.trail HGS12.out a ha).2) hb)
  have HGS13 := (show Hid (RowSh 1 w13 _) from HGS12.out.set (IntSet.below hb))
  have HH13 := (show Hid (OwnInt w.heap.size w13 _ R) from OwnInt.below HH12.out hb (Nat.le_refl _))
  clear hb
  clear ea0_12 ea1_12 za_12
  clear HB12 HS_12 HM12 HGS12 HH12
  go_wp2_with fail
  refine (heldIntS_tr _ _ _ HGS13.out HM13.out (by omega) (by omega)).mono ?_
  rintro e wh ⟨rfl, hw⟩
  have hw := hw.symm
  subst hw
  go_wp2_with fail
  go_ret
  exact ⟨rfl, HB13.out⟩

end Go.Proofs.YtpehlekjfnkhoaaDoor
