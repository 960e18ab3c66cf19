import Derived.Test.YtdpnenjbgcpefaaDoorX5
import Derived.Test.YtdpnenjbgcpefaaDoorQ4
namespace Go.Proofs.YtdpnenjbgcpefaaDoor
open Go.RowKit
set_option linter.unusedSimpArgs false
set_option linter.unusedVariables false

set_option maxHeartbeats 1000000 in
theorem exactText_walk (p : Pr) (cv bv : Value) (w : World) (hc : IntsAt w cv p.cells) (hB : BodiesAt w bv p.bodies) :
    Calls Tryd.prog 3 #[.agg #[cv, bv]] w fun r w' => r = .returned (.bool true) ∧ Below w.heap.size w w' := by
  obtain ⟨ac, cc, rfl, hmc⟩ := hc.shape
  obtain ⟨ab, cb, rfl, hmb⟩ := hB.shape
  go_enter Tryd.func3, Tryd.ntmps3
  go_wp2_with fail
  refine (szProg_any p _ _ 1048576 _ (by exact hc.mono (by repeat (first | exact Below.refl _ _ | refine Below.alloc ?_ (by simp; try omega) _ | refine Below.drew ?_ | refine Below.setCell ?_ (by simp; try omega) _))) (by exact hB.mono (by repeat (first | exact Below.refl _ _ | refine Below.alloc ?_ (by simp; try omega) _ | refine Below.drew ?_ | refine Below.setCell ?_ (by simp; try omega) _))) (by omega) (by omega)).mono ?_
  rintro e w1 ⟨q, rfl, hq, hb1⟩
  have B1 : Below w.heap.size w w1 := below_after (Below.refl _ _) (Nat.le_refl _) hb1
  have hz1 : w.heap.size < w1.heap.size := by have := hb1.size; simp at this; omega
  have e10 : w1.cell? ⟨w.heap.size, 0, none⟩ = some (.slice ac p.cells.length cc) := by rw [hb1.cell (p := ⟨w.heap.size, 0, none⟩) (by simp)]; simp [go_sem]
  have e11 : w1.cell? ⟨w.heap.size, 1, none⟩ = some (.slice ab p.bodies.length cb) := by rw [hb1.cell (p := ⟨w.heap.size, 1, none⟩) (by simp)]; simp [go_sem]
  have HB1 := (show Hid (Below _ _ _) from B1)
  have HC := (show Hid (IntsAt _ _ _) from hc)
  have HB := (show Hid (BodiesAt _ _ _) from hB)
  have HQ := (show Hid (0 ≤ q → SmallP p) from hq)
  clear B1 hc hB hq hb1
  by_cases hneg : q < 0
  · go_wp2_with fail
    go_ret
    exact ⟨rfl, HB1.out⟩
  have HS : Hid (SmallP p) := HQ.out (by omega)
  clear HQ
  go_wp2_with fail
  refine (toProg_any p _ _ _ (IntsAt.mono HC.out HB1.out) (BodiesAt.mono HB.out HB1.out) HS.out).mono ?_
  rintro e w2 ⟨cv1, bv1, rfl, hc2, hB2, hb2⟩
  obtain ⟨ac1, cc1, rfl, hmc1⟩ := hc2.shape
  obtain ⟨ab1, cb1, rfl, hmb1⟩ := hB2.shape
  have HB2 : Hid (Below w1.heap.size w1 w2) := hb2
  have HC2 := (show Hid (IntsAt _ _ _) from hc2)
  have HD2 := (show Hid (BodiesAt _ _ _) from hB2)
  clear hb2 hc2 hB2
  go_wp2_with fail
  refine (sProgText_any p _ _ _ HC2.out HD2.out).mono ?_
  rintro e w3 ⟨rfl, hb3⟩
  have HB3 : Hid (Below w1.heap.size w1 w3) := HB2.out.trans (hb3.mono HB2.out.size)
  clear HC2 HD2 HB2 hb3
  have e30 : w3.cell? ⟨w.heap.size, 0, none⟩ = some (.slice ac p.cells.length cc) := by rw [HB3.out.cell (p := ⟨w.heap.size, 0, none⟩) hz1]; exact e10
  have e31 : w3.cell? ⟨w.heap.size, 1, none⟩ = some (.slice ab p.bodies.length cb) := by rw [HB3.out.cell (p := ⟨w.heap.size, 1, none⟩) hz1]; exact e11
  have hz3 : w.heap.size < w3.heap.size := Nat.lt_of_lt_of_le hz1 HB3.out.size
  have HW3 : Hid (Below w.heap.size w w3) := HB1.out.trans (HB3.out.mono HB1.out.size)
  clear e10 e11 HB1 HB3 hz1
  generalize hok : bs (txT p) = ok
  have HOK := (show Hid _ from hok)
  clear hok
  go_wp2_with fail
  refine (toProg_any p _ _ _ (IntsAt.mono HC.out HW3.out) (BodiesAt.mono HB.out HW3.out) HS.out).mono ?_
  rintro e w4 ⟨cv2, bv2, rfl, hc4, hB4, hb4⟩
  obtain ⟨ac2, cc2, rfl, hmc2⟩ := hc4.shape
  obtain ⟨ab2, cb2, rfl, hmb2⟩ := hB4.shape
  have HB4 : Hid (Below w3.heap.size w3 w4) := hb4
  have HC4 : Hid (∀ o, IntsAt (w4.alloc o) (.slice ac2 p.cells.length cc2) p.cells) := fun o => hc4.mono ((Below.refl _ _).alloc (Nat.le_refl _) _)
  have HD4 : Hid (∀ o, BodiesAt (w4.alloc o) (.slice ab2 p.bodies.length cb2) p.bodies) := fun o => hB4.mono ((Below.refl _ _).alloc (Nat.le_refl _) _)
  clear hb4 hc4 hB4
  have hz4 : w.heap.size < w4.heap.size := Nat.lt_of_lt_of_le hz3 HB4.out.size
  have e40 : w4.cell? ⟨w.heap.size, 0, none⟩ = some (.slice ac p.cells.length cc) := by rw [HB4.out.cell (p := ⟨w.heap.size, 0, none⟩) hz3]; exact e30
  have e41 : w4.cell? ⟨w.heap.size, 1, none⟩ = some (.slice ab p.bodies.length cb) := by rw [HB4.out.cell (p := ⟨w.heap.size, 1, none⟩) hz3]; exact e31
  have HW4 : Hid (Below w.heap.size w w4) := HW3.out.trans (HB4.out.mono HW3.out.size)
  clear e30 e31 hz3 HW3 HB4
  go_wp2_with fail
  refine (progText_any p _ _ _ (HC4.out _) (HD4.out _)).mono ?_
  rintro e w6 ⟨rfl, hb6⟩
  rw [HOK.out]
  have hz6 : w.heap.size < w6.heap.size := by have := hb6.size; simp at this; omega
  have e60 : w6.cell? ⟨w.heap.size, 0, none⟩ = some (.slice ac p.cells.length cc) := by rw [hb6.cell (p := ⟨w.heap.size, 0, none⟩) (by simp; omega), World.cell?_alloc_past _ _ _ hz4]; exact e40
  have e61 : w6.cell? ⟨w.heap.size, 1, none⟩ = some (.slice ab p.bodies.length cb) := by rw [hb6.cell (p := ⟨w.heap.size, 1, none⟩) (by simp; omega), World.cell?_alloc_past _ _ _ hz4]; exact e41
  have e62 : w6.cell? ⟨w4.heap.size, 0, none⟩ = some (.slice ac2 p.cells.length cc2) := by rw [hb6.cell (p := ⟨w4.heap.size, 0, none⟩) (by simp)]; simp [go_sem]
  have e63 : w6.cell? ⟨w4.heap.size, 1, none⟩ = some (.slice ab2 p.bodies.length cb2) := by rw [hb6.cell (p := ⟨w4.heap.size, 1, none⟩) (by simp)]; simp [go_sem]
  have hz64 : w4.heap.size < w6.heap.size := by have := hb6.size; simp at this; omega
  have HC6 : Hid (IntsAt w6 (.slice ac2 p.cells.length cc2) p.cells) := (HC4.out _).mono hb6
  have HD6 : Hid (BodiesAt w6 (.slice ab2 p.bodies.length cb2) p.bodies) := (HD4.out _).mono hb6
  have HW6 : Hid (Below w.heap.size w w6) := below_after HW4.out HW4.out.size hb6
  clear hb6 e40 e41 HC4 HD4 HW4
  go_wp2_with fail
  have HX : Hid (IntsAt w6.drew (.slice ac p.cells.length cc) p.cells ∧ BodiesAt w6.drew (.slice ab p.bodies.length cb) p.bodies) := ⟨IntsAt.mono HC.out HW6.out.drew, BodiesAt.mono HB.out HW6.out.drew⟩
  have HY : Hid (IntsAt w6.drew (.slice ac2 p.cells.length cc2) p.cells ∧ BodiesAt w6.drew (.slice ab2 p.bodies.length cb2) p.bodies) := ⟨IntsAt.mono HC6.out (Below.refl _ _).drew, BodiesAt.mono HD6.out (Below.refl _ _).drew⟩
  clear HC HB HC6 HD6 HOK
  go_region_with (first | (go_at_call 6; refine (toProg_any p _ _ _ HX.out.1 HX.out.2 HS.out).mono ?_; rintro e w7 ⟨cv3, bv3, rfl, hc7, hB7, hb7⟩; obtain ⟨ac3, cc3, rfl, hmc3⟩ := hc7.shape; obtain ⟨ab3, cb3, rfl, hmb3⟩ := hB7.shape; have e72 : w7.cell? ⟨w4.heap.size, 0, none⟩ = some (.slice ac2 p.cells.length cc2) := (hb7.cell (p := ⟨w4.heap.size, 0, none⟩) hz64).trans e62; have e73 : w7.cell? ⟨w4.heap.size, 1, none⟩ = some (.slice ab2 p.bodies.length cb2) := (hb7.cell (p := ⟨w4.heap.size, 1, none⟩) hz64).trans e63) | (go_at_call 8; refine (eqProg_same p _ _ _ _ _ (IntsAt.mono HY.out.1 hb7) (BodiesAt.mono HY.out.2 hb7) hc7 hB7).mono ?_; rintro e w8 ⟨rfl, hb8⟩))
  all_goals
    have HW8 : Hid (Below w.heap.size w w8) := (below_drewed HW6.out HW6.out.size hb7).trans (hb8.mono (Nat.le_trans HW6.out.size hb7.size))
    clear hb7 hb8 e72 e73 hc7 hB7
    go_wp2_with fail
    go_ret
    exact ⟨rfl, HW8.out⟩

end Go.Proofs.YtdpnenjbgcpefaaDoor
