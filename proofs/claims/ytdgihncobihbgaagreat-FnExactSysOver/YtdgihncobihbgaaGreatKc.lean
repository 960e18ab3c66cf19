/-
  The walk of FnExactSysOver (by mkk11.py).
-/
import Derived.Test.YtdgihncobihbgaaGreatJ7
import Derived.Test.YtdgihncobihbgaaGreatK8
namespace Go.Proofs.YtdgihncobihbgaaGreat
open Go.RowKit
set_option linter.unusedSimpArgs false
set_option linter.unusedVariables false
set_option maxRecDepth 20000

set_option maxHeartbeats 4000000 in
theorem exactSysOver_walk (p : Pr) (pv0 pv1 : Value) (s : Sy) (sv0 sv1 sv3 : Value) (w : World) (hP : PrAt w pv0 pv1 p) (hS : SyAt w sv0 sv1 sv3 s) :
    Calls Tryz.prog 5 #[.agg #[pv0, pv1], .agg #[sv0, sv1, .int .i64 s.clock, sv3]] w fun r w' => r = .returned (.bool true) ∧ Below w.heap.size w w' := by
  obtain ⟨aPa0, aPc0, rfl, _⟩ := (hP.1).shape
  obtain ⟨aPa1, aPc1, rfl, _⟩ := (hP.2).shape
  have HP := (show Hid (PrAt _ _ _ _) from hP)
  clear hP
  obtain ⟨aSa0, aSc0, rfl, _⟩ := (hS.1).shape
  obtain ⟨aSa1, aSc1, rfl, _⟩ := (hS.2.1).shape
  obtain ⟨aSa3, aSc3, rfl, _⟩ := (hS.2.2).shape
  have HS := (show Hid (SyAt _ _ _ _ _) from hS)
  clear hS
  have hbe : ((overB p s) == (overB p s)) = true := by simp
  go_enter Tryz.func5, Tryz.ntmps5
  go_wp2_with fail
  refine (szProg_th p _ _ 1048576 _ (by exact IntsAt.mono (HP.out.1) (by repeat (first | with_reducible exact Below.refl _ _ | (with_reducible refine Below.setCell ?_ ?hs _; case hs => ((try simp); try omega)) | (with_reducible refine Below.alloc ?_ ?hs _; case hs => ((try simp); try omega)) | with_reducible refine Below.drew ?_ | with_reducible refine below_drewN ?_ _))) (by exact BodiesAt.mono (HP.out.2) (by repeat (first | with_reducible exact Below.refl _ _ | (with_reducible refine Below.setCell ?_ ?hs _; case hs => ((try simp); try omega)) | (with_reducible refine Below.alloc ?_ ?hs _; case hs => ((try simp); try omega)) | with_reducible refine Below.drew ?_ | with_reducible refine below_drewN ?_ _))) (by omega) (by omega)).mono ?_
  rintro e w1 ⟨q1, rfl, l1, u1, s1, hb1⟩
  have eaP0_1 : w1.cell? ⟨w.heap.size, 0, none⟩ = some (.slice aPa0 p.cells.length aPc0) := by rw [hb1.cell (p := ⟨w.heap.size, 0, none⟩) (by (try simp); try omega)]; simp [go_sem]
  have eaP1_1 : w1.cell? ⟨w.heap.size, 1, none⟩ = some (.slice aPa1 p.bodies.length aPc1) := by rw [hb1.cell (p := ⟨w.heap.size, 1, none⟩) (by (try simp); try omega)]; simp [go_sem]
  have zaP_1 : w.heap.size < w1.heap.size := by have := hb1.size; (try simp at this); omega
  have eaS0_1 : w1.cell? ⟨w.heap.size + 1, 0, none⟩ = some (.slice aSa0 s.cells.length aSc0) := by rw [hb1.cell (p := ⟨w.heap.size + 1, 0, none⟩) (by (try simp); try omega)]; simp [go_sem]
  have eaS1_1 : w1.cell? ⟨w.heap.size + 1, 1, none⟩ = some (.slice aSa1 s.tasks.length aSc1) := by rw [hb1.cell (p := ⟨w.heap.size + 1, 1, none⟩) (by (try simp); try omega)]; simp [go_sem]
  have eaS2_1 : w1.cell? ⟨w.heap.size + 1, 2, none⟩ = some (.int .i64 s.clock) := by rw [hb1.cell (p := ⟨w.heap.size + 1, 2, none⟩) (by (try simp); try omega)]; simp [go_sem]
  have eaS3_1 : w1.cell? ⟨w.heap.size + 1, 3, none⟩ = some (.slice aSa3 s.log.length aSc3) := by rw [hb1.cell (p := ⟨w.heap.size + 1, 3, none⟩) (by (try simp); try omega)]; simp [go_sem]
  have zaS_1 : w.heap.size + 1 < w1.heap.size := by have := hb1.size; (try simp at this); omega
  have HB1 : Hid (Below w.heap.size w w1) := below_then (by repeat (first | with_reducible exact Below.refl _ _ | (with_reducible refine Below.setCell ?_ ?hs _; case hs => ((try simp); try omega)) | (with_reducible refine Below.alloc ?_ ?hs _; case hs => ((try simp); try omega)) | with_reducible refine Below.drew ?_ | with_reducible refine below_drewN ?_ _)) (by (try simp); try omega) hb1
  clear hb1
  by_cases g1 : q1 < 0
  · clear s1
    go_wp2_with fail
    go_ret
    exact ⟨rfl, HB1.out⟩
  have HSMP := (show Hid (SmallP _) from s1 (by omega))
  clear s1
  go_wp2_with fail
  refine (szSys_th s _ _ _ q1 _ (by exact CesAt.mono (HS.out.1) HB1.out) (by exact TasAt.mono (HS.out.2.1) HB1.out) (by exact EnsAt.mono (HS.out.2.2) HB1.out) (by omega) (by omega)).mono ?_
  rintro e w2 ⟨q2, rfl, l2, u2, s2, hb2⟩
  have eaP0_2 : w2.cell? ⟨w.heap.size, 0, none⟩ = some (.slice aPa0 p.cells.length aPc0) := by rw [hb2.cell (p := ⟨w.heap.size, 0, none⟩) (by (try simp); try omega)]; exact eaP0_1
  have eaP1_2 : w2.cell? ⟨w.heap.size, 1, none⟩ = some (.slice aPa1 p.bodies.length aPc1) := by rw [hb2.cell (p := ⟨w.heap.size, 1, none⟩) (by (try simp); try omega)]; exact eaP1_1
  have zaP_2 : w.heap.size < w2.heap.size := by have := hb2.size; (try simp at this); omega
  have eaS0_2 : w2.cell? ⟨w.heap.size + 1, 0, none⟩ = some (.slice aSa0 s.cells.length aSc0) := by rw [hb2.cell (p := ⟨w.heap.size + 1, 0, none⟩) (by (try simp); try omega)]; exact eaS0_1
  have eaS1_2 : w2.cell? ⟨w.heap.size + 1, 1, none⟩ = some (.slice aSa1 s.tasks.length aSc1) := by rw [hb2.cell (p := ⟨w.heap.size + 1, 1, none⟩) (by (try simp); try omega)]; exact eaS1_1
  have eaS2_2 : w2.cell? ⟨w.heap.size + 1, 2, none⟩ = some (.int .i64 s.clock) := by rw [hb2.cell (p := ⟨w.heap.size + 1, 2, none⟩) (by (try simp); try omega)]; exact eaS2_1
  have eaS3_2 : w2.cell? ⟨w.heap.size + 1, 3, none⟩ = some (.slice aSa3 s.log.length aSc3) := by rw [hb2.cell (p := ⟨w.heap.size + 1, 3, none⟩) (by (try simp); try omega)]; exact eaS3_1
  have zaS_2 : w.heap.size + 1 < w2.heap.size := by have := hb2.size; (try simp at this); omega
  have HB2 : Hid (Below w.heap.size w w2) := below_then HB1.out HB1.out.size hb2
  clear hb2
  clear eaP0_1 eaP1_1 eaS0_1 eaS1_1 eaS2_1 eaS3_1 zaP_1 zaS_1
  clear HB1 
  by_cases g2 : q2 < 0
  · clear s2
    go_wp2_with fail
    go_ret
    exact ⟨rfl, HB2.out⟩
  have HSMS := (show Hid (SmSy _) from s2 (by omega))
  clear s2
  go_wp2_with fail
  have HCP := (show Hid (PrAt w2.drew (.slice aPa0 p.cells.length aPc0) (.slice aPa1 p.bodies.length aPc1) p) from PrAt.mono HP.out HB2.out.drew)
  have HCS := (show Hid (SyAt w2.drew (.slice aSa0 s.cells.length aSc0) (.slice aSa1 s.tasks.length aSc1) (.slice aSa3 s.log.length aSc3) s) from SyAt.mono HS.out HB2.out.drew)
  go_region_with (first | (go_at_call 9; refine (toProg_th' p _ _ _ HCP.out HSMP.out).mono ?_; rintro e w3 ⟨tPv0, tPv1, rfl, ho1, hb1, hz1⟩; obtain ⟨tPa0, tPc0, rfl, _⟩ := (ho1.1).shape; obtain ⟨tPa1, tPc1, rfl, _⟩ := (ho1.2).shape; have y0 : w3.cell? ⟨w.heap.size + 1, 0, none⟩ = some (.slice aSa0 s.cells.length aSc0) := (hb1.cell (p := ⟨w.heap.size + 1, 0, none⟩) zaS_2).trans eaS0_2; have y1 : w3.cell? ⟨w.heap.size + 1, 1, none⟩ = some (.slice aSa1 s.tasks.length aSc1) := (hb1.cell (p := ⟨w.heap.size + 1, 1, none⟩) zaS_2).trans eaS1_2; have y2 : w3.cell? ⟨w.heap.size + 1, 2, none⟩ = some (.int .i64 s.clock) := (hb1.cell (p := ⟨w.heap.size + 1, 2, none⟩) zaS_2).trans eaS2_2; have y3 : w3.cell? ⟨w.heap.size + 1, 3, none⟩ = some (.slice aSa3 s.log.length aSc3) := (hb1.cell (p := ⟨w.heap.size + 1, 3, none⟩) zaS_2).trans eaS3_2) | (go_at_call 10; refine (toSys_th' s _ _ _ _ (SyAt.mono HCS.out hb1) HSMS.out).mono ?_; rintro e w4 ⟨tSv0, tSv1, tSv3, rfl, ho2, hb2, hz2⟩; obtain ⟨tSa0, tSc0, rfl, _⟩ := (ho2.1).shape; obtain ⟨tSa1, tSc1, rfl, _⟩ := (ho2.2.1).shape; obtain ⟨tSa3, tSc3, rfl, _⟩ := (ho2.2.2).shape) | (go_at_call 21; refine (sSysOver_any p _ _ _ _ s _ _ _ _ _ _ _ (PrAt.mono ho1.at hb2) ho2.at HSMS.out HSMP.out).mono ?_; rintro e w5 ⟨rfl, hb3⟩))
  all_goals
    have hb : Below w2.heap.size w2 w5 := below_then (below_then (((Below.refl _ _).drew).trans hb1) hb1.size hb2) (Nat.le_trans hb1.size hb2.size) hb3
    have eaP0_5 : w5.cell? ⟨w.heap.size, 0, none⟩ = some (.slice aPa0 p.cells.length aPc0) := by rw [hb.cell (p := ⟨w.heap.size, 0, none⟩) (by (try simp); try omega)]; exact eaP0_2
    have eaP1_5 : w5.cell? ⟨w.heap.size, 1, none⟩ = some (.slice aPa1 p.bodies.length aPc1) := by rw [hb.cell (p := ⟨w.heap.size, 1, none⟩) (by (try simp); try omega)]; exact eaP1_2
    have zaP_5 : w.heap.size < w5.heap.size := by have := hb.size; (try simp at this); omega
    have eaS0_5 : w5.cell? ⟨w.heap.size + 1, 0, none⟩ = some (.slice aSa0 s.cells.length aSc0) := by rw [hb.cell (p := ⟨w.heap.size + 1, 0, none⟩) (by (try simp); try omega)]; exact eaS0_2
    have eaS1_5 : w5.cell? ⟨w.heap.size + 1, 1, none⟩ = some (.slice aSa1 s.tasks.length aSc1) := by rw [hb.cell (p := ⟨w.heap.size + 1, 1, none⟩) (by (try simp); try omega)]; exact eaS1_2
    have eaS2_5 : w5.cell? ⟨w.heap.size + 1, 2, none⟩ = some (.int .i64 s.clock) := by rw [hb.cell (p := ⟨w.heap.size + 1, 2, none⟩) (by (try simp); try omega)]; exact eaS2_2
    have eaS3_5 : w5.cell? ⟨w.heap.size + 1, 3, none⟩ = some (.slice aSa3 s.log.length aSc3) := by rw [hb.cell (p := ⟨w.heap.size + 1, 3, none⟩) (by (try simp); try omega)]; exact eaS3_2
    have zaS_5 : w.heap.size + 1 < w5.heap.size := by have := hb.size; (try simp at this); omega
    have HB5 : Hid (Below w.heap.size w w5) := below_then HB2.out HB2.out.size hb
    clear hb hb1 hb2 hb3 ho1 ho2 hz1 hz2 HCP HCS y0 y1 y2 y3
    clear eaP0_2 eaP1_2 eaS0_2 eaS1_2 eaS2_2 eaS3_2 zaP_2 zaS_2
    clear HB2 
    go_wp2_with fail
    refine (toProg_th' p _ _ _ (PrAt.mono HP.out HB5.out) HSMP.out).mono ?_
    rintro e w6 ⟨xPv0, xPv1, rfl, ho, hb, hz⟩
    obtain ⟨xPa0, xPc0, rfl, _⟩ := (ho.1).shape
    obtain ⟨xPa1, xPc1, rfl, _⟩ := (ho.2).shape
    have eaP0_6 : w6.cell? ⟨w.heap.size, 0, none⟩ = some (.slice aPa0 p.cells.length aPc0) := by rw [hb.cell (p := ⟨w.heap.size, 0, none⟩) (by (try simp); try omega)]; exact eaP0_5
    have eaP1_6 : w6.cell? ⟨w.heap.size, 1, none⟩ = some (.slice aPa1 p.bodies.length aPc1) := by rw [hb.cell (p := ⟨w.heap.size, 1, none⟩) (by (try simp); try omega)]; exact eaP1_5
    have zaP_6 : w.heap.size < w6.heap.size := by have := hb.size; (try simp at this); omega
    have eaS0_6 : w6.cell? ⟨w.heap.size + 1, 0, none⟩ = some (.slice aSa0 s.cells.length aSc0) := by rw [hb.cell (p := ⟨w.heap.size + 1, 0, none⟩) (by (try simp); try omega)]; exact eaS0_5
    have eaS1_6 : w6.cell? ⟨w.heap.size + 1, 1, none⟩ = some (.slice aSa1 s.tasks.length aSc1) := by rw [hb.cell (p := ⟨w.heap.size + 1, 1, none⟩) (by (try simp); try omega)]; exact eaS1_5
    have eaS2_6 : w6.cell? ⟨w.heap.size + 1, 2, none⟩ = some (.int .i64 s.clock) := by rw [hb.cell (p := ⟨w.heap.size + 1, 2, none⟩) (by (try simp); try omega)]; exact eaS2_5
    have eaS3_6 : w6.cell? ⟨w.heap.size + 1, 3, none⟩ = some (.slice aSa3 s.log.length aSc3) := by rw [hb.cell (p := ⟨w.heap.size + 1, 3, none⟩) (by (try simp); try omega)]; exact eaS3_5
    have zaS_6 : w.heap.size + 1 < w6.heap.size := by have := hb.size; (try simp at this); omega
    have HB6 : Hid (Below w.heap.size w w6) := below_then HB5.out HB5.out.size hb
    have HXP6 := (show Hid (PrAt w6 _ _ _) from ho.at)
    clear ho hz hb
    clear eaP0_5 eaP1_5 eaS0_5 eaS1_5 eaS2_5 eaS3_5 zaP_5 zaS_5
    clear HB5 
    go_wp2_with fail
    refine (toSys_th' s _ _ _ _ (by exact SyAt.mono HS.out (by repeat (first | with_reducible exact HB6.out | (with_reducible refine Below.setCell ?_ ?hs _; case hs => ((try simp); try omega)) | (with_reducible refine Below.alloc ?_ ?hs _; case hs => ((try simp); try omega)) | with_reducible refine Below.drew ?_ | with_reducible refine below_drewN ?_ _))) HSMS.out).mono ?_
    rintro e w7 ⟨xSv0, xSv1, xSv3, rfl, ho, hb, hz⟩
    obtain ⟨xSa0, xSc0, rfl, _⟩ := (ho.1).shape
    obtain ⟨xSa1, xSc1, rfl, _⟩ := (ho.2.1).shape
    obtain ⟨xSa3, xSc3, rfl, _⟩ := (ho.2.2).shape
    have hr : Below w6.heap.size w6 w7 := below_then (by repeat (first | with_reducible exact Below.refl _ _ | (with_reducible refine Below.setCell ?_ ?hs _; case hs => ((try simp); try omega)) | (with_reducible refine Below.alloc ?_ ?hs _; case hs => ((try simp); try omega)) | with_reducible refine Below.drew ?_ | with_reducible refine below_drewN ?_ _)) (by (try simp); try omega) hb
    have eaP0_7 : w7.cell? ⟨w.heap.size, 0, none⟩ = some (.slice aPa0 p.cells.length aPc0) := by rw [hr.cell (p := ⟨w.heap.size, 0, none⟩) (by (try simp); try omega)]; exact eaP0_6
    have eaP1_7 : w7.cell? ⟨w.heap.size, 1, none⟩ = some (.slice aPa1 p.bodies.length aPc1) := by rw [hr.cell (p := ⟨w.heap.size, 1, none⟩) (by (try simp); try omega)]; exact eaP1_6
    have zaP_7 : w.heap.size < w7.heap.size := by have := hr.size; (try simp at this); omega
    have eaS0_7 : w7.cell? ⟨w.heap.size + 1, 0, none⟩ = some (.slice aSa0 s.cells.length aSc0) := by rw [hr.cell (p := ⟨w.heap.size + 1, 0, none⟩) (by (try simp); try omega)]; exact eaS0_6
    have eaS1_7 : w7.cell? ⟨w.heap.size + 1, 1, none⟩ = some (.slice aSa1 s.tasks.length aSc1) := by rw [hr.cell (p := ⟨w.heap.size + 1, 1, none⟩) (by (try simp); try omega)]; exact eaS1_6
    have eaS2_7 : w7.cell? ⟨w.heap.size + 1, 2, none⟩ = some (.int .i64 s.clock) := by rw [hr.cell (p := ⟨w.heap.size + 1, 2, none⟩) (by (try simp); try omega)]; exact eaS2_6
    have eaS3_7 : w7.cell? ⟨w.heap.size + 1, 3, none⟩ = some (.slice aSa3 s.log.length aSc3) := by rw [hr.cell (p := ⟨w.heap.size + 1, 3, none⟩) (by (try simp); try omega)]; exact eaS3_6
    have zaS_7 : w.heap.size + 1 < w7.heap.size := by have := hr.size; (try simp at this); omega
    have exP0_7 : w7.cell? ⟨w6.heap.size, 0, none⟩ = some (.slice xPa0 p.cells.length xPc0) := by rw [hb.cell (p := ⟨w6.heap.size, 0, none⟩) (by (try simp); try omega)]; simp [go_sem]
    have exP1_7 : w7.cell? ⟨w6.heap.size, 1, none⟩ = some (.slice xPa1 p.bodies.length xPc1) := by rw [hb.cell (p := ⟨w6.heap.size, 1, none⟩) (by (try simp); try omega)]; simp [go_sem]
    have zxP_7 : w6.heap.size < w7.heap.size := by have := hb.size; (try simp at this); omega
    have HB7 : Hid (Below w.heap.size w w7) := below_then HB6.out HB6.out.size hr
    have HXP7 := (show Hid (PrAt w7 _ _ _) from PrAt.mono HXP6.out hr)
    have HXS7 := (show Hid (SyAt w7 _ _ _ _) from ho.at)
    clear ho hz hb hr
    clear eaP0_6 eaP1_6 eaS0_6 eaS1_6 eaS2_6 eaS3_6 zaP_6 zaS_6
    clear HB6 HXP6
    go_wp2_with fail
    refine (sysOver_any p _ _ _ _ s _ _ _ _ _ _ _ (by exact PrAt.mono HXP7.out (by repeat (first | with_reducible exact Below.refl _ _ | (with_reducible refine Below.setCell ?_ ?hs _; case hs => ((try simp); try omega)) | (with_reducible refine Below.alloc ?_ ?hs _; case hs => ((try simp); try omega)) | with_reducible refine Below.drew ?_ | with_reducible refine below_drewN ?_ _))) (by exact SyAt.mono HXS7.out (by repeat (first | with_reducible exact Below.refl _ _ | (with_reducible refine Below.setCell ?_ ?hs _; case hs => ((try simp); try omega)) | (with_reducible refine Below.alloc ?_ ?hs _; case hs => ((try simp); try omega)) | with_reducible refine Below.drew ?_ | with_reducible refine below_drewN ?_ _))) HSMS.out HSMP.out).mono ?_
    rintro e w8 ⟨rfl, hb⟩
    have hr : Below w7.heap.size w7 w8 := below_then (by repeat (first | with_reducible exact Below.refl _ _ | (with_reducible refine Below.setCell ?_ ?hs _; case hs => ((try simp); try omega)) | (with_reducible refine Below.alloc ?_ ?hs _; case hs => ((try simp); try omega)) | with_reducible refine Below.drew ?_ | with_reducible refine below_drewN ?_ _)) (by (try simp); try omega) hb
    have eaP0_8 : w8.cell? ⟨w.heap.size, 0, none⟩ = some (.slice aPa0 p.cells.length aPc0) := by rw [hr.cell (p := ⟨w.heap.size, 0, none⟩) (by (try simp); try omega)]; exact eaP0_7
    have eaP1_8 : w8.cell? ⟨w.heap.size, 1, none⟩ = some (.slice aPa1 p.bodies.length aPc1) := by rw [hr.cell (p := ⟨w.heap.size, 1, none⟩) (by (try simp); try omega)]; exact eaP1_7
    have zaP_8 : w.heap.size < w8.heap.size := by have := hr.size; (try simp at this); omega
    have eaS0_8 : w8.cell? ⟨w.heap.size + 1, 0, none⟩ = some (.slice aSa0 s.cells.length aSc0) := by rw [hr.cell (p := ⟨w.heap.size + 1, 0, none⟩) (by (try simp); try omega)]; exact eaS0_7
    have eaS1_8 : w8.cell? ⟨w.heap.size + 1, 1, none⟩ = some (.slice aSa1 s.tasks.length aSc1) := by rw [hr.cell (p := ⟨w.heap.size + 1, 1, none⟩) (by (try simp); try omega)]; exact eaS1_7
    have eaS2_8 : w8.cell? ⟨w.heap.size + 1, 2, none⟩ = some (.int .i64 s.clock) := by rw [hr.cell (p := ⟨w.heap.size + 1, 2, none⟩) (by (try simp); try omega)]; exact eaS2_7
    have eaS3_8 : w8.cell? ⟨w.heap.size + 1, 3, none⟩ = some (.slice aSa3 s.log.length aSc3) := by rw [hr.cell (p := ⟨w.heap.size + 1, 3, none⟩) (by (try simp); try omega)]; exact eaS3_7
    have zaS_8 : w.heap.size + 1 < w8.heap.size := by have := hr.size; (try simp at this); omega
    have exP0_8 : w8.cell? ⟨w6.heap.size, 0, none⟩ = some (.slice xPa0 p.cells.length xPc0) := by rw [hr.cell (p := ⟨w6.heap.size, 0, none⟩) (by (try simp); try omega)]; exact exP0_7
    have exP1_8 : w8.cell? ⟨w6.heap.size, 1, none⟩ = some (.slice xPa1 p.bodies.length xPc1) := by rw [hr.cell (p := ⟨w6.heap.size, 1, none⟩) (by (try simp); try omega)]; exact exP1_7
    have zxP_8 : w6.heap.size < w8.heap.size := by have := hr.size; (try simp at this); omega
    have exS0_8 : w8.cell? ⟨w7.heap.size, 0, none⟩ = some (.slice xSa0 s.cells.length xSc0) := by rw [hb.cell (p := ⟨w7.heap.size, 0, none⟩) (by (try simp); try omega)]; simp [go_sem]
    have exS1_8 : w8.cell? ⟨w7.heap.size, 1, none⟩ = some (.slice xSa1 s.tasks.length xSc1) := by rw [hb.cell (p := ⟨w7.heap.size, 1, none⟩) (by (try simp); try omega)]; simp [go_sem]
    have exS2_8 : w8.cell? ⟨w7.heap.size, 2, none⟩ = some (.int .i64 s.clock) := by rw [hb.cell (p := ⟨w7.heap.size, 2, none⟩) (by (try simp); try omega)]; simp [go_sem]
    have exS3_8 : w8.cell? ⟨w7.heap.size, 3, none⟩ = some (.slice xSa3 s.log.length xSc3) := by rw [hb.cell (p := ⟨w7.heap.size, 3, none⟩) (by (try simp); try omega)]; simp [go_sem]
    have zxS_8 : w7.heap.size < w8.heap.size := by have := hb.size; (try simp at this); omega
    have HB8 : Hid (Below w.heap.size w w8) := below_then HB7.out HB7.out.size hr
    have HXP8 := (show Hid (PrAt w8 _ _ _) from PrAt.mono HXP7.out hr)
    have HXS8 := (show Hid (SyAt w8 _ _ _ _) from SyAt.mono HXS7.out hr)
    clear hb hr
    clear eaP0_7 eaP1_7 eaS0_7 eaS1_7 eaS2_7 eaS3_7 exP0_7 exP1_7 zaP_7 zaS_7 zxP_7
    clear HB7 HXP7 HXS7
    go_wp2_with fail
    have HCP := (show Hid (PrAt w8.drew (.slice aPa0 p.cells.length aPc0) (.slice aPa1 p.bodies.length aPc1) p) from PrAt.mono HP.out HB8.out.drew)
    have HEP := (show Hid (PrAt w8.drew (.slice xPa0 p.cells.length xPc0) (.slice xPa1 p.bodies.length xPc1) p) from PrAt.mono HXP8.out (Below.refl _ _).drew)
    go_region_with (first | (go_at_call 9; refine (toProg_th' p _ _ _ HCP.out HSMP.out).mono ?_; rintro e w9 ⟨yv0, yv1, rfl, hoy, hby, hzy⟩; obtain ⟨ya0, yc0, rfl, _⟩ := (hoy.1).shape; obtain ⟨ya1, yc1, rfl, _⟩ := (hoy.2).shape; have y0 : w9.cell? ⟨w6.heap.size, 0, none⟩ = some (.slice xPa0 p.cells.length xPc0) := (hby.cell (p := ⟨w6.heap.size, 0, none⟩) zxP_8).trans exP0_8; have y1 : w9.cell? ⟨w6.heap.size, 1, none⟩ = some (.slice xPa1 p.bodies.length xPc1) := (hby.cell (p := ⟨w6.heap.size, 1, none⟩) zxP_8).trans exP1_8) | (go_at_call 12; refine (eqProg_same' p _ _ _ _ _ (PrAt.mono HEP.out hby) hoy.at).mono ?_; rintro e w10 ⟨rfl, hbz⟩))
    all_goals
      have hq : Below w8.heap.size w8 w10 := below_then (((Below.refl _ _).drew).trans hby) hby.size hbz
      have eaP0_10 : w10.cell? ⟨w.heap.size, 0, none⟩ = some (.slice aPa0 p.cells.length aPc0) := by rw [hq.cell (p := ⟨w.heap.size, 0, none⟩) (by (try simp); try omega)]; exact eaP0_8
      have eaP1_10 : w10.cell? ⟨w.heap.size, 1, none⟩ = some (.slice aPa1 p.bodies.length aPc1) := by rw [hq.cell (p := ⟨w.heap.size, 1, none⟩) (by (try simp); try omega)]; exact eaP1_8
      have zaP_10 : w.heap.size < w10.heap.size := by have := hq.size; (try simp at this); omega
      have eaS0_10 : w10.cell? ⟨w.heap.size + 1, 0, none⟩ = some (.slice aSa0 s.cells.length aSc0) := by rw [hq.cell (p := ⟨w.heap.size + 1, 0, none⟩) (by (try simp); try omega)]; exact eaS0_8
      have eaS1_10 : w10.cell? ⟨w.heap.size + 1, 1, none⟩ = some (.slice aSa1 s.tasks.length aSc1) := by rw [hq.cell (p := ⟨w.heap.size + 1, 1, none⟩) (by (try simp); try omega)]; exact eaS1_8
      have eaS2_10 : w10.cell? ⟨w.heap.size + 1, 2, none⟩ = some (.int .i64 s.clock) := by rw [hq.cell (p := ⟨w.heap.size + 1, 2, none⟩) (by (try simp); try omega)]; exact eaS2_8
      have eaS3_10 : w10.cell? ⟨w.heap.size + 1, 3, none⟩ = some (.slice aSa3 s.log.length aSc3) := by rw [hq.cell (p := ⟨w.heap.size + 1, 3, none⟩) (by (try simp); try omega)]; exact eaS3_8
      have zaS_10 : w.heap.size + 1 < w10.heap.size := by have := hq.size; (try simp at this); omega
      have exP0_10 : w10.cell? ⟨w6.heap.size, 0, none⟩ = some (.slice xPa0 p.cells.length xPc0) := by rw [hq.cell (p := ⟨w6.heap.size, 0, none⟩) (by (try simp); try omega)]; exact exP0_8
      have exP1_10 : w10.cell? ⟨w6.heap.size, 1, none⟩ = some (.slice xPa1 p.bodies.length xPc1) := by rw [hq.cell (p := ⟨w6.heap.size, 1, none⟩) (by (try simp); try omega)]; exact exP1_8
      have zxP_10 : w6.heap.size < w10.heap.size := by have := hq.size; (try simp at this); omega
      have exS0_10 : w10.cell? ⟨w7.heap.size, 0, none⟩ = some (.slice xSa0 s.cells.length xSc0) := by rw [hq.cell (p := ⟨w7.heap.size, 0, none⟩) (by (try simp); try omega)]; exact exS0_8
      have exS1_10 : w10.cell? ⟨w7.heap.size, 1, none⟩ = some (.slice xSa1 s.tasks.length xSc1) := by rw [hq.cell (p := ⟨w7.heap.size, 1, none⟩) (by (try simp); try omega)]; exact exS1_8
      have exS2_10 : w10.cell? ⟨w7.heap.size, 2, none⟩ = some (.int .i64 s.clock) := by rw [hq.cell (p := ⟨w7.heap.size, 2, none⟩) (by (try simp); try omega)]; exact exS2_8
      have exS3_10 : w10.cell? ⟨w7.heap.size, 3, none⟩ = some (.slice xSa3 s.log.length xSc3) := by rw [hq.cell (p := ⟨w7.heap.size, 3, none⟩) (by (try simp); try omega)]; exact exS3_8
      have zxS_10 : w7.heap.size < w10.heap.size := by have := hq.size; (try simp at this); omega
      have HB10 : Hid (Below w.heap.size w w10) := below_then HB8.out HB8.out.size hq
      have HXP10 := (show Hid (PrAt w10 _ _ _) from PrAt.mono HXP8.out hq)
      have HXS10 := (show Hid (SyAt w10 _ _ _ _) from SyAt.mono HXS8.out hq)
      clear hby hbz hq hoy hzy y0 y1 HCP HEP
      clear eaP0_8 eaP1_8 eaS0_8 eaS1_8 eaS2_8 eaS3_8 exP0_8 exP1_8 exS0_8 exS1_8 exS2_8 exS3_8 zaP_8 zaS_8 zxP_8 zxS_8
      clear HB8 HXP8 HXS8
      go_wp2_with fail
      have HCS := (show Hid (SyAt w10.drew (.slice aSa0 s.cells.length aSc0) (.slice aSa1 s.tasks.length aSc1) (.slice aSa3 s.log.length aSc3) s) from SyAt.mono HS.out HB10.out.drew)
      have HES := (show Hid (SyAt w10.drew (.slice xSa0 s.cells.length xSc0) (.slice xSa1 s.tasks.length xSc1) (.slice xSa3 s.log.length xSc3) s) from SyAt.mono HXS10.out (Below.refl _ _).drew)
      go_region_with (first | (go_at_call 10; refine (toSys_th' s _ _ _ _ HCS.out HSMS.out).mono ?_; rintro e w11 ⟨yv0, yv1, yv3, rfl, hoy, hby, hzy⟩; obtain ⟨ya0, yc0, rfl, _⟩ := (hoy.1).shape; obtain ⟨ya1, yc1, rfl, _⟩ := (hoy.2.1).shape; obtain ⟨ya3, yc3, rfl, _⟩ := (hoy.2.2).shape; have y0 : w11.cell? ⟨w7.heap.size, 0, none⟩ = some (.slice xSa0 s.cells.length xSc0) := (hby.cell (p := ⟨w7.heap.size, 0, none⟩) zxS_10).trans exS0_10; have y1 : w11.cell? ⟨w7.heap.size, 1, none⟩ = some (.slice xSa1 s.tasks.length xSc1) := (hby.cell (p := ⟨w7.heap.size, 1, none⟩) zxS_10).trans exS1_10; have y2 : w11.cell? ⟨w7.heap.size, 2, none⟩ = some (.int .i64 s.clock) := (hby.cell (p := ⟨w7.heap.size, 2, none⟩) zxS_10).trans exS2_10; have y3 : w11.cell? ⟨w7.heap.size, 3, none⟩ = some (.slice xSa3 s.log.length xSc3) := (hby.cell (p := ⟨w7.heap.size, 3, none⟩) zxS_10).trans exS3_10) | (go_at_call 13; refine (eqSys_same' s _ _ _ _ _ _ _ (SyAt.mono HES.out hby) hoy.at).mono ?_; rintro e w12 ⟨rfl, hbz⟩))
      all_goals
        have hq : Below w10.heap.size w10 w12 := below_then (((Below.refl _ _).drew).trans hby) hby.size hbz
        have HBL : Hid (Below w.heap.size w w12) := below_then HB10.out HB10.out.size hq
        clear hby hbz hq hoy hzy y0 y1 y2 y3 HCS HES
        clear eaP0_10 eaP1_10 eaS0_10 eaS1_10 eaS2_10 eaS3_10 exP0_10 exP1_10 exS0_10 exS1_10 exS2_10 exS3_10 zaP_10 zaS_10 zxP_10 zxS_10
        clear HB10 HXP10 HXS10
        go_wp2_with fail
        go_ret
        exact ⟨rfl, HBL.out⟩


end Go.Proofs.YtdgihncobihbgaaGreat
