/-
  The walk of FnExactTreeUnder (by mka1.py).
-/
import Derived.Test.YteebdfifbmpmhaaA6b
import Derived.Test.YteebdfifbmpmhaaN3
import Derived.Deep.RegionWith
namespace Go.Proofs.Yteebdfifbmpmhaa
open Go.RowKit
set_option linter.unusedSimpArgs false
set_option linter.unusedVariables false
set_option maxRecDepth 20000

theorem treeUnder_c (s : Sy) (task : Int) (up : Int) (cv tv lv : Value) (w : World) (h : SyAt w cv tv lv s) (hs : SmSy s) :
    Calls Try.prog 20 #[.agg #[cv, tv, .int .i64 s.clock, lv], .int .i64 task, .int .i64 up] w fun r w' => r = .returned (.bool (undB s task up)) ∧ Below w.heap.size w w' := by
  obtain ⟨a1, c1, rfl, _⟩ := h.1.shape
  obtain ⟨a2, c2, rfl, _⟩ := h.2.1.shape
  obtain ⟨a3, c3, rfl, _⟩ := h.2.2.shape
  exact treeUnder_any s _ _ _ _ _ _ task up w h.2.1
theorem sTreeUnder_c (s : Sy) (task : Int) (up : Int) (cv tv lv : Value) (w : World) (h : SyAt w cv tv lv s) (hs : SmSy s) :
    Calls Try.prog 18 #[.agg #[cv, tv, .int .i64 s.clock, lv], .int .i64 task, .int .i64 up] w fun r w' => r = .returned (.bool (undB s task up)) ∧ Below w.heap.size w w' := by
  obtain ⟨a1, c1, rfl, _⟩ := h.1.shape
  obtain ⟨a2, c2, rfl, _⟩ := h.2.1.shape
  obtain ⟨a3, c3, rfl, _⟩ := h.2.2.shape
  exact sTreeUnder_any s _ _ _ _ _ _ task up w h.2.1 hs.2.1.1
set_option maxHeartbeats 8000000 in
theorem exactTreeUnder_walk (s : Sy) (aSv0 aSv1 aSv3 : Value) (task : Int) (up : Int) (w : World) (hS : SyAt w aSv0 aSv1 aSv3 s) :
    Calls Try.prog 4 #[.agg #[aSv0, aSv1, .int .i64 s.clock, aSv3], .int .i64 task, .int .i64 up] w fun r w' => r = .returned (.bool true) ∧ Below w.heap.size w w' := by
  have HS := (show Hid (SyAt _ _ _ _ _) from hS)
  obtain ⟨aSa0, aSc0, rfl, _⟩ := (hS.1).shape
  obtain ⟨aSa1, aSc1, rfl, _⟩ := (hS.2.1).shape
  obtain ⟨aSa3, aSc3, rfl, _⟩ := (hS.2.2).shape
  clear hS
  go_enter Try.func4, Try.ntmps4
  go_wp2_with fail
  refine (szSys_th s _ _ _ 1048576 _ (by exact CesAt.mono (HS.out.1) (by repeat (first | with_reducible exact Below.refl _ _ | (with_reducible refine Below.setCell ?_ ?hs _; case hs => ((try simp); try omega)) | (with_reducible refine Below.alloc ?_ ?hs _; case hs => ((try simp); try omega)) | with_reducible refine Below.drew ?_ | with_reducible refine below_drewN ?_ _))) (by exact TasAt.mono (HS.out.2.1) (by repeat (first | with_reducible exact Below.refl _ _ | (with_reducible refine Below.setCell ?_ ?hs _; case hs => ((try simp); try omega)) | (with_reducible refine Below.alloc ?_ ?hs _; case hs => ((try simp); try omega)) | with_reducible refine Below.drew ?_ | with_reducible refine below_drewN ?_ _))) (by exact EnsAt.mono (HS.out.2.2) (by repeat (first | with_reducible exact Below.refl _ _ | (with_reducible refine Below.setCell ?_ ?hs _; case hs => ((try simp); try omega)) | (with_reducible refine Below.alloc ?_ ?hs _; case hs => ((try simp); try omega)) | with_reducible refine Below.drew ?_ | with_reducible refine below_drewN ?_ _))) (by omega) (by omega)).mono ?_
  rintro e w1 ⟨q1, rfl, l1, u1, s1, hb1⟩
  have eaS0_1 : w1.cell? ⟨w.heap.size, 0, none⟩ = some (.slice aSa0 s.cells.length aSc0) := by rw [hb1.cell (p := ⟨w.heap.size, 0, none⟩) (by (try simp); try omega)]; simp [go_sem]
  have eaS1_1 : w1.cell? ⟨w.heap.size, 1, none⟩ = some (.slice aSa1 s.tasks.length aSc1) := by rw [hb1.cell (p := ⟨w.heap.size, 1, none⟩) (by (try simp); try omega)]; simp [go_sem]
  have eaS2_1 : w1.cell? ⟨w.heap.size, 2, none⟩ = some (.int .i64 s.clock) := by rw [hb1.cell (p := ⟨w.heap.size, 2, none⟩) (by (try simp); try omega)]; simp [go_sem]
  have eaS3_1 : w1.cell? ⟨w.heap.size, 3, none⟩ = some (.slice aSa3 s.log.length aSc3) := by rw [hb1.cell (p := ⟨w.heap.size, 3, none⟩) (by (try simp); try omega)]; simp [go_sem]
  have zaS_1 : w.heap.size < w1.heap.size := by have := hb1.size; (try simp at this); omega
  have HB1 : Hid (Below w.heap.size w w1) := below_then (by repeat (first | with_reducible exact Below.refl _ _ | (with_reducible refine Below.setCell ?_ ?hs _; case hs => ((try simp); try omega)) | (with_reducible refine Below.alloc ?_ ?hs _; case hs => ((try simp); try omega)) | with_reducible refine Below.drew ?_ | with_reducible refine below_drewN ?_ _)) (by (try simp); try omega) hb1
  clear hb1
  by_cases g1 : q1 < 0
  · clear s1
    go_wp2_with fail
    go_ret
    exact ⟨rfl, HB1.out⟩
  have HSMS := (show Hid (SmSy _) from s1 (by omega))
  clear s1
  go_wp2_with fail
  refine (toSys_th' s _ _ _ _ (SyAt.mono HS.out HB1.out) HSMS.out).mono ?_
  rintro e w2 ⟨tSv0, tSv1, tSv3, rfl, ho, hb, hz⟩
  obtain ⟨tSa0, tSc0, rfl, _⟩ := (ho.1).shape
  obtain ⟨tSa1, tSc1, rfl, _⟩ := (ho.2.1).shape
  obtain ⟨tSa3, tSc3, rfl, _⟩ := (ho.2.2).shape
  have eaS0_2 : w2.cell? ⟨w.heap.size, 0, none⟩ = some (.slice aSa0 s.cells.length aSc0) := by rw [hb.cell (p := ⟨w.heap.size, 0, none⟩) (by (try simp); try omega)]; exact eaS0_1
  have eaS1_2 : w2.cell? ⟨w.heap.size, 1, none⟩ = some (.slice aSa1 s.tasks.length aSc1) := by rw [hb.cell (p := ⟨w.heap.size, 1, none⟩) (by (try simp); try omega)]; exact eaS1_1
  have eaS2_2 : w2.cell? ⟨w.heap.size, 2, none⟩ = some (.int .i64 s.clock) := by rw [hb.cell (p := ⟨w.heap.size, 2, none⟩) (by (try simp); try omega)]; exact eaS2_1
  have eaS3_2 : w2.cell? ⟨w.heap.size, 3, none⟩ = some (.slice aSa3 s.log.length aSc3) := by rw [hb.cell (p := ⟨w.heap.size, 3, none⟩) (by (try simp); try omega)]; exact eaS3_1
  have zaS_2 : w.heap.size < w2.heap.size := by have := hb.size; (try simp at this); omega
  have HB2 : Hid (Below w.heap.size w w2) := below_then HB1.out HB1.out.size hb
  have HT2 := (show Hid (SyAt w2 _ _ _ _) from ho.at)
  clear ho hb hz HB1
  clear eaS0_1 eaS1_1 eaS2_1 eaS3_1 zaS_1
  go_wp2_with fail
  refine (sTreeUnder_c s task up _ _ _ _ HT2.out HSMS.out).mono ?_
  rintro e w3 ⟨rfl, hb⟩
  have eaS0_3 : w3.cell? ⟨w.heap.size, 0, none⟩ = some (.slice aSa0 s.cells.length aSc0) := by rw [hb.cell (p := ⟨w.heap.size, 0, none⟩) (by (try simp); try omega)]; exact eaS0_2
  have eaS1_3 : w3.cell? ⟨w.heap.size, 1, none⟩ = some (.slice aSa1 s.tasks.length aSc1) := by rw [hb.cell (p := ⟨w.heap.size, 1, none⟩) (by (try simp); try omega)]; exact eaS1_2
  have eaS2_3 : w3.cell? ⟨w.heap.size, 2, none⟩ = some (.int .i64 s.clock) := by rw [hb.cell (p := ⟨w.heap.size, 2, none⟩) (by (try simp); try omega)]; exact eaS2_2
  have eaS3_3 : w3.cell? ⟨w.heap.size, 3, none⟩ = some (.slice aSa3 s.log.length aSc3) := by rw [hb.cell (p := ⟨w.heap.size, 3, none⟩) (by (try simp); try omega)]; exact eaS3_2
  have zaS_3 : w.heap.size < w3.heap.size := by have := hb.size; (try simp at this); omega
  have HB3 : Hid (Below w.heap.size w w3) := below_then HB2.out HB2.out.size hb
  clear hb HB2 HT2
  clear eaS0_2 eaS1_2 eaS2_2 eaS3_2 zaS_2
  go_wp2_with fail
  refine (toSys_th' s _ _ _ _ (SyAt.mono HS.out HB3.out) HSMS.out).mono ?_
  rintro e w4 ⟨xSv0, xSv1, xSv3, rfl, ho, hb, hz⟩
  obtain ⟨xSa0, xSc0, rfl, _⟩ := (ho.1).shape
  obtain ⟨xSa1, xSc1, rfl, _⟩ := (ho.2.1).shape
  obtain ⟨xSa3, xSc3, rfl, _⟩ := (ho.2.2).shape
  have eaS0_4 : w4.cell? ⟨w.heap.size, 0, none⟩ = some (.slice aSa0 s.cells.length aSc0) := by rw [hb.cell (p := ⟨w.heap.size, 0, none⟩) (by (try simp); try omega)]; exact eaS0_3
  have eaS1_4 : w4.cell? ⟨w.heap.size, 1, none⟩ = some (.slice aSa1 s.tasks.length aSc1) := by rw [hb.cell (p := ⟨w.heap.size, 1, none⟩) (by (try simp); try omega)]; exact eaS1_3
  have eaS2_4 : w4.cell? ⟨w.heap.size, 2, none⟩ = some (.int .i64 s.clock) := by rw [hb.cell (p := ⟨w.heap.size, 2, none⟩) (by (try simp); try omega)]; exact eaS2_3
  have eaS3_4 : w4.cell? ⟨w.heap.size, 3, none⟩ = some (.slice aSa3 s.log.length aSc3) := by rw [hb.cell (p := ⟨w.heap.size, 3, none⟩) (by (try simp); try omega)]; exact eaS3_3
  have zaS_4 : w.heap.size < w4.heap.size := by have := hb.size; (try simp at this); omega
  have HB4 : Hid (Below w.heap.size w w4) := below_then HB3.out HB3.out.size hb
  have HX4 := (show Hid (SyAt w4 _ _ _ _) from ho.at)
  clear ho hb hz HB3
  clear eaS0_3 eaS1_3 eaS2_3 eaS3_3 zaS_3
  go_wp2_with fail
  refine (treeUnder_c s task up _ _ _ _ (by exact SyAt.mono HX4.out (by repeat (first | with_reducible exact Below.refl _ _ | (with_reducible refine Below.setCell ?_ ?hs _; case hs => ((try simp); try omega)) | (with_reducible refine Below.alloc ?_ ?hs _; case hs => ((try simp); try omega)) | with_reducible refine Below.drew ?_ | with_reducible refine below_drewN ?_ _))) HSMS.out).mono ?_
  rintro e w5 ⟨rfl, hb⟩
  have hr : Below w4.heap.size w4 w5 := below_then (by repeat (first | with_reducible exact Below.refl _ _ | (with_reducible refine Below.setCell ?_ ?hs _; case hs => ((try simp); try omega)) | (with_reducible refine Below.alloc ?_ ?hs _; case hs => ((try simp); try omega)) | with_reducible refine Below.drew ?_ | with_reducible refine below_drewN ?_ _)) (by (try simp); try omega) hb
  have eaS0_5 : w5.cell? ⟨w.heap.size, 0, none⟩ = some (.slice aSa0 s.cells.length aSc0) := by rw [hr.cell (p := ⟨w.heap.size, 0, none⟩) (by (try simp); try omega)]; exact eaS0_4
  have eaS1_5 : w5.cell? ⟨w.heap.size, 1, none⟩ = some (.slice aSa1 s.tasks.length aSc1) := by rw [hr.cell (p := ⟨w.heap.size, 1, none⟩) (by (try simp); try omega)]; exact eaS1_4
  have eaS2_5 : w5.cell? ⟨w.heap.size, 2, none⟩ = some (.int .i64 s.clock) := by rw [hr.cell (p := ⟨w.heap.size, 2, none⟩) (by (try simp); try omega)]; exact eaS2_4
  have eaS3_5 : w5.cell? ⟨w.heap.size, 3, none⟩ = some (.slice aSa3 s.log.length aSc3) := by rw [hr.cell (p := ⟨w.heap.size, 3, none⟩) (by (try simp); try omega)]; exact eaS3_4
  have zaS_5 : w.heap.size < w5.heap.size := by have := hr.size; (try simp at this); omega
  have exS0_5 : w5.cell? ⟨w4.heap.size, 0, none⟩ = some (.slice xSa0 s.cells.length xSc0) := by rw [hb.cell (p := ⟨w4.heap.size, 0, none⟩) (by (try simp); try omega)]; simp [go_sem]
  have exS1_5 : w5.cell? ⟨w4.heap.size, 1, none⟩ = some (.slice xSa1 s.tasks.length xSc1) := by rw [hb.cell (p := ⟨w4.heap.size, 1, none⟩) (by (try simp); try omega)]; simp [go_sem]
  have exS2_5 : w5.cell? ⟨w4.heap.size, 2, none⟩ = some (.int .i64 s.clock) := by rw [hb.cell (p := ⟨w4.heap.size, 2, none⟩) (by (try simp); try omega)]; simp [go_sem]
  have exS3_5 : w5.cell? ⟨w4.heap.size, 3, none⟩ = some (.slice xSa3 s.log.length xSc3) := by rw [hb.cell (p := ⟨w4.heap.size, 3, none⟩) (by (try simp); try omega)]; simp [go_sem]
  have zxS_5 : w4.heap.size < w5.heap.size := by have := hb.size; (try simp at this); omega
  have HB5 : Hid (Below w.heap.size w w5) := below_then HB4.out HB4.out.size hr
  have HX5 := (show Hid (SyAt w5 _ _ _ _) from SyAt.mono HX4.out hr)
  clear hr hb HB4 HX4
  clear eaS0_4 eaS1_4 eaS2_4 eaS3_4 zaS_4
  have hbe : ((undB s task up) == (undB s task up)) = true := by simp
  have hbn : ((undB s task up) != (undB s task up)) = false := by simp
  go_wp2_with fail
  have HC := (show Hid (SyAt w5.drew (.slice aSa0 s.cells.length aSc0) (.slice aSa1 s.tasks.length aSc1) (.slice aSa3 s.log.length aSc3) s) from SyAt.mono HS.out HB5.out.drew)
  have HE := (show Hid (SyAt w5.drew (.slice xSa0 s.cells.length xSc0) (.slice xSa1 s.tasks.length xSc1) (.slice xSa3 s.log.length xSc3) s) from SyAt.mono HX5.out (Below.refl _ _).drew)
  go_region_with (first | (go_at_call 19; refine (toSys_th' s _ _ _ _ HC.out HSMS.out).mono ?_; rintro e w6 ⟨yv0, yv1, yv3, rfl, hoy, hby, hzy⟩; obtain ⟨ya0, yc0, rfl, _⟩ := (hoy.1).shape; obtain ⟨ya1, yc1, rfl, _⟩ := (hoy.2.1).shape; obtain ⟨ya3, yc3, rfl, _⟩ := (hoy.2.2).shape; have y0 : w6.cell? ⟨w4.heap.size, 0, none⟩ = some (.slice xSa0 s.cells.length xSc0) := (hby.cell (p := ⟨w4.heap.size, 0, none⟩) zxS_5).trans exS0_5; have y1 : w6.cell? ⟨w4.heap.size, 1, none⟩ = some (.slice xSa1 s.tasks.length xSc1) := (hby.cell (p := ⟨w4.heap.size, 1, none⟩) zxS_5).trans exS1_5; have y2 : w6.cell? ⟨w4.heap.size, 2, none⟩ = some (.int .i64 s.clock) := (hby.cell (p := ⟨w4.heap.size, 2, none⟩) zxS_5).trans exS2_5; have y3 : w6.cell? ⟨w4.heap.size, 3, none⟩ = some (.slice xSa3 s.log.length xSc3) := (hby.cell (p := ⟨w4.heap.size, 3, none⟩) zxS_5).trans exS3_5) | (go_at_call 12; refine (eqSys_same' s _ _ _ _ _ _ _ (SyAt.mono HE.out hby) hoy.at).mono ?_; rintro e w7 ⟨rfl, hbz⟩))
  all_goals
    have HB7 : Hid (Below w.heap.size w w7) := below_then HB5.out HB5.out.size (below_then (((Below.refl _ _).drew).trans hby) hby.size hbz)
    clear hby hbz hoy hzy y0 y1 y2 y3
    go_wp2_with fail
    go_ret
    exact ⟨rfl, HB7.out⟩

end Go.Proofs.Yteebdfifbmpmhaa
