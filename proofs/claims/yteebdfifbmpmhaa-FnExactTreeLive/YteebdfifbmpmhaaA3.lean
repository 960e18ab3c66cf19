/-
  The walk of FnExactTreeLive (by mky.py).
-/
import Derived.Test.YteebdfifbmpmhaaA2
import Derived.Deep.RegionWith
namespace Go.Proofs.Yteebdfifbmpmhaa
open Go.RowKit
set_option linter.unusedSimpArgs false
set_option linter.unusedVariables false
set_option maxRecDepth 20000
theorem treeLive_c (s : Sy) (cv tv lv : Value) (w : World) (h : SyAt w cv tv lv s) (hs : SmSy s) :
    Calls Try.prog 22 #[.agg #[cv, tv, .int .i64 s.clock, lv]] w fun r w' => ∃ v, r = .returned v ∧ OwnInt w.heap.size w' v (liveL s) ∧ Below w.heap.size w w' := by
  obtain ⟨a1, c1, rfl, _⟩ := h.1.shape
  obtain ⟨a2, c2, rfl, _⟩ := h.2.1.shape
  obtain ⟨a3, c3, rfl, _⟩ := h.2.2.shape
  exact treeLive_any s _ _ _ _ _ _ w h.2.1 hs.2.1.1
theorem sTreeLive_c (s : Sy) (cv tv lv : Value) (w : World) (h : SyAt w cv tv lv s) (hs : SmSy s) :
    Calls Try.prog 21 #[.agg #[cv, tv, .int .i64 s.clock, lv]] w fun r w' => ∃ v, r = .returned v ∧ OwnInt w.heap.size w' v (liveL s) ∧ Below w.heap.size w w' := by
  obtain ⟨a1, c1, rfl, _⟩ := h.1.shape
  obtain ⟨a2, c2, rfl, _⟩ := h.2.1.shape
  obtain ⟨a3, c3, rfl, _⟩ := h.2.2.shape
  exact sTreeLive_any s _ _ _ _ _ _ w h.2.1 hs.2.1.1
set_option maxHeartbeats 8000000 in
theorem exactTreeLive_walk (s : Sy) (aSv0 aSv1 aSv3 : Value) (w : World) (hS : SyAt w aSv0 aSv1 aSv3 s) :
    Calls Try.prog 5 #[.agg #[aSv0, aSv1, .int .i64 s.clock, aSv3]] w fun r w' => r = .returned (.bool true) ∧ Below w.heap.size w w' := by
  have HS := (show Hid (SyAt _ _ _ _ _) from hS)
  obtain ⟨aSa0, aSc0, rfl, _⟩ := (hS.1).shape
  obtain ⟨aSa1, aSc1, rfl, _⟩ := (hS.2.1).shape
  obtain ⟨aSa3, aSc3, rfl, _⟩ := (hS.2.2).shape
  clear hS
  go_enter Try.func5, Try.ntmps5
  go_wp2_with fail
  refine (szSys_th s _ _ _ 1048576 _ (by exact CesAt.mono (HS.out.1) (by repeat (first | with_reducible exact Below.refl _ _ | (with_reducible refine Below.setCell ?_ ?hs _; case hs => ((try simp); try omega)) | (with_reducible refine Below.alloc ?_ ?hs _; case hs => ((try simp); try omega)) | with_reducible refine Below.drew ?_))) (by exact TasAt.mono (HS.out.2.1) (by repeat (first | with_reducible exact Below.refl _ _ | (with_reducible refine Below.setCell ?_ ?hs _; case hs => ((try simp); try omega)) | (with_reducible refine Below.alloc ?_ ?hs _; case hs => ((try simp); try omega)) | with_reducible refine Below.drew ?_))) (by exact EnsAt.mono (HS.out.2.2) (by repeat (first | with_reducible exact Below.refl _ _ | (with_reducible refine Below.setCell ?_ ?hs _; case hs => ((try simp); try omega)) | (with_reducible refine Below.alloc ?_ ?hs _; case hs => ((try simp); try omega)) | with_reducible refine Below.drew ?_))) (by omega) (by omega)).mono ?_
  rintro e w1 ⟨q1, rfl, l1, u1, s1, hb1⟩
  have eaS0_1 : w1.cell? ⟨w.heap.size, 0, none⟩ = some (.slice aSa0 s.cells.length aSc0) := by rw [hb1.cell (p := ⟨w.heap.size, 0, none⟩) (by (try simp); try omega)]; simp [go_sem]
  have eaS1_1 : w1.cell? ⟨w.heap.size, 1, none⟩ = some (.slice aSa1 s.tasks.length aSc1) := by rw [hb1.cell (p := ⟨w.heap.size, 1, none⟩) (by (try simp); try omega)]; simp [go_sem]
  have eaS2_1 : w1.cell? ⟨w.heap.size, 2, none⟩ = some (.int .i64 s.clock) := by rw [hb1.cell (p := ⟨w.heap.size, 2, none⟩) (by (try simp); try omega)]; simp [go_sem]
  have eaS3_1 : w1.cell? ⟨w.heap.size, 3, none⟩ = some (.slice aSa3 s.log.length aSc3) := by rw [hb1.cell (p := ⟨w.heap.size, 3, none⟩) (by (try simp); try omega)]; simp [go_sem]
  have zaS_1 : w.heap.size < w1.heap.size := by have := hb1.size; (try simp at this); omega
  have HB1 : Hid (Below w.heap.size w w1) := below_then (by repeat (first | with_reducible exact Below.refl _ _ | (with_reducible refine Below.setCell ?_ ?hs _; case hs => ((try simp); try omega)) | (with_reducible refine Below.alloc ?_ ?hs _; case hs => ((try simp); try omega)) | with_reducible refine Below.drew ?_)) (by (try simp); try omega) hb1
  clear hb1
  by_cases g1 : q1 < 0
  · clear s1
    go_wp2_with fail
    go_ret
    exact ⟨rfl, HB1.out⟩
  have hsmS := s1 (by omega)
  clear s1
  have HSMS := (show Hid (SmSy _) from hsmS)
  clear hsmS
  go_wp2_with fail
  refine (toSys_th' s _ _ _ _ (SyAt.mono HS.out HB1.out) HSMS.out).mono ?_
  rintro e w2 ⟨tSv0, tSv1, tSv3, rfl, ho2, hb2, hz2⟩
  obtain ⟨tSa0, tSc0, rfl, _⟩ := (ho2.1).shape
  obtain ⟨tSa1, tSc1, rfl, _⟩ := (ho2.2.1).shape
  obtain ⟨tSa3, tSc3, rfl, _⟩ := (ho2.2.2).shape
  have hq2 := hb2
  have eaS0_2 : w2.cell? ⟨w.heap.size, 0, none⟩ = some (.slice aSa0 s.cells.length aSc0) := by rw [hq2.cell (p := ⟨w.heap.size, 0, none⟩) (by (try simp); try omega)]; exact eaS0_1
  have eaS1_2 : w2.cell? ⟨w.heap.size, 1, none⟩ = some (.slice aSa1 s.tasks.length aSc1) := by rw [hq2.cell (p := ⟨w.heap.size, 1, none⟩) (by (try simp); try omega)]; exact eaS1_1
  have eaS2_2 : w2.cell? ⟨w.heap.size, 2, none⟩ = some (.int .i64 s.clock) := by rw [hq2.cell (p := ⟨w.heap.size, 2, none⟩) (by (try simp); try omega)]; exact eaS2_1
  have eaS3_2 : w2.cell? ⟨w.heap.size, 3, none⟩ = some (.slice aSa3 s.log.length aSc3) := by rw [hq2.cell (p := ⟨w.heap.size, 3, none⟩) (by (try simp); try omega)]; exact eaS3_1
  have zaS_2 : w.heap.size < w2.heap.size := by have := hq2.size; (try simp at this); omega
  have HB2 : Hid (Below w.heap.size w w2) := below_then HB1.out HB1.out.size hq2
  have HTS2 := (show Hid (SyAt w2 _ _ _ _) from ho2.at)
  clear hb2 hq2 hz2 ho2
  clear eaS0_1 eaS1_1 eaS2_1 eaS3_1 zaS_1
  clear HB1 
  go_wp2_with fail
  refine (sTreeLive_c s _ _ _ _ HTS2.out HSMS.out).mono ?_
  rintro e w3 ⟨sv, rfl, hs3, hb3⟩
  obtain ⟨sa, sc, rfl, _⟩ := own_shape hs3
  have hq3 := hb3
  have eaS0_3 : w3.cell? ⟨w.heap.size, 0, none⟩ = some (.slice aSa0 s.cells.length aSc0) := by rw [hq3.cell (p := ⟨w.heap.size, 0, none⟩) (by (try simp); try omega)]; exact eaS0_2
  have eaS1_3 : w3.cell? ⟨w.heap.size, 1, none⟩ = some (.slice aSa1 s.tasks.length aSc1) := by rw [hq3.cell (p := ⟨w.heap.size, 1, none⟩) (by (try simp); try omega)]; exact eaS1_2
  have eaS2_3 : w3.cell? ⟨w.heap.size, 2, none⟩ = some (.int .i64 s.clock) := by rw [hq3.cell (p := ⟨w.heap.size, 2, none⟩) (by (try simp); try omega)]; exact eaS2_2
  have eaS3_3 : w3.cell? ⟨w.heap.size, 3, none⟩ = some (.slice aSa3 s.log.length aSc3) := by rw [hq3.cell (p := ⟨w.heap.size, 3, none⟩) (by (try simp); try omega)]; exact eaS3_2
  have zaS_3 : w.heap.size < w3.heap.size := by have := hq3.size; (try simp at this); omega
  have HB3 : Hid (Below w.heap.size w w3) := below_then HB2.out HB2.out.size hq3
  have HB3L : Hid (w.heap.size + 1 ≤ w3.heap.size) := by
    have h1 := zaS_3
    unfold Hid; omega
  have HRL : Hid (((liveL s)).length ≤ 1048576) := by have h := HSMS.out.2.1.1; have := plW_len (fun i => lvB (nth Ta.z s.tasks i)) s.tasks.length; unfold Hid liveL; omega
  have HS3 : Hid (OwnInt w.heap.size w3 _ (liveL s)) := own_base hs3 HB2.out.size
  have HLS : Hid (∀ g, (Value.slice sa ((liveL s)).length sc).ownBlock = some g → g < w3.heap.size) := fun g hg => (hs3.lt g hg).2
  clear hb3 hq3 hs3 HTS2
  clear eaS0_2 eaS1_2 eaS2_2 eaS3_2 zaS_2
  clear HB2 
  go_wp2_with fail
  refine (toSys_th' s _ _ _ _ (SyAt.mono HS.out HB3.out) HSMS.out).mono ?_
  rintro e w4 ⟨xSv0, xSv1, xSv3, rfl, ho4, hb4, hz4⟩
  obtain ⟨xSa0, xSc0, rfl, _⟩ := (ho4.1).shape
  obtain ⟨xSa1, xSc1, rfl, _⟩ := (ho4.2.1).shape
  obtain ⟨xSa3, xSc3, rfl, _⟩ := (ho4.2.2).shape
  have hq4 := hb4
  have hr4 : Below w3.heap.size w3 w4 := below_then (by repeat (first | with_reducible exact Below.refl _ _ | (with_reducible refine Below.setCell ?_ ?hs _; case hs => ((try simp); try omega)) | (with_reducible refine Below.alloc ?_ ?hs _; case hs => ((try simp); try omega)) | with_reducible refine Below.drew ?_)) (by (try simp); try omega) hb4
  clear hq4
  have hq4 := hr4
  have eaS0_4 : w4.cell? ⟨w.heap.size, 0, none⟩ = some (.slice aSa0 s.cells.length aSc0) := by rw [hq4.cell (p := ⟨w.heap.size, 0, none⟩) (by (try simp); try omega)]; exact eaS0_3
  have eaS1_4 : w4.cell? ⟨w.heap.size, 1, none⟩ = some (.slice aSa1 s.tasks.length aSc1) := by rw [hq4.cell (p := ⟨w.heap.size, 1, none⟩) (by (try simp); try omega)]; exact eaS1_3
  have eaS2_4 : w4.cell? ⟨w.heap.size, 2, none⟩ = some (.int .i64 s.clock) := by rw [hq4.cell (p := ⟨w.heap.size, 2, none⟩) (by (try simp); try omega)]; exact eaS2_3
  have eaS3_4 : w4.cell? ⟨w.heap.size, 3, none⟩ = some (.slice aSa3 s.log.length aSc3) := by rw [hq4.cell (p := ⟨w.heap.size, 3, none⟩) (by (try simp); try omega)]; exact eaS3_3
  have zaS_4 : w.heap.size < w4.heap.size := by have := hb4.size; (try simp at this); omega
  have HB4 : Hid (Below w.heap.size w w4) := below_then HB3.out HB3.out.size hq4
  have HS4 : Hid (OwnInt w.heap.size w4 _ (liveL s)) := own_below HS3.out hq4 (Nat.le_refl _)
  have HXS4 := (show Hid (SyAt w4 _ _ _ _) from ho4.at)
  have h3S : w3.heap.size ≤ w4.heap.size := hr4.size
  obtain ⟨MT, ME, k1, k2, k3, k4, k5⟩ := sySh_of ho4 hz4 HSMS.out
  have HYS4 := (show Hid (RowSh 3 w4 _ ∧ TasSh w4 _ MT ∧ EnsSh w4 _ ME) from ⟨k1, k2, k3⟩)
  have HRS : Hid (∀ a, a ∈ mtSy _ _ _ MT ME → w3.heap.size ≤ a.block ∧ a.block < w4.heap.size) := fun a ha => ⟨Nat.le_trans (by (try simp); try omega) (k4 a ha), sySh_lt k1 k2 k3 a ha⟩
  have hlS := k5
  clear k1 k2 k3 k4 k5
  clear hb4 hq4 hr4 hz4 ho4
  clear eaS0_3 eaS1_3 eaS2_3 eaS3_3 zaS_3
  clear HB3 HS3
  go_wp2_with fail
  refine (treeLive_c s _ _ _ _ (by exact SyAt.mono HXS4.out (by repeat (first | with_reducible exact Below.refl _ _ | (with_reducible refine Below.setCell ?_ ?hs _; case hs => ((try simp); try omega)) | (with_reducible refine Below.alloc ?_ ?hs _; case hs => ((try simp); try omega)) | with_reducible refine Below.drew ?_))) HSMS.out).mono ?_
  rintro e w5 ⟨gv, rfl, hg5, hb5⟩
  obtain ⟨ga, gc, rfl, _⟩ := own_shape hg5
  have hq5 : Below w4.heap.size w4 w5 := below_then (by repeat (first | with_reducible exact Below.refl _ _ | (with_reducible refine Below.setCell ?_ ?hs _; case hs => ((try simp); try omega)) | (with_reducible refine Below.alloc ?_ ?hs _; case hs => ((try simp); try omega)) | with_reducible refine Below.drew ?_)) (by (try simp); try omega) hb5
  have eaS0_5 : w5.cell? ⟨w.heap.size, 0, none⟩ = some (.slice aSa0 s.cells.length aSc0) := by rw [hq5.cell (p := ⟨w.heap.size, 0, none⟩) (by (try simp); try omega)]; exact eaS0_4
  have eaS1_5 : w5.cell? ⟨w.heap.size, 1, none⟩ = some (.slice aSa1 s.tasks.length aSc1) := by rw [hq5.cell (p := ⟨w.heap.size, 1, none⟩) (by (try simp); try omega)]; exact eaS1_4
  have eaS2_5 : w5.cell? ⟨w.heap.size, 2, none⟩ = some (.int .i64 s.clock) := by rw [hq5.cell (p := ⟨w.heap.size, 2, none⟩) (by (try simp); try omega)]; exact eaS2_4
  have eaS3_5 : w5.cell? ⟨w.heap.size, 3, none⟩ = some (.slice aSa3 s.log.length aSc3) := by rw [hq5.cell (p := ⟨w.heap.size, 3, none⟩) (by (try simp); try omega)]; exact eaS3_4
  have zaS_5 : w.heap.size < w5.heap.size := by have := hb5.size; (try simp at this); omega
  have exS0_5 : w5.cell? ⟨w4.heap.size, 0, none⟩ = some (.slice xSa0 s.cells.length xSc0) := by rw [hb5.cell (p := ⟨w4.heap.size, 0, none⟩) (by (try simp); try omega)]; simp [go_sem]
  have exS1_5 : w5.cell? ⟨w4.heap.size, 1, none⟩ = some (.slice xSa1 s.tasks.length xSc1) := by rw [hb5.cell (p := ⟨w4.heap.size, 1, none⟩) (by (try simp); try omega)]; simp [go_sem]
  have exS2_5 : w5.cell? ⟨w4.heap.size, 2, none⟩ = some (.int .i64 s.clock) := by rw [hb5.cell (p := ⟨w4.heap.size, 2, none⟩) (by (try simp); try omega)]; simp [go_sem]
  have exS3_5 : w5.cell? ⟨w4.heap.size, 3, none⟩ = some (.slice xSa3 s.log.length xSc3) := by rw [hb5.cell (p := ⟨w4.heap.size, 3, none⟩) (by (try simp); try omega)]; simp [go_sem]
  have zxS_5 : w4.heap.size < w5.heap.size := by have := hb5.size; (try simp at this); omega
  have HB5 : Hid (Below w.heap.size w w5) := below_then HB4.out HB4.out.size hq5
  have HS5 : Hid (OwnInt w.heap.size w5 _ (liveL s)) := own_below HS4.out hq5 (Nat.le_refl _)
  have HYS5 := (show Hid (RowSh 3 w5 _ ∧ TasSh w5 _ MT ∧ EnsSh w5 _ ME) from ⟨HYS4.out.1.set (IntSet.below hq5), HYS4.out.2.1.set (IntSet.below hq5), HYS4.out.2.2.set (IntSet.below hq5)⟩)
  have HXS5 := (show Hid (SyAt w5 _ _ _ _) from SyAt.mono HXS4.out hq5)
  have HLG : Hid (∀ g, (Value.slice ga ((liveL s)).length gc).ownBlock = some g → w4.heap.size ≤ g ∧ g < w5.heap.size) := fun g hg => ⟨Nat.le_trans (by (try simp); try omega) (hg5.lt g hg).1, (hg5.lt g hg).2⟩
  have HG5 : Hid (OwnInt w.heap.size w5 _ (liveL s)) := own_base hg5 (Nat.le_trans HB4.out.size (by (try simp); try omega))
  have h45 : w4.heap.size ≤ w5.heap.size := hq5.size
  clear hb5 hq5 hg5
  clear eaS0_4 eaS1_4 eaS2_4 eaS3_4 zaS_4
  clear HB4 HS4 HYS4 HXS4
  go_wp2_with fail
  refine (eqIntS_same _ _ ((liveL s)) _ HG5.out.at HS5.out.at).mono ?_
  rintro e w6 ⟨rfl, hb6⟩
  have hq6 := hb6
  have eaS0_6 : w6.cell? ⟨w.heap.size, 0, none⟩ = some (.slice aSa0 s.cells.length aSc0) := by rw [hq6.cell (p := ⟨w.heap.size, 0, none⟩) (by (try simp); try omega)]; exact eaS0_5
  have eaS1_6 : w6.cell? ⟨w.heap.size, 1, none⟩ = some (.slice aSa1 s.tasks.length aSc1) := by rw [hq6.cell (p := ⟨w.heap.size, 1, none⟩) (by (try simp); try omega)]; exact eaS1_5
  have eaS2_6 : w6.cell? ⟨w.heap.size, 2, none⟩ = some (.int .i64 s.clock) := by rw [hq6.cell (p := ⟨w.heap.size, 2, none⟩) (by (try simp); try omega)]; exact eaS2_5
  have eaS3_6 : w6.cell? ⟨w.heap.size, 3, none⟩ = some (.slice aSa3 s.log.length aSc3) := by rw [hq6.cell (p := ⟨w.heap.size, 3, none⟩) (by (try simp); try omega)]; exact eaS3_5
  have zaS_6 : w.heap.size < w6.heap.size := by have := hq6.size; (try simp at this); omega
  have exS0_6 : w6.cell? ⟨w4.heap.size, 0, none⟩ = some (.slice xSa0 s.cells.length xSc0) := by rw [hq6.cell (p := ⟨w4.heap.size, 0, none⟩) (by (try simp); try omega)]; exact exS0_5
  have exS1_6 : w6.cell? ⟨w4.heap.size, 1, none⟩ = some (.slice xSa1 s.tasks.length xSc1) := by rw [hq6.cell (p := ⟨w4.heap.size, 1, none⟩) (by (try simp); try omega)]; exact exS1_5
  have exS2_6 : w6.cell? ⟨w4.heap.size, 2, none⟩ = some (.int .i64 s.clock) := by rw [hq6.cell (p := ⟨w4.heap.size, 2, none⟩) (by (try simp); try omega)]; exact exS2_5
  have exS3_6 : w6.cell? ⟨w4.heap.size, 3, none⟩ = some (.slice xSa3 s.log.length xSc3) := by rw [hq6.cell (p := ⟨w4.heap.size, 3, none⟩) (by (try simp); try omega)]; exact exS3_5
  have zxS_6 : w4.heap.size < w6.heap.size := by have := hq6.size; (try simp at this); omega
  have HB6 : Hid (Below w.heap.size w w6) := below_then HB5.out HB5.out.size hq6
  have HS6 : Hid (OwnInt w.heap.size w6 _ (liveL s)) := own_below HS5.out hq6 (Nat.le_refl _)
  have HYS6 := (show Hid (RowSh 3 w6 _ ∧ TasSh w6 _ MT ∧ EnsSh w6 _ ME) from ⟨HYS5.out.1.set (IntSet.below hq6), HYS5.out.2.1.set (IntSet.below hq6), HYS5.out.2.2.set (IntSet.below hq6)⟩)
  have HXS6 := (show Hid (SyAt w6 _ _ _ _) from SyAt.mono HXS5.out hq6)
  have HG6 : Hid (OwnInt w.heap.size w6 _ (liveL s)) := own_below HG5.out hq6 (Nat.le_refl _)
  clear hb6 hq6
  clear eaS0_5 eaS1_5 eaS2_5 eaS3_5 exS0_5 exS1_5 exS2_5 exS3_5 zaS_5 zxS_5
  clear HB5 HS5 HYS5 HXS5 HG5
  go_wp2_with fail
  have HCS := (show Hid (SyAt w6.drew (.slice aSa0 s.cells.length aSc0) (.slice aSa1 s.tasks.length aSc1) (.slice aSa3 s.log.length aSc3) s) from SyAt.mono HS.out HB6.out.drew)
  have HES := (show Hid (SyAt w6.drew (.slice xSa0 s.cells.length xSc0) (.slice xSa1 s.tasks.length xSc1) (.slice xSa3 s.log.length xSc3) s) from SyAt.mono HXS6.out (Below.refl _ _).drew)
  go_region_with (first | (go_at_call 19; refine (toSys_th' s _ _ _ _ HCS.out HSMS.out).mono ?_; rintro e w7 ⟨yv0, yv1, yv3, rfl, hoy, hby, hzy⟩; obtain ⟨ya0, yc0, rfl, _⟩ := (hoy.1).shape; obtain ⟨ya1, yc1, rfl, _⟩ := (hoy.2.1).shape; obtain ⟨ya3, yc3, rfl, _⟩ := (hoy.2.2).shape; have y0 : w7.cell? ⟨w4.heap.size, 0, none⟩ = some (.slice xSa0 s.cells.length xSc0) := (hby.cell (p := ⟨w4.heap.size, 0, none⟩) zxS_6).trans exS0_6; have y1 : w7.cell? ⟨w4.heap.size, 1, none⟩ = some (.slice xSa1 s.tasks.length xSc1) := (hby.cell (p := ⟨w4.heap.size, 1, none⟩) zxS_6).trans exS1_6; have y2 : w7.cell? ⟨w4.heap.size, 2, none⟩ = some (.int .i64 s.clock) := (hby.cell (p := ⟨w4.heap.size, 2, none⟩) zxS_6).trans exS2_6; have y3 : w7.cell? ⟨w4.heap.size, 3, none⟩ = some (.slice xSa3 s.log.length xSc3) := (hby.cell (p := ⟨w4.heap.size, 3, none⟩) zxS_6).trans exS3_6) | (go_at_call 12; refine (eqSys_same' s _ _ _ _ _ _ _ (SyAt.mono HES.out hby) hoy.at).mono ?_; rintro e w8 ⟨rfl, hbz⟩))
  all_goals
    have hq8 : Below w6.heap.size w6 w8 := below_then (((Below.refl _ _).drew).trans hby) hby.size hbz
    have eaS0_8 : w8.cell? ⟨w.heap.size, 0, none⟩ = some (.slice aSa0 s.cells.length aSc0) := by rw [hq8.cell (p := ⟨w.heap.size, 0, none⟩) (by (try simp); try omega)]; exact eaS0_6
    have eaS1_8 : w8.cell? ⟨w.heap.size, 1, none⟩ = some (.slice aSa1 s.tasks.length aSc1) := by rw [hq8.cell (p := ⟨w.heap.size, 1, none⟩) (by (try simp); try omega)]; exact eaS1_6
    have eaS2_8 : w8.cell? ⟨w.heap.size, 2, none⟩ = some (.int .i64 s.clock) := by rw [hq8.cell (p := ⟨w.heap.size, 2, none⟩) (by (try simp); try omega)]; exact eaS2_6
    have eaS3_8 : w8.cell? ⟨w.heap.size, 3, none⟩ = some (.slice aSa3 s.log.length aSc3) := by rw [hq8.cell (p := ⟨w.heap.size, 3, none⟩) (by (try simp); try omega)]; exact eaS3_6
    have zaS_8 : w.heap.size < w8.heap.size := by have := hq8.size; omega
    have exS0_8 : w8.cell? ⟨w4.heap.size, 0, none⟩ = some (.slice xSa0 s.cells.length xSc0) := by rw [hq8.cell (p := ⟨w4.heap.size, 0, none⟩) (by (try simp); try omega)]; exact exS0_6
    have exS1_8 : w8.cell? ⟨w4.heap.size, 1, none⟩ = some (.slice xSa1 s.tasks.length xSc1) := by rw [hq8.cell (p := ⟨w4.heap.size, 1, none⟩) (by (try simp); try omega)]; exact exS1_6
    have exS2_8 : w8.cell? ⟨w4.heap.size, 2, none⟩ = some (.int .i64 s.clock) := by rw [hq8.cell (p := ⟨w4.heap.size, 2, none⟩) (by (try simp); try omega)]; exact exS2_6
    have exS3_8 : w8.cell? ⟨w4.heap.size, 3, none⟩ = some (.slice xSa3 s.log.length xSc3) := by rw [hq8.cell (p := ⟨w4.heap.size, 3, none⟩) (by (try simp); try omega)]; exact exS3_6
    have zxS_8 : w4.heap.size < w8.heap.size := by have := hq8.size; omega
    have HB8 : Hid (Below w.heap.size w w8) := below_then HB6.out HB6.out.size hq8
    have HS8 : Hid (OwnInt w.heap.size w8 _ (liveL s)) := own_below HS6.out hq8 (Nat.le_refl _)
    have HYS8 := (show Hid (RowSh 3 w8 _ ∧ TasSh w8 _ MT ∧ EnsSh w8 _ ME) from ⟨HYS6.out.1.set (IntSet.below hq8), HYS6.out.2.1.set (IntSet.below hq8), HYS6.out.2.2.set (IntSet.below hq8)⟩)
    have HXS8 := (show Hid (SyAt w8 _ _ _ _) from SyAt.mono HXS6.out hq8)
    have HG8 : Hid (OwnInt w.heap.size w8 _ (liveL s)) := own_below HG6.out hq8 (Nat.le_refl _)
    clear hby hbz hq8 hoy hzy y0 y1 y2 y3 HCS HES
    clear eaS0_6 eaS1_6 eaS2_6 eaS3_6 exS0_6 exS1_6 exS2_6 exS3_6 zaS_6 zxS_6 HB6 HS6 HYS6 HXS6 HG6
    go_wp2_with fail
    refine (markSys_tr _ _ _ _ _ MT ME _ HYS8.out.1 HYS8.out.2.1 HYS8.out.2.2 (by omega) (by omega)).mono ?_
    rintro e w9 ⟨rfl, wm9, hbm9, ew9⟩
    have hS9 : IntSet w8 w9 := by rw [ew9]; exact (IntSet.below hbm9).trans (wrT_set (fun a ha => sySh_ic (HYS8.out.1.set (IntSet.below hbm9)) (HYS8.out.2.1.set (IntSet.below hbm9)) (HYS8.out.2.2.set (IntSet.below hbm9)) a ha) _)
    have eaS0_9 : w9.cell? ⟨w.heap.size, 0, none⟩ = some (.slice aSa0 s.cells.length aSc0) := by
      rw [ew9, wrT_other (fun hp => by have h1 : w3.heap.size ≤ w.heap.size ∧ w.heap.size < w4.heap.size := HRS.out _ hp; have h3 := HB3L.out; omega), hbm9.cell (p := ⟨w.heap.size, 0, none⟩) (by (try simp); try omega)]; exact eaS0_8
    have eaS1_9 : w9.cell? ⟨w.heap.size, 1, none⟩ = some (.slice aSa1 s.tasks.length aSc1) := by
      rw [ew9, wrT_other (fun hp => by have h1 : w3.heap.size ≤ w.heap.size ∧ w.heap.size < w4.heap.size := HRS.out _ hp; have h3 := HB3L.out; omega), hbm9.cell (p := ⟨w.heap.size, 1, none⟩) (by (try simp); try omega)]; exact eaS1_8
    have eaS2_9 : w9.cell? ⟨w.heap.size, 2, none⟩ = some (.int .i64 s.clock) := by
      rw [ew9, wrT_other (fun hp => by have h1 : w3.heap.size ≤ w.heap.size ∧ w.heap.size < w4.heap.size := HRS.out _ hp; have h3 := HB3L.out; omega), hbm9.cell (p := ⟨w.heap.size, 2, none⟩) (by (try simp); try omega)]; exact eaS2_8
    have eaS3_9 : w9.cell? ⟨w.heap.size, 3, none⟩ = some (.slice aSa3 s.log.length aSc3) := by
      rw [ew9, wrT_other (fun hp => by have h1 : w3.heap.size ≤ w.heap.size ∧ w.heap.size < w4.heap.size := HRS.out _ hp; have h3 := HB3L.out; omega), hbm9.cell (p := ⟨w.heap.size, 3, none⟩) (by (try simp); try omega)]; exact eaS3_8
    have zaS_9 : w.heap.size < w9.heap.size := by have := hS9.size; omega
    have exS0_9 : w9.cell? ⟨w4.heap.size, 0, none⟩ = some (.slice xSa0 s.cells.length xSc0) := by
      rw [ew9, wrT_other (fun hp => by have h1 : w3.heap.size ≤ w4.heap.size ∧ w4.heap.size < w4.heap.size := HRS.out _ hp; have h3 := HB3L.out; omega), hbm9.cell (p := ⟨w4.heap.size, 0, none⟩) (by (try simp); try omega)]; exact exS0_8
    have exS1_9 : w9.cell? ⟨w4.heap.size, 1, none⟩ = some (.slice xSa1 s.tasks.length xSc1) := by
      rw [ew9, wrT_other (fun hp => by have h1 : w3.heap.size ≤ w4.heap.size ∧ w4.heap.size < w4.heap.size := HRS.out _ hp; have h3 := HB3L.out; omega), hbm9.cell (p := ⟨w4.heap.size, 1, none⟩) (by (try simp); try omega)]; exact exS1_8
    have exS2_9 : w9.cell? ⟨w4.heap.size, 2, none⟩ = some (.int .i64 s.clock) := by
      rw [ew9, wrT_other (fun hp => by have h1 : w3.heap.size ≤ w4.heap.size ∧ w4.heap.size < w4.heap.size := HRS.out _ hp; have h3 := HB3L.out; omega), hbm9.cell (p := ⟨w4.heap.size, 2, none⟩) (by (try simp); try omega)]; exact exS2_8
    have exS3_9 : w9.cell? ⟨w4.heap.size, 3, none⟩ = some (.slice xSa3 s.log.length xSc3) := by
      rw [ew9, wrT_other (fun hp => by have h1 : w3.heap.size ≤ w4.heap.size ∧ w4.heap.size < w4.heap.size := HRS.out _ hp; have h3 := HB3L.out; omega), hbm9.cell (p := ⟨w4.heap.size, 3, none⟩) (by (try simp); try omega)]; exact exS3_8
    have zxS_9 : w4.heap.size < w9.heap.size := by have := hS9.size; omega
    have HB9 : Hid (Below w.heap.size w w9) := by
      have h := wrT_below (below_then HB8.out HB8.out.size hbm9) (A := mtSy (.slice xSa0 s.cells.length xSc0) (.slice xSa1 s.tasks.length xSc1) (.slice xSa3 s.log.length xSc3) MT ME) (fun a ha => by have := (HRS.out a ha).1; have := HB3L.out; omega) (1)
      rw [← ew9] at h; exact h
    have HS9 : Hid (OwnInt w.heap.size w9 (.slice sa ((liveL s)).length sc) (liveL s)) := by
      have h := OwnInt.wr (own_below HS8.out hbm9 (Nat.le_refl _)) (A := mtSy (.slice xSa0 s.cells.length xSc0) (.slice xSa1 s.tasks.length xSc1) (.slice xSa3 s.log.length xSc3) MT ME) (fun g hg a ha e => by have h1 := HRS.out a ha; have h2 := HLS.out g hg; omega) (1)
      rw [← ew9] at h; exact h
    have HG9 : Hid (OwnInt w.heap.size w9 (.slice ga ((liveL s)).length gc) (liveL s)) := by
      have h := OwnInt.wr (own_below HG8.out hbm9 (Nat.le_refl _)) (A := mtSy (.slice xSa0 s.cells.length xSc0) (.slice xSa1 s.tasks.length xSc1) (.slice xSa3 s.log.length xSc3) MT ME) (fun g hg a ha e => by have h1 := HRS.out a ha; have h2 := HLG.out g hg; omega) (1)
      rw [← ew9] at h; exact h
    clear ew9 hbm9 hS9
    clear eaS0_8 eaS1_8 eaS2_8 eaS3_8 exS0_8 exS1_8 exS2_8 exS3_8 zaS_8 zxS_8
    clear HB8 HS8 HYS8 HG8
    clear exS0_9 exS1_9 exS2_9 exS3_9 zxS_9
    have hkk : ¬ (1 + (mtSy (.slice xSa0 s.cells.length xSc0) (.slice xSa1 s.tasks.length xSc1) (.slice xSa3 s.log.length xSc3) MT ME).length : Int) < 0 := by omega
    go_wp2_with fail
    refine (eqIntS_same _ _ ((liveL s)) _ HG9.out.at HS9.out.at).mono ?_
    rintro e w10 ⟨rfl, hb10⟩
    have hq10 := hb10
    have eaS0_10 : w10.cell? ⟨w.heap.size, 0, none⟩ = some (.slice aSa0 s.cells.length aSc0) := by rw [hq10.cell (p := ⟨w.heap.size, 0, none⟩) (by (try simp); try omega)]; exact eaS0_9
    have eaS1_10 : w10.cell? ⟨w.heap.size, 1, none⟩ = some (.slice aSa1 s.tasks.length aSc1) := by rw [hq10.cell (p := ⟨w.heap.size, 1, none⟩) (by (try simp); try omega)]; exact eaS1_9
    have eaS2_10 : w10.cell? ⟨w.heap.size, 2, none⟩ = some (.int .i64 s.clock) := by rw [hq10.cell (p := ⟨w.heap.size, 2, none⟩) (by (try simp); try omega)]; exact eaS2_9
    have eaS3_10 : w10.cell? ⟨w.heap.size, 3, none⟩ = some (.slice aSa3 s.log.length aSc3) := by rw [hq10.cell (p := ⟨w.heap.size, 3, none⟩) (by (try simp); try omega)]; exact eaS3_9
    have zaS_10 : w.heap.size < w10.heap.size := by have := hq10.size; (try simp at this); omega
    have HB10 : Hid (Below w.heap.size w w10) := below_then HB9.out HB9.out.size hq10
    have HS10 : Hid (OwnInt w.heap.size w10 _ (liveL s)) := own_below HS9.out hq10 (Nat.le_refl _)
    have HG10 : Hid (OwnInt w.heap.size w10 _ (liveL s)) := own_below HG9.out hq10 (Nat.le_refl _)
    clear hb10 hq10
    clear eaS0_9 eaS1_9 eaS2_9 eaS3_9 zaS_9
    clear HB9 HS9 HG9
    have hgl := OwnInt.len HG10.out
    go_wp2_with fail
    refine (markIntS_tr _ _ _ (OwnInt.shW HG10.out) (by omega) (by have := HRL.out; omega)).mono ?_
    rintro e w11 ⟨rfl, ew11⟩
    have hIC : ∀ a, a ∈ trR 1 (.slice ga ((liveL s)).length gc) → ICell w10 a := fun a ha => (RowSh.trail (OwnInt.shW HG10.out) a ha).1
    have hS11 : IntSet w10 w11 := by rw [ew11]; exact wrT_set hIC _
    have hGB : ∀ a, a ∈ trR 1 (.slice ga ((liveL s)).length gc) → w4.heap.size ≤ a.block := fun a ha => (HLG.out _ (OwnInt.blk HG10.out a ha)).1
    have eaS0_11 : w11.cell? ⟨w.heap.size, 0, none⟩ = some (.slice aSa0 s.cells.length aSc0) := by
      rw [ew11, wrT_other (fun hp => by have h1 : w4.heap.size ≤ w.heap.size := hGB _ hp; have h3 := HB3L.out; omega)]; exact eaS0_10
    have eaS1_11 : w11.cell? ⟨w.heap.size, 1, none⟩ = some (.slice aSa1 s.tasks.length aSc1) := by
      rw [ew11, wrT_other (fun hp => by have h1 : w4.heap.size ≤ w.heap.size := hGB _ hp; have h3 := HB3L.out; omega)]; exact eaS1_10
    have eaS2_11 : w11.cell? ⟨w.heap.size, 2, none⟩ = some (.int .i64 s.clock) := by
      rw [ew11, wrT_other (fun hp => by have h1 : w4.heap.size ≤ w.heap.size := hGB _ hp; have h3 := HB3L.out; omega)]; exact eaS2_10
    have eaS3_11 : w11.cell? ⟨w.heap.size, 3, none⟩ = some (.slice aSa3 s.log.length aSc3) := by
      rw [ew11, wrT_other (fun hp => by have h1 : w4.heap.size ≤ w.heap.size := hGB _ hp; have h3 := HB3L.out; omega)]; exact eaS3_10
    have zaS_11 : w.heap.size < w11.heap.size := by have := hS11.size; omega
    have HB11 : Hid (Below w.heap.size w w11) := by
      have h := wrT_below HB10.out (A := trR 1 (.slice ga ((liveL s)).length gc)) (fun a ha => by have := hGB a ha; have := HB3L.out; omega) 1
      rw [← ew11] at h; exact h
    have HS11 : Hid (OwnInt w.heap.size w11 (.slice sa ((liveL s)).length sc) (liveL s)) := by
      have h := OwnInt.wr HS10.out (A := trR 1 (.slice ga ((liveL s)).length gc)) (fun g hg a ha e => by have h1 := hGB a ha; have h2 := HLS.out g hg; omega) 1
      rw [← ew11] at h; exact h
    have HGS11 := (show Hid (RowSh 1 w11 _) from (OwnInt.shW HG10.out).set hS11)
    have HM11 : Hid (HeldT w11 (trR 1 (.slice ga ((liveL s)).length gc)) 1) := by
      have h := wrT_held hIC (trR_nodup 1 _) 1
      rw [← ew11] at h; exact h
    clear ew11 hIC hS11 hGB
    clear eaS0_10 eaS1_10 eaS2_10 eaS3_10 zaS_10
    clear HB10 HS10 HG10
    have hkm : ¬ (1 + ((trR 1 (.slice ga ((liveL s)).length gc)).length : Int) < 0) := by omega
    go_wp2_with fail
    refine (heldIntS_tr _ _ _ HGS11.out HM11.out (by omega) (by have := HRL.out; omega)).mono ?_
    rintro e wh ⟨rfl, hw⟩
    have hw := hw.symm
    subst hw
    go_wp2_with fail
    refine (toSys_th' s _ _ _ _ (SyAt.mono HS.out HB11.out) HSMS.out).mono ?_
    rintro e w12 ⟨uSv0, uSv1, uSv3, rfl, ho12, hb12, hz12⟩
    obtain ⟨uSa0, uSc0, rfl, _⟩ := (ho12.1).shape
    obtain ⟨uSa1, uSc1, rfl, _⟩ := (ho12.2.1).shape
    obtain ⟨uSa3, uSc3, rfl, _⟩ := (ho12.2.2).shape
    have hq12 := hb12
    have eaS0_12 : w12.cell? ⟨w.heap.size, 0, none⟩ = some (.slice aSa0 s.cells.length aSc0) := by rw [hq12.cell (p := ⟨w.heap.size, 0, none⟩) (by (try simp); try omega)]; exact eaS0_11
    have eaS1_12 : w12.cell? ⟨w.heap.size, 1, none⟩ = some (.slice aSa1 s.tasks.length aSc1) := by rw [hq12.cell (p := ⟨w.heap.size, 1, none⟩) (by (try simp); try omega)]; exact eaS1_11
    have eaS2_12 : w12.cell? ⟨w.heap.size, 2, none⟩ = some (.int .i64 s.clock) := by rw [hq12.cell (p := ⟨w.heap.size, 2, none⟩) (by (try simp); try omega)]; exact eaS2_11
    have eaS3_12 : w12.cell? ⟨w.heap.size, 3, none⟩ = some (.slice aSa3 s.log.length aSc3) := by rw [hq12.cell (p := ⟨w.heap.size, 3, none⟩) (by (try simp); try omega)]; exact eaS3_11
    have zaS_12 : w.heap.size < w12.heap.size := by have := hq12.size; (try simp at this); omega
    have HB12 : Hid (Below w.heap.size w w12) := below_then HB11.out HB11.out.size hq12
    have HS12 : Hid (OwnInt w.heap.size w12 _ (liveL s)) := own_below HS11.out hq12 (Nat.le_refl _)
    have HM12 := (show Hid (HeldT w12 _ 1) from HeldT.below HM11.out (fun a ha => (RowSh.trail HGS11.out a ha).2) hq12)
    have HGS12 := (show Hid (RowSh 1 w12 _) from HGS11.out.set (IntSet.below hq12))
    have HTS12 := (show Hid (SyAt w12 _ _ _ _) from ho12.at)
    clear hb12 hq12 hz12 ho12
    clear eaS0_11 eaS1_11 eaS2_11 eaS3_11 zaS_11
    clear HB11 HS11 HM11 HGS11
    go_wp2_with fail
    refine (treeLive_c s _ _ _ _ HTS12.out HSMS.out).mono ?_
    rintro e w13 ⟨hv, rfl, hh13, hb13⟩
    obtain ⟨ha, hc, rfl, _⟩ := own_shape hh13
    have hq13 := hb13
    have eaS0_13 : w13.cell? ⟨w.heap.size, 0, none⟩ = some (.slice aSa0 s.cells.length aSc0) := by rw [hq13.cell (p := ⟨w.heap.size, 0, none⟩) (by (try simp); try omega)]; exact eaS0_12
    have eaS1_13 : w13.cell? ⟨w.heap.size, 1, none⟩ = some (.slice aSa1 s.tasks.length aSc1) := by rw [hq13.cell (p := ⟨w.heap.size, 1, none⟩) (by (try simp); try omega)]; exact eaS1_12
    have eaS2_13 : w13.cell? ⟨w.heap.size, 2, none⟩ = some (.int .i64 s.clock) := by rw [hq13.cell (p := ⟨w.heap.size, 2, none⟩) (by (try simp); try omega)]; exact eaS2_12
    have eaS3_13 : w13.cell? ⟨w.heap.size, 3, none⟩ = some (.slice aSa3 s.log.length aSc3) := by rw [hq13.cell (p := ⟨w.heap.size, 3, none⟩) (by (try simp); try omega)]; exact eaS3_12
    have zaS_13 : w.heap.size < w13.heap.size := by have := hq13.size; (try simp at this); omega
    have HB13 : Hid (Below w.heap.size w w13) := below_then HB12.out HB12.out.size hq13
    have HS13 : Hid (OwnInt w.heap.size w13 _ (liveL s)) := own_below HS12.out hq13 (Nat.le_refl _)
    have HM13 := (show Hid (HeldT w13 _ 1) from HeldT.below HM12.out (fun a ha => (RowSh.trail HGS12.out a ha).2) hq13)
    have HGS13 := (show Hid (RowSh 1 w13 _) from HGS12.out.set (IntSet.below hq13))
    have HH13 : Hid (OwnInt w.heap.size w13 _ (liveL s)) := own_base hh13 HB12.out.size
    clear hb13 hq13 hh13 HTS12
    clear eaS0_12 eaS1_12 eaS2_12 eaS3_12 zaS_12
    clear HB12 HS12 HM12 HGS12
    go_wp2_with fail
    refine (eqIntS_same _ _ ((liveL s)) _ HH13.out.at HS13.out.at).mono ?_
    rintro e w14 ⟨rfl, hb14⟩
    have hq14 := hb14
    have eaS0_14 : w14.cell? ⟨w.heap.size, 0, none⟩ = some (.slice aSa0 s.cells.length aSc0) := by rw [hq14.cell (p := ⟨w.heap.size, 0, none⟩) (by (try simp); try omega)]; exact eaS0_13
    have eaS1_14 : w14.cell? ⟨w.heap.size, 1, none⟩ = some (.slice aSa1 s.tasks.length aSc1) := by rw [hq14.cell (p := ⟨w.heap.size, 1, none⟩) (by (try simp); try omega)]; exact eaS1_13
    have eaS2_14 : w14.cell? ⟨w.heap.size, 2, none⟩ = some (.int .i64 s.clock) := by rw [hq14.cell (p := ⟨w.heap.size, 2, none⟩) (by (try simp); try omega)]; exact eaS2_13
    have eaS3_14 : w14.cell? ⟨w.heap.size, 3, none⟩ = some (.slice aSa3 s.log.length aSc3) := by rw [hq14.cell (p := ⟨w.heap.size, 3, none⟩) (by (try simp); try omega)]; exact eaS3_13
    have zaS_14 : w.heap.size < w14.heap.size := by have := hq14.size; (try simp at this); omega
    have HB14 : Hid (Below w.heap.size w w14) := below_then HB13.out HB13.out.size hq14
    have HS14 : Hid (OwnInt w.heap.size w14 _ (liveL s)) := own_below HS13.out hq14 (Nat.le_refl _)
    have HM14 := (show Hid (HeldT w14 _ 1) from HeldT.below HM13.out (fun a ha => (RowSh.trail HGS13.out a ha).2) hq14)
    have HGS14 := (show Hid (RowSh 1 w14 _) from HGS13.out.set (IntSet.below hq14))
    have HH14 : Hid (OwnInt w.heap.size w14 _ (liveL s)) := own_below HH13.out hq14 (Nat.le_refl _)
    clear hb14 hq14
    clear eaS0_13 eaS1_13 eaS2_13 eaS3_13 zaS_13
    clear HB13 HS13 HM13 HGS13 HH13
    go_wp2_with fail
    refine (heldIntS_tr _ _ _ HGS14.out HM14.out (by omega) (by have := HRL.out; omega)).mono ?_
    rintro e wh ⟨rfl, hw⟩
    have hw := hw.symm
    subst hw
    go_wp2_with fail
    go_ret
    exact ⟨rfl, HB14.out⟩

end Go.Proofs.Yteebdfifbmpmhaa
