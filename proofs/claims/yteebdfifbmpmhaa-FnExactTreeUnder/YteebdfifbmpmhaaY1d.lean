/-
  Copies of systems (by mky.py).
-/
import Derived.Test.YteebdfifbmpmhaaY1b
import Derived.Test.YteebdfifbmpmhaaY1c
namespace Go.Proofs.Yteebdfifbmpmhaa
open Go.RowKit
set_option linter.unusedSimpArgs false
set_option linter.unusedVariables false
set_option maxRecDepth 20000
set_option maxHeartbeats 1000000 in
theorem toSys_th (x : Sy) (v0 v1 v3 : Value) (w : World) (h0 : CesAt w v0 x.cells) (h1 : TasAt w v1 x.tasks) (h3 : EnsAt w v3 x.log) (n0 : SmsCe x.cells) (n1 : SmsTa x.tasks) (n3 : SmsEn x.log) :
    Calls Try.prog 19 #[.agg #[v0, v1, .int .i64 x.clock, v3]] w fun r w' => ∃ u0 u1 u3, r = .returned (.agg #[u0, u1, .int .i64 x.clock, u3]) ∧ CesOn (fun b => w.heap.size ≤ b) w' u0 x.cells ∧ TasOn (fun b => w.heap.size ≤ b) w' u1 x.tasks ∧ EnsOn (fun b => w.heap.size ≤ b) w' u3 x.log ∧ Below w.heap.size w w' ∧ Fz w w' := by
  obtain ⟨a0, c0, rfl, hm0⟩ := h0.shape
  have H0 := (show Hid (CesAt _ _ _) from h0)
  clear h0
  obtain ⟨a1, c1, rfl, hm1⟩ := h1.shape
  have H1 := (show Hid (TasAt _ _ _) from h1)
  clear h1
  obtain ⟨a3, c3, rfl, hm3⟩ := h3.shape
  have H3 := (show Hid (EnsAt _ _ _) from h3)
  clear h3
  go_enter Try.func19, Try.ntmps19
  go_wp2_with fail
  refine (toCellS_th _ x.cells _ (by exact CesAt.mono H0.out (by repeat (first | with_reducible exact Below.refl _ _ | (with_reducible refine Below.setCell ?_ ?hs _; case hs => ((try simp); try omega)) | (with_reducible refine Below.alloc ?_ ?hs _; case hs => ((try simp); try omega)) | with_reducible refine Below.drew ?_))) n0).mono ?_
  rintro e w1 ⟨u0, rfl, hu0, hb1, hz1⟩
  obtain ⟨b0, d0, rfl, hmm0⟩ := hu0.shape
  obtain ⟨hc1, hf1⟩ := bcell hb1
  have s1 : w.heap.size + 1 + 1 < w1.heap.size := by have := hb1.size; (try simp at this); omega
  have s1a : w.heap.size < w1.heap.size := by omega
  have s1b : w.heap.size + 1 < w1.heap.size := by omega
  have HB1 : Hid (Below w.heap.size w w1) := below_then (by repeat (first | with_reducible exact Below.refl _ _ | (with_reducible refine Below.setCell ?_ ?hs _; case hs => ((try simp); try omega)) | (with_reducible refine Below.alloc ?_ ?hs _; case hs => ((try simp); try omega)) | with_reducible refine Below.drew ?_)) (by (try simp); try omega) hb1
  have HF1 : Hid (Fz w w1) := Fz.trans (by repeat (first | with_reducible exact Fz.refl _ | with_reducible refine Fz.set ?_ _ _ | with_reducible refine Fz.alloc ?_ _ _ | with_reducible refine Fz.drew ?_)) hz1
  have HU0_1 : Hid (CesOn (fun b => w.heap.size + 3 ≤ b) w1 _ _) := hu0.wide (fun b hb => by simp at hb; show w.heap.size + 3 ≤ b; omega)
  clear hu0 hb1 hz1 H0
  go_wp2_with fail
  refine (toTaskS_th _ x.tasks _ (by exact TasAt.mono H1.out (by repeat (first | with_reducible exact HB1.out | (with_reducible refine Below.setCell ?_ ?hs _; case hs => ((try simp); try omega)) | (with_reducible refine Below.alloc ?_ ?hs _; case hs => ((try simp); try omega)) | with_reducible refine Below.drew ?_))) n1).mono ?_
  rintro e w2 ⟨u1, rfl, hu1, hb2, hz2⟩
  obtain ⟨b1, d1, rfl, hmm1⟩ := hu1.shape
  obtain ⟨hc2, hf2⟩ := bcell hb2
  have s2 : w.heap.size + 1 + 1 < w2.heap.size := by have := hb2.size; (try simp at this); omega
  have s2a : w.heap.size < w2.heap.size := by omega
  have s2b : w.heap.size + 1 < w2.heap.size := by omega
  have HB2 : Hid (Below w.heap.size w w2) := below_then (by repeat (first | with_reducible exact HB1.out | (with_reducible refine Below.setCell ?_ ?hs _; case hs => ((try simp); try omega)) | (with_reducible refine Below.alloc ?_ ?hs _; case hs => ((try simp); try omega)) | with_reducible refine Below.drew ?_)) (by (try simp); try omega) hb2
  have HF2 : Hid (Fz w w2) := Fz.trans (by repeat (first | with_reducible exact HF1.out | with_reducible refine Fz.set ?_ _ _ | with_reducible refine Fz.alloc ?_ _ _ | with_reducible refine Fz.drew ?_)) hz2
  have HU1_2 : Hid (TasOn (fun b => w.heap.size + 3 ≤ b) w2 _ _) := hu1.wide (fun b hb => by simp at hb; show w.heap.size + 3 ≤ b; omega)
  have HU0_2 : Hid (CesOn (fun b => w.heap.size + 3 ≤ b) w2 _ _) := CesOn.kept HU0_1.out (Kept.trans (by repeat (first | with_reducible exact Kept.refl _ _ | (with_reducible refine Kept.trans ?_ (Kept.set _ _ _ _ ?hs); case hs => ((try simp); try omega)))) (Kept.below hb2))
  clear hu1 hb2 hz2 H1 HB1 HF1 HU0_1
  go_wp2_with fail
  refine (toEntryS_th _ x.log _ (by exact EnsAt.mono H3.out (by repeat (first | with_reducible exact HB2.out | (with_reducible refine Below.setCell ?_ ?hs _; case hs => ((try simp); try omega)) | (with_reducible refine Below.alloc ?_ ?hs _; case hs => ((try simp); try omega)) | with_reducible refine Below.drew ?_))) n3).mono ?_
  rintro e w3 ⟨u3, rfl, hu3, hb3, hz3⟩
  obtain ⟨b3, d3, rfl, hmm3⟩ := hu3.shape
  obtain ⟨hc3, hf3⟩ := bcell hb3
  have s3 : w.heap.size + 1 + 1 < w3.heap.size := by have := hb3.size; (try simp at this); omega
  have s3a : w.heap.size < w3.heap.size := by omega
  have s3b : w.heap.size + 1 < w3.heap.size := by omega
  have HB3 : Hid (Below w.heap.size w w3) := below_then (by repeat (first | with_reducible exact HB2.out | (with_reducible refine Below.setCell ?_ ?hs _; case hs => ((try simp); try omega)) | (with_reducible refine Below.alloc ?_ ?hs _; case hs => ((try simp); try omega)) | with_reducible refine Below.drew ?_)) (by (try simp); try omega) hb3
  have HF3 : Hid (Fz w w3) := Fz.trans (by repeat (first | with_reducible exact HF2.out | with_reducible refine Fz.set ?_ _ _ | with_reducible refine Fz.alloc ?_ _ _ | with_reducible refine Fz.drew ?_)) hz3
  have HU3_3 : Hid (EnsOn (fun b => w.heap.size + 3 ≤ b) w3 _ _) := hu3.wide (fun b hb => by simp at hb; show w.heap.size + 3 ≤ b; omega)
  have HU0_3 : Hid (CesOn (fun b => w.heap.size + 3 ≤ b) w3 _ _) := CesOn.kept HU0_2.out (Kept.trans (by repeat (first | with_reducible exact Kept.refl _ _ | (with_reducible refine Kept.trans ?_ (Kept.set _ _ _ _ ?hs); case hs => ((try simp); try omega)))) (Kept.below hb3))
  have HU1_3 : Hid (TasOn (fun b => w.heap.size + 3 ≤ b) w3 _ _) := TasOn.kept HU1_2.out (Kept.trans (by repeat (first | with_reducible exact Kept.refl _ _ | (with_reducible refine Kept.trans ?_ (Kept.set _ _ _ _ ?hs); case hs => ((try simp); try omega)))) (Kept.below hb3))
  clear hu3 hb3 hz3 H3 HB2 HF2 HU0_2 HU1_2
  go_wp2_with fail
  refine bodyPost_ret (v := .agg #[.slice b0 x.cells.length d0, .slice b1 x.tasks.length d1, .int .i64 x.clock, .slice b3 x.log.length d3]) (by simp [results, Try.results19, go_sem, hc1, hc2, hc3, s1, s1a, s1b, s2, s2a, s2b, s3, s3a, s3b]) rfl ⟨_, _, _, rfl, ?_, ?_, ?_, ?_, ?_⟩
  · exact CesOn.wide (fun b hb => by show w.heap.size ≤ b; have : w.heap.size + 3 ≤ b := hb; omega) (CesOn.kept HU0_3.out (by repeat (first | with_reducible exact Kept.refl _ _ | (with_reducible refine Kept.trans ?_ (Kept.set _ _ _ _ ?hs); case hs => ((try simp); try omega)))))
  · exact TasOn.wide (fun b hb => by show w.heap.size ≤ b; have : w.heap.size + 3 ≤ b := hb; omega) (TasOn.kept HU1_3.out (by repeat (first | with_reducible exact Kept.refl _ _ | (with_reducible refine Kept.trans ?_ (Kept.set _ _ _ _ ?hs); case hs => ((try simp); try omega)))))
  · exact EnsOn.wide (fun b hb => by show w.heap.size ≤ b; have : w.heap.size + 3 ≤ b := hb; omega) (EnsOn.kept HU3_3.out (by repeat (first | with_reducible exact Kept.refl _ _ | (with_reducible refine Kept.trans ?_ (Kept.set _ _ _ _ ?hs); case hs => ((try simp); try omega)))))
  · exact (by repeat (first | with_reducible exact HB3.out | (with_reducible refine Below.setCell ?_ ?hs _; case hs => ((try simp); try omega)) | (with_reducible refine Below.alloc ?_ ?hs _; case hs => ((try simp); try omega)) | with_reducible refine Below.drew ?_))
  · exact (by repeat (first | with_reducible exact HF3.out | with_reducible refine Fz.set ?_ _ _ | with_reducible refine Fz.alloc ?_ _ _ | with_reducible refine Fz.drew ?_))

end Go.Proofs.Yteebdfifbmpmhaa
