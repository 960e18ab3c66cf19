/-
  Copies of systems (by mky.py).
-/
import Derived.Test.YteebdfifbmpmhaaY1
namespace Go.Proofs.Yteebdfifbmpmhaa
open Go.RowKit
set_option linter.unusedSimpArgs false
set_option linter.unusedVariables false
set_option maxRecDepth 20000
set_option maxHeartbeats 1000000 in
theorem toTask_th (x : Ta) (v3 v8 v9 v10 : Value) (w : World) (h3 : IntsAt w v3 x.regs) (h8 : IntsAt w v8 x.old) (h9 : PusAt w v9 x.reads) (h10 : PusAt w v10 x.puts) (n3 : x.regs.length ≤ 1048576) (n8 : x.old.length ≤ 1048576) (n9 : x.reads.length ≤ 1048576) (n10 : x.puts.length ≤ 1048576) :
    Calls Try.prog 83 #[.agg #[.int .i64 x.body, .int .i64 x.pc, .int .i64 x.up, v3, .int .i64 x.way, .int .i64 x.stage, .int .i64 x.at_, .int .i64 x.since, v8, v9, v10, .int .i64 x.when_, .int .i64 x.from_]] w fun r w' => ∃ u3 u8 u9 u10, r = .returned (.agg #[.int .i64 x.body, .int .i64 x.pc, .int .i64 x.up, u3, .int .i64 x.way, .int .i64 x.stage, .int .i64 x.at_, .int .i64 x.since, u8, u9, u10, .int .i64 x.when_, .int .i64 x.from_]) ∧ IntsOn (fun b => w.heap.size ≤ b) w' u3 x.regs ∧ IntsOn (fun b => w.heap.size ≤ b) w' u8 x.old ∧ PusOn (fun b => w.heap.size ≤ b) w' u9 x.reads ∧ PusOn (fun b => w.heap.size ≤ b) w' u10 x.puts ∧ Below w.heap.size w w' ∧ Fz w w' := by
  obtain ⟨a3, c3, rfl, hm3⟩ := h3.shape
  have H3 := (show Hid (IntsAt _ _ _) from h3)
  clear h3
  obtain ⟨a8, c8, rfl, hm8⟩ := h8.shape
  have H8 := (show Hid (IntsAt _ _ _) from h8)
  clear h8
  obtain ⟨a9, c9, rfl, hm9⟩ := h9.shape
  have H9 := (show Hid (PusAt _ _ _) from h9)
  clear h9
  obtain ⟨a10, c10, rfl, hm10⟩ := h10.shape
  have H10 := (show Hid (PusAt _ _ _) from h10)
  clear h10
  go_enter Try.func83, Try.ntmps83
  go_wp2_with fail
  refine (toIntS_th _ x.regs _ (by exact IntsAt.mono H3.out (by repeat (first | with_reducible exact Below.refl _ _ | (with_reducible refine Below.setCell ?_ ?hs _; case hs => ((try simp); try omega)) | (with_reducible refine Below.alloc ?_ ?hs _; case hs => ((try simp); try omega)) | with_reducible refine Below.drew ?_))) n3).mono ?_
  rintro e w1 ⟨u3, rfl, hu3, hb1, hz1⟩
  obtain ⟨b3, d3, rfl, hmm3⟩ := hu3.shape
  obtain ⟨hc1, hf1⟩ := bcell hb1
  have s1 : w.heap.size + 1 + 1 < w1.heap.size := by have := hb1.size; (try simp at this); omega
  have s1a : w.heap.size < w1.heap.size := by omega
  have s1b : w.heap.size + 1 < w1.heap.size := by omega
  have HB1 : Hid (Below w.heap.size w w1) := below_then (by repeat (first | with_reducible exact Below.refl _ _ | (with_reducible refine Below.setCell ?_ ?hs _; case hs => ((try simp); try omega)) | (with_reducible refine Below.alloc ?_ ?hs _; case hs => ((try simp); try omega)) | with_reducible refine Below.drew ?_)) (by (try simp); try omega) hb1
  have HF1 : Hid (Fz w w1) := Fz.trans (by repeat (first | with_reducible exact Fz.refl _ | with_reducible refine Fz.set ?_ _ _ | with_reducible refine Fz.alloc ?_ _ _ | with_reducible refine Fz.drew ?_)) hz1
  have HU3_1 : Hid (IntsOn (fun b => w.heap.size + 3 ≤ b) w1 _ _) := hu3.wide (fun b hb => by simp at hb; show w.heap.size + 3 ≤ b; omega)
  clear hu3 hb1 hz1 H3
  go_wp2_with fail
  refine (toIntS_th _ x.old _ (by exact IntsAt.mono H8.out (by repeat (first | with_reducible exact HB1.out | (with_reducible refine Below.setCell ?_ ?hs _; case hs => ((try simp); try omega)) | (with_reducible refine Below.alloc ?_ ?hs _; case hs => ((try simp); try omega)) | with_reducible refine Below.drew ?_))) n8).mono ?_
  rintro e w2 ⟨u8, rfl, hu8, hb2, hz2⟩
  obtain ⟨b8, d8, rfl, hmm8⟩ := hu8.shape
  obtain ⟨hc2, hf2⟩ := bcell hb2
  have s2 : w.heap.size + 1 + 1 < w2.heap.size := by have := hb2.size; (try simp at this); omega
  have s2a : w.heap.size < w2.heap.size := by omega
  have s2b : w.heap.size + 1 < w2.heap.size := by omega
  have HB2 : Hid (Below w.heap.size w w2) := below_then (by repeat (first | with_reducible exact HB1.out | (with_reducible refine Below.setCell ?_ ?hs _; case hs => ((try simp); try omega)) | (with_reducible refine Below.alloc ?_ ?hs _; case hs => ((try simp); try omega)) | with_reducible refine Below.drew ?_)) (by (try simp); try omega) hb2
  have HF2 : Hid (Fz w w2) := Fz.trans (by repeat (first | with_reducible exact HF1.out | with_reducible refine Fz.set ?_ _ _ | with_reducible refine Fz.alloc ?_ _ _ | with_reducible refine Fz.drew ?_)) hz2
  have HU8_2 : Hid (IntsOn (fun b => w.heap.size + 3 ≤ b) w2 _ _) := hu8.wide (fun b hb => by simp at hb; show w.heap.size + 3 ≤ b; omega)
  have HU3_2 : Hid (IntsOn (fun b => w.heap.size + 3 ≤ b) w2 _ _) := IntsOn.kept HU3_1.out (Kept.trans (by repeat (first | with_reducible exact Kept.refl _ _ | (with_reducible refine Kept.trans ?_ (Kept.set _ _ _ _ ?hs); case hs => ((try simp); try omega)))) (Kept.below hb2))
  clear hu8 hb2 hz2 H8 HB1 HF1 HU3_1
  go_wp2_with fail
  refine (toPutS_th _ x.reads _ (by exact PusAt.mono H9.out (by repeat (first | with_reducible exact HB2.out | (with_reducible refine Below.setCell ?_ ?hs _; case hs => ((try simp); try omega)) | (with_reducible refine Below.alloc ?_ ?hs _; case hs => ((try simp); try omega)) | with_reducible refine Below.drew ?_))) n9).mono ?_
  rintro e w3 ⟨u9, rfl, hu9, hb3, hz3⟩
  obtain ⟨b9, d9, rfl, hmm9⟩ := hu9.shape
  obtain ⟨hc3, hf3⟩ := bcell hb3
  have s3 : w.heap.size + 1 + 1 < w3.heap.size := by have := hb3.size; (try simp at this); omega
  have s3a : w.heap.size < w3.heap.size := by omega
  have s3b : w.heap.size + 1 < w3.heap.size := by omega
  have HB3 : Hid (Below w.heap.size w w3) := below_then (by repeat (first | with_reducible exact HB2.out | (with_reducible refine Below.setCell ?_ ?hs _; case hs => ((try simp); try omega)) | (with_reducible refine Below.alloc ?_ ?hs _; case hs => ((try simp); try omega)) | with_reducible refine Below.drew ?_)) (by (try simp); try omega) hb3
  have HF3 : Hid (Fz w w3) := Fz.trans (by repeat (first | with_reducible exact HF2.out | with_reducible refine Fz.set ?_ _ _ | with_reducible refine Fz.alloc ?_ _ _ | with_reducible refine Fz.drew ?_)) hz3
  have HU9_3 : Hid (PusOn (fun b => w.heap.size + 3 ≤ b) w3 _ _) := hu9.wide (fun b hb => by simp at hb; show w.heap.size + 3 ≤ b; omega)
  have HU3_3 : Hid (IntsOn (fun b => w.heap.size + 3 ≤ b) w3 _ _) := IntsOn.kept HU3_2.out (Kept.trans (by repeat (first | with_reducible exact Kept.refl _ _ | (with_reducible refine Kept.trans ?_ (Kept.set _ _ _ _ ?hs); case hs => ((try simp); try omega)))) (Kept.below hb3))
  have HU8_3 : Hid (IntsOn (fun b => w.heap.size + 3 ≤ b) w3 _ _) := IntsOn.kept HU8_2.out (Kept.trans (by repeat (first | with_reducible exact Kept.refl _ _ | (with_reducible refine Kept.trans ?_ (Kept.set _ _ _ _ ?hs); case hs => ((try simp); try omega)))) (Kept.below hb3))
  clear hu9 hb3 hz3 H9 HB2 HF2 HU3_2 HU8_2
  go_wp2_with fail
  refine (toPutS_th _ x.puts _ (by exact PusAt.mono H10.out (by repeat (first | with_reducible exact HB3.out | (with_reducible refine Below.setCell ?_ ?hs _; case hs => ((try simp); try omega)) | (with_reducible refine Below.alloc ?_ ?hs _; case hs => ((try simp); try omega)) | with_reducible refine Below.drew ?_))) n10).mono ?_
  rintro e w4 ⟨u10, rfl, hu10, hb4, hz4⟩
  obtain ⟨b10, d10, rfl, hmm10⟩ := hu10.shape
  obtain ⟨hc4, hf4⟩ := bcell hb4
  have s4 : w.heap.size + 1 + 1 < w4.heap.size := by have := hb4.size; (try simp at this); omega
  have s4a : w.heap.size < w4.heap.size := by omega
  have s4b : w.heap.size + 1 < w4.heap.size := by omega
  have HB4 : Hid (Below w.heap.size w w4) := below_then (by repeat (first | with_reducible exact HB3.out | (with_reducible refine Below.setCell ?_ ?hs _; case hs => ((try simp); try omega)) | (with_reducible refine Below.alloc ?_ ?hs _; case hs => ((try simp); try omega)) | with_reducible refine Below.drew ?_)) (by (try simp); try omega) hb4
  have HF4 : Hid (Fz w w4) := Fz.trans (by repeat (first | with_reducible exact HF3.out | with_reducible refine Fz.set ?_ _ _ | with_reducible refine Fz.alloc ?_ _ _ | with_reducible refine Fz.drew ?_)) hz4
  have HU10_4 : Hid (PusOn (fun b => w.heap.size + 3 ≤ b) w4 _ _) := hu10.wide (fun b hb => by simp at hb; show w.heap.size + 3 ≤ b; omega)
  have HU3_4 : Hid (IntsOn (fun b => w.heap.size + 3 ≤ b) w4 _ _) := IntsOn.kept HU3_3.out (Kept.trans (by repeat (first | with_reducible exact Kept.refl _ _ | (with_reducible refine Kept.trans ?_ (Kept.set _ _ _ _ ?hs); case hs => ((try simp); try omega)))) (Kept.below hb4))
  have HU8_4 : Hid (IntsOn (fun b => w.heap.size + 3 ≤ b) w4 _ _) := IntsOn.kept HU8_3.out (Kept.trans (by repeat (first | with_reducible exact Kept.refl _ _ | (with_reducible refine Kept.trans ?_ (Kept.set _ _ _ _ ?hs); case hs => ((try simp); try omega)))) (Kept.below hb4))
  have HU9_4 : Hid (PusOn (fun b => w.heap.size + 3 ≤ b) w4 _ _) := PusOn.kept HU9_3.out (Kept.trans (by repeat (first | with_reducible exact Kept.refl _ _ | (with_reducible refine Kept.trans ?_ (Kept.set _ _ _ _ ?hs); case hs => ((try simp); try omega)))) (Kept.below hb4))
  clear hu10 hb4 hz4 H10 HB3 HF3 HU3_3 HU8_3 HU9_3
  go_wp2_with fail
  refine bodyPost_ret (v := .agg #[.int .i64 x.body, .int .i64 x.pc, .int .i64 x.up, .slice b3 x.regs.length d3, .int .i64 x.way, .int .i64 x.stage, .int .i64 x.at_, .int .i64 x.since, .slice b8 x.old.length d8, .slice b9 x.reads.length d9, .slice b10 x.puts.length d10, .int .i64 x.when_, .int .i64 x.from_]) (by simp [results, Try.results83, go_sem, hc1, hc2, hc3, hc4, s1, s1a, s1b, s2, s2a, s2b, s3, s3a, s3b, s4, s4a, s4b]) rfl ⟨_, _, _, _, rfl, ?_, ?_, ?_, ?_, ?_, ?_⟩
  · exact IntsOn.wide (fun b hb => by show w.heap.size ≤ b; have : w.heap.size + 3 ≤ b := hb; omega) (IntsOn.kept HU3_4.out (by repeat (first | with_reducible exact Kept.refl _ _ | (with_reducible refine Kept.trans ?_ (Kept.set _ _ _ _ ?hs); case hs => ((try simp); try omega)))))
  · exact IntsOn.wide (fun b hb => by show w.heap.size ≤ b; have : w.heap.size + 3 ≤ b := hb; omega) (IntsOn.kept HU8_4.out (by repeat (first | with_reducible exact Kept.refl _ _ | (with_reducible refine Kept.trans ?_ (Kept.set _ _ _ _ ?hs); case hs => ((try simp); try omega)))))
  · exact PusOn.wide (fun b hb => by show w.heap.size ≤ b; have : w.heap.size + 3 ≤ b := hb; omega) (PusOn.kept HU9_4.out (by repeat (first | with_reducible exact Kept.refl _ _ | (with_reducible refine Kept.trans ?_ (Kept.set _ _ _ _ ?hs); case hs => ((try simp); try omega)))))
  · exact PusOn.wide (fun b hb => by show w.heap.size ≤ b; have : w.heap.size + 3 ≤ b := hb; omega) (PusOn.kept HU10_4.out (by repeat (first | with_reducible exact Kept.refl _ _ | (with_reducible refine Kept.trans ?_ (Kept.set _ _ _ _ ?hs); case hs => ((try simp); try omega)))))
  · exact (by repeat (first | with_reducible exact HB4.out | (with_reducible refine Below.setCell ?_ ?hs _; case hs => ((try simp); try omega)) | (with_reducible refine Below.alloc ?_ ?hs _; case hs => ((try simp); try omega)) | with_reducible refine Below.drew ?_))
  · exact (by repeat (first | with_reducible exact HF4.out | with_reducible refine Fz.set ?_ _ _ | with_reducible refine Fz.alloc ?_ _ _ | with_reducible refine Fz.drew ?_))

end Go.Proofs.Yteebdfifbmpmhaa
