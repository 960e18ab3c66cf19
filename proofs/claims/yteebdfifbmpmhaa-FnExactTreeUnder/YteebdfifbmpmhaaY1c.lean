/-
  Copies of systems (by mky.py).
-/
import Derived.Test.YteebdfifbmpmhaaY1
namespace Go.Proofs.Yteebdfifbmpmhaa
open Go.RowKit
set_option linter.unusedSimpArgs false
set_option linter.unusedVariables false
set_option maxRecDepth 20000
set_option maxHeartbeats 1000000 in
theorem toEntry_th (x : En) (v3 v4 : Value) (w : World) (h3 : PusAt w v3 x.reads) (h4 : PusAt w v4 x.puts) (n3 : x.reads.length ≤ 1048576) (n4 : x.puts.length ≤ 1048576) :
    Calls Try.prog 84 #[.agg #[.int .i64 x.task, .int .i64 x.act, .int .i64 x.when_, v3, v4, .int .i64 x.from_]] w fun r w' => ∃ u3 u4, r = .returned (.agg #[.int .i64 x.task, .int .i64 x.act, .int .i64 x.when_, u3, u4, .int .i64 x.from_]) ∧ PusOn (fun b => w.heap.size ≤ b) w' u3 x.reads ∧ PusOn (fun b => w.heap.size ≤ b) w' u4 x.puts ∧ Below w.heap.size w w' ∧ Fz w w' := by
  obtain ⟨a3, c3, rfl, hm3⟩ := h3.shape
  have H3 := (show Hid (PusAt _ _ _) from h3)
  clear h3
  obtain ⟨a4, c4, rfl, hm4⟩ := h4.shape
  have H4 := (show Hid (PusAt _ _ _) from h4)
  clear h4
  go_enter Try.func84, Try.ntmps84
  go_wp2_with fail
  refine (toPutS_th _ x.reads _ (by exact PusAt.mono H3.out (by repeat (first | with_reducible exact Below.refl _ _ | (with_reducible refine Below.setCell ?_ ?hs _; case hs => ((try simp); try omega)) | (with_reducible refine Below.alloc ?_ ?hs _; case hs => ((try simp); try omega)) | with_reducible refine Below.drew ?_))) n3).mono ?_
  rintro e w1 ⟨u3, rfl, hu3, hb1, hz1⟩
  obtain ⟨b3, d3, rfl, hmm3⟩ := hu3.shape
  obtain ⟨hc1, hf1⟩ := bcell hb1
  have s1 : w.heap.size + 1 + 1 < w1.heap.size := by have := hb1.size; (try simp at this); omega
  have s1a : w.heap.size < w1.heap.size := by omega
  have s1b : w.heap.size + 1 < w1.heap.size := by omega
  have HB1 : Hid (Below w.heap.size w w1) := below_then (by repeat (first | with_reducible exact Below.refl _ _ | (with_reducible refine Below.setCell ?_ ?hs _; case hs => ((try simp); try omega)) | (with_reducible refine Below.alloc ?_ ?hs _; case hs => ((try simp); try omega)) | with_reducible refine Below.drew ?_)) (by (try simp); try omega) hb1
  have HF1 : Hid (Fz w w1) := Fz.trans (by repeat (first | with_reducible exact Fz.refl _ | with_reducible refine Fz.set ?_ _ _ | with_reducible refine Fz.alloc ?_ _ _ | with_reducible refine Fz.drew ?_)) hz1
  have HU3_1 : Hid (PusOn (fun b => w.heap.size + 3 ≤ b) w1 _ _) := hu3.wide (fun b hb => by simp at hb; show w.heap.size + 3 ≤ b; omega)
  clear hu3 hb1 hz1 H3
  go_wp2_with fail
  refine (toPutS_th _ x.puts _ (by exact PusAt.mono H4.out (by repeat (first | with_reducible exact HB1.out | (with_reducible refine Below.setCell ?_ ?hs _; case hs => ((try simp); try omega)) | (with_reducible refine Below.alloc ?_ ?hs _; case hs => ((try simp); try omega)) | with_reducible refine Below.drew ?_))) n4).mono ?_
  rintro e w2 ⟨u4, rfl, hu4, hb2, hz2⟩
  obtain ⟨b4, d4, rfl, hmm4⟩ := hu4.shape
  obtain ⟨hc2, hf2⟩ := bcell hb2
  have s2 : w.heap.size + 1 + 1 < w2.heap.size := by have := hb2.size; (try simp at this); omega
  have s2a : w.heap.size < w2.heap.size := by omega
  have s2b : w.heap.size + 1 < w2.heap.size := by omega
  have HB2 : Hid (Below w.heap.size w w2) := below_then (by repeat (first | with_reducible exact HB1.out | (with_reducible refine Below.setCell ?_ ?hs _; case hs => ((try simp); try omega)) | (with_reducible refine Below.alloc ?_ ?hs _; case hs => ((try simp); try omega)) | with_reducible refine Below.drew ?_)) (by (try simp); try omega) hb2
  have HF2 : Hid (Fz w w2) := Fz.trans (by repeat (first | with_reducible exact HF1.out | with_reducible refine Fz.set ?_ _ _ | with_reducible refine Fz.alloc ?_ _ _ | with_reducible refine Fz.drew ?_)) hz2
  have HU4_2 : Hid (PusOn (fun b => w.heap.size + 3 ≤ b) w2 _ _) := hu4.wide (fun b hb => by simp at hb; show w.heap.size + 3 ≤ b; omega)
  have HU3_2 : Hid (PusOn (fun b => w.heap.size + 3 ≤ b) w2 _ _) := PusOn.kept HU3_1.out (Kept.trans (by repeat (first | with_reducible exact Kept.refl _ _ | (with_reducible refine Kept.trans ?_ (Kept.set _ _ _ _ ?hs); case hs => ((try simp); try omega)))) (Kept.below hb2))
  clear hu4 hb2 hz2 H4 HB1 HF1 HU3_1
  go_wp2_with fail
  refine bodyPost_ret (v := .agg #[.int .i64 x.task, .int .i64 x.act, .int .i64 x.when_, .slice b3 x.reads.length d3, .slice b4 x.puts.length d4, .int .i64 x.from_]) (by simp [results, Try.results84, go_sem, hc1, hc2, s1, s1a, s1b, s2, s2a, s2b]) rfl ⟨_, _, rfl, ?_, ?_, ?_, ?_⟩
  · exact PusOn.wide (fun b hb => by show w.heap.size ≤ b; have : w.heap.size + 3 ≤ b := hb; omega) (PusOn.kept HU3_2.out (by repeat (first | with_reducible exact Kept.refl _ _ | (with_reducible refine Kept.trans ?_ (Kept.set _ _ _ _ ?hs); case hs => ((try simp); try omega)))))
  · exact PusOn.wide (fun b hb => by show w.heap.size ≤ b; have : w.heap.size + 3 ≤ b := hb; omega) (PusOn.kept HU4_2.out (by repeat (first | with_reducible exact Kept.refl _ _ | (with_reducible refine Kept.trans ?_ (Kept.set _ _ _ _ ?hs); case hs => ((try simp); try omega)))))
  · exact (by repeat (first | with_reducible exact HB2.out | (with_reducible refine Below.setCell ?_ ?hs _; case hs => ((try simp); try omega)) | (with_reducible refine Below.alloc ?_ ?hs _; case hs => ((try simp); try omega)) | with_reducible refine Below.drew ?_))
  · exact (by repeat (first | with_reducible exact HF2.out | with_reducible refine Fz.set ?_ _ _ | with_reducible refine Fz.alloc ?_ _ _ | with_reducible refine Fz.drew ?_))

set_option maxHeartbeats 1000000 in
theorem toEntryS_th (v : Value) (xs : List En) (w : World) (h : EnsAt w v xs) (hsm : SmsEn xs) :
    Calls Try.prog 55 #[v] w fun r w' => ∃ v', r = .returned v' ∧ EnsOn (fun b => w.heap.size ≤ b) w' v' xs ∧ Below w.heap.size w w' ∧ Fz w w' := by
  obtain ⟨a, cap, rfl, hm, hc⟩ := h
  obtain ⟨hn, hsj⟩ := hsm
  have info : (Try.prog.info? 103).map (fun i => (i.zero, i.size, i.bytes)) = some (some (.agg #[.int .i64 0, .int .i64 0, .int .i64 0, .slice none 0 0, .slice none 0 0, .int .i64 0]), 6, 80) := by kernel_rfl
  obtain ⟨M, hM, hmk⟩ := make_any (P := Try.prog) 29 103 _ 6 80 Try.underlying29 info xs.length (by omega) (by omega)
  clear info
  go_enter Try.func55, Try.ntmps55
  go_wp2_with fail
  go_loopw [4] (fun q w' => ∃ k : Nat, k ≤ xs.length ∧ q = .int .i64 k ∧ Below w.heap.size w w' ∧ Fz w w' ∧ Blk w' w.heap.size (xs.length * 6) ∧ (∀ j, j < k → ∃ v3 v4, w'.cell? ⟨w.heap.size, j * 6, none⟩ = some (.int .i64 (nth En.z xs j).task) ∧ w'.cell? ⟨w.heap.size, j * 6 + 1, none⟩ = some (.int .i64 (nth En.z xs j).act) ∧ w'.cell? ⟨w.heap.size, j * 6 + 2, none⟩ = some (.int .i64 (nth En.z xs j).when_) ∧ w'.cell? ⟨w.heap.size, j * 6 + 3, none⟩ = some (v3) ∧ w'.cell? ⟨w.heap.size, j * 6 + 4, none⟩ = some (v4) ∧ w'.cell? ⟨w.heap.size, j * 6 + 5, none⟩ = some (.int .i64 (nth En.z xs j).from_) ∧ PusOn (fun b => w.heap.size + 1 ≤ b) w' v3 (nth En.z xs j).reads ∧ PusOn (fun b => w.heap.size + 1 ≤ b) w' v4 (nth En.z xs j).puts)) (fun q _ => xs.length - (intOf q).toNat)
  case atStart =>
    have hB := Blk.new w M 103
    rw [hM] at hB
    exact ⟨0, Nat.zero_le _, rfl, (Below.refl _ _).alloc (Nat.le_refl _) _, (Fz.refl _).alloc _ _, hB, fun j hj => absurd hj (Nat.not_lt_zero _)⟩
  clear hmk hM
  case round =>
    obtain ⟨k, hk, rfl, hb, hfz, hB, hall⟩ := hrel
    by_cases hlt : k < xs.length
    · obtain ⟨b, off, v3, v4, rfl, hbw, c0, c1, c2, c3, c4, c5, h3, h4⟩ := hc k hlt
      rw [← hb.cell (p := ⟨b, _, none⟩) hbw] at c0 c1 c2 c3 c4 c5
      obtain ⟨a3, e3, rfl, hm3⟩ := h3.shape
      have H3 := (show Hid (PusAt _ _ _) from h3.mono hb)
      obtain ⟨a4, e4, rfl, hm4⟩ := h4.shape
      have H4 := (show Hid (PusAt _ _ _) from h4.mono hb)
      have HS := (show Hid (SmEn _) from hsj k hlt)
      clear hc hsj h3 h4
      go_wp2_with fail
      refine (toEntry_th (nth En.z xs k) _ _ _ H3.out H4.out HS.out.1 HS.out.2).mono ?_
      rintro e w1 ⟨u3, u4, rfl, g3, g4, hb1, hz1⟩
      obtain ⟨b3, d3, rfl, hmm3⟩ := g3.shape
      obtain ⟨b4, d4, rfl, hmm4⟩ := g4.shape
      have hB1 := hB.below hb1
      have HW : Hid (Below w.heap.size w w1) := hb.trans (hb1.mono hb.size)
      have HF : Hid (Fz w w1) := hfz.trans hz1
      have HA : Hid (∀ j, j < k → ∃ v3 v4, w1.cell? ⟨w.heap.size, j * 6, none⟩ = some (.int .i64 (nth En.z xs j).task) ∧ w1.cell? ⟨w.heap.size, j * 6 + 1, none⟩ = some (.int .i64 (nth En.z xs j).act) ∧ w1.cell? ⟨w.heap.size, j * 6 + 2, none⟩ = some (.int .i64 (nth En.z xs j).when_) ∧ w1.cell? ⟨w.heap.size, j * 6 + 3, none⟩ = some (v3) ∧ w1.cell? ⟨w.heap.size, j * 6 + 4, none⟩ = some (v4) ∧ w1.cell? ⟨w.heap.size, j * 6 + 5, none⟩ = some (.int .i64 (nth En.z xs j).from_) ∧ PusOn (fun b => w.heap.size + 1 ≤ b) w1 v3 (nth En.z xs j).reads ∧ PusOn (fun b => w.heap.size + 1 ≤ b) w1 v4 (nth En.z xs j).puts) := fun j hj => by
        obtain ⟨v3, v4, q0, q1, q2, q3, q4, q5, r3, r4⟩ := hall j hj
        rw [← hb1.cell (p := ⟨w.heap.size, _, none⟩) hB.1] at q0 q1 q2 q3 q4 q5
        exact ⟨v3, v4, q0, q1, q2, q3, q4, q5, r3.kept (Kept.below hb1), r4.kept (Kept.below hb1)⟩
      obtain ⟨⟨x0, y0⟩, z0⟩ := hB1.2 (k * 6) (by omega)
      obtain ⟨⟨x1, y1⟩, z1⟩ := hB1.2 (k * 6 + 1) (by omega)
      obtain ⟨⟨x2, y2⟩, z2⟩ := hB1.2 (k * 6 + 2) (by omega)
      obtain ⟨⟨x3, y3⟩, z3⟩ := hB1.2 (k * 6 + 3) (by omega)
      obtain ⟨⟨x4, y4⟩, z4⟩ := hB1.2 (k * 6 + 4) (by omega)
      obtain ⟨⟨x5, y5⟩, z5⟩ := hB1.2 (k * 6 + 5) (by omega)
      have HB : Hid (Blk w1 w.heap.size (xs.length * 6)) := hB1
      have HU3 : Hid (PusOn (fun b => w.heap.size + 1 ≤ b) w1 (.slice b3 (nth En.z xs k).reads.length d3) (nth En.z xs k).reads) := g3.wide (fun b hb' => by have := hB.1; show w.heap.size + 1 ≤ b; have : wr.heap.size ≤ b := hb'; omega)
      have HU4 : Hid (PusOn (fun b => w.heap.size + 1 ≤ b) w1 (.slice b4 (nth En.z xs k).puts.length d4) (nth En.z xs k).puts) := g4.wide (fun b hb' => by have := hB.1; show w.heap.size + 1 ≤ b; have : wr.heap.size ≤ b := hb'; omega)
      clear hB hall hb hb1 hz1 hfz hB1 c0 c1 c2 c3 c4 c5 g3 H3 g4 H4 HS
      go_wp2_with fail
      go_roundw
      case rel =>
        have hng : ¬ (fun b => w.heap.size + 1 ≤ b) w.heap.size := by show ¬ (w.heap.size + 1 ≤ w.heap.size); omega
        refine ⟨k + 1, by omega, by go_num, setL_below (i := k * 6) (vs := [.int .i64 (nth En.z xs k).task, .int .i64 (nth En.z xs k).act, .int .i64 (nth En.z xs k).when_, .slice b3 (nth En.z xs k).reads.length d3, .slice b4 (nth En.z xs k).puts.length d4, .int .i64 (nth En.z xs k).from_]) HW.out (Nat.le_refl _), setL_fz (i := k * 6) (vs := [.int .i64 (nth En.z xs k).task, .int .i64 (nth En.z xs k).act, .int .i64 (nth En.z xs k).when_, .slice b3 (nth En.z xs k).reads.length d3, .slice b4 (nth En.z xs k).puts.length d4, .int .i64 (nth En.z xs k).from_]) HF.out, setL_blk (i := k * 6) (vs := [.int .i64 (nth En.z xs k).task, .int .i64 (nth En.z xs k).act, .int .i64 (nth En.z xs k).when_, .slice b3 (nth En.z xs k).reads.length d3, .slice b4 (nth En.z xs k).puts.length d4, .int .i64 (nth En.z xs k).from_]) HB.out, so_far (fun j hj => ?_) ?_⟩
        · have O : ∀ o, o < k * 6 → (setL w1 w.heap.size (k * 6) [.int .i64 (nth En.z xs k).task, .int .i64 (nth En.z xs k).act, .int .i64 (nth En.z xs k).when_, .slice b3 (nth En.z xs k).reads.length d3, .slice b4 (nth En.z xs k).puts.length d4, .int .i64 (nth En.z xs k).from_]).cell? ⟨w.heap.size, o, none⟩ = w1.cell? ⟨w.heap.size, o, none⟩ := fun o ho => setL_out _ _ _ _ _ (.inl ho)
          have K : Kept (fun b => w.heap.size + 1 ≤ b) w1 (setL w1 w.heap.size (k * 6) [.int .i64 (nth En.z xs k).task, .int .i64 (nth En.z xs k).act, .int .i64 (nth En.z xs k).when_, .slice b3 (nth En.z xs k).reads.length d3, .slice b4 (nth En.z xs k).puts.length d4, .int .i64 (nth En.z xs k).from_]) := setL_kept hng
          obtain ⟨v3, v4, q0, q1, q2, q3, q4, q5, r3, r4⟩ := HA.out j hj
          rw [← O _ (by omega)] at q0
          rw [← O _ (by omega)] at q1
          rw [← O _ (by omega)] at q2
          rw [← O _ (by omega)] at q3
          rw [← O _ (by omega)] at q4
          rw [← O _ (by omega)] at q5
          exact ⟨v3, v4, q0, q1, q2, q3, q4, q5, r3.kept K, r4.kept K⟩
        · have I := fun j hj => setL_in (w := w1) (g := w.heap.size) (i := k * 6) (vs := [.int .i64 (nth En.z xs k).task, .int .i64 (nth En.z xs k).act, .int .i64 (nth En.z xs k).when_, .slice b3 (nth En.z xs k).reads.length d3, .slice b4 (nth En.z xs k).puts.length d4, .int .i64 (nth En.z xs k).from_]) HB.out (by simp; omega) j hj
          have K : Kept (fun b => w.heap.size + 1 ≤ b) w1 (setL w1 w.heap.size (k * 6) [.int .i64 (nth En.z xs k).task, .int .i64 (nth En.z xs k).act, .int .i64 (nth En.z xs k).when_, .slice b3 (nth En.z xs k).reads.length d3, .slice b4 (nth En.z xs k).puts.length d4, .int .i64 (nth En.z xs k).from_]) := setL_kept hng
          exact ⟨_, _, I 0 (by simp), I 1 (by simp), I 2 (by simp), I 3 (by simp), I 4 (by simp), I 5 (by simp), PusOn.kept HU3.out K, PusOn.kept HU4.out K⟩
      case measure => simp [intOf]; omega
    · have HI : Hid (EnsOn (fun b => w.heap.size ≤ b) wr (.slice (some ⟨w.heap.size, 0, none⟩) xs.length xs.length) xs) := by
        refine ⟨_, _, rfl, by omega, fun i hi => ?_⟩
        obtain ⟨v3, v4, q0, q1, q2, q3, q4, q5, r3, r4⟩ := hall i (by omega)
        refine ⟨_, 0, v3, v4, rfl, Nat.le_refl _, hB.1, ?_⟩
        simp only [Nat.zero_add]
        exact ⟨q0, q1, q2, q3, q4, q5, r3.wide (fun b hb' => by show w.heap.size ≤ b; have : w.heap.size + 1 ≤ b := hb'; omega), r4.wide (fun b hb' => by show w.heap.size ≤ b; have : w.heap.size + 1 ≤ b := hb'; omega)⟩
      clear hc hB hall hsj
      go_wp2_with fail
      go_ret
      exact ⟨_, rfl, HI.out, hb, hfz⟩

end Go.Proofs.Yteebdfifbmpmhaa
