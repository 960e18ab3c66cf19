import Derived.Test.YthllcbbjibfklaaX1
namespace Go.Proofs.Ythllcbbjibfklaa
open Go.RowKit
set_option linter.unusedSimpArgs false
set_option linter.unusedVariables false

set_option maxHeartbeats 400000 in
theorem toDeed_any (d : De) (w : World) :
    Calls Try.prog 43 #[.agg #[.int .i64 d.k, .int .i64 d.a, .int .i64 d.b]] w fun r w' => r = .returned (.agg #[.int .i64 d.k, .int .i64 d.a, .int .i64 d.b]) ∧ Below w.heap.size w w' := by
  go_enter Try.func43, Try.ntmps43
  go_wp2_with fail
  refine bodyPost_ret (v := .agg #[.int .i64 d.k, .int .i64 d.a, .int .i64 d.b]) (by simp [results, Try.results43, go_sem]) rfl ⟨rfl, (by repeat (first | exact Below.refl _ _ | refine Below.alloc ?_ (by simp; try omega) _ | refine Below.drew ?_ | refine Below.setCell ?_ (by simp; try omega) _))⟩

set_option maxHeartbeats 400000 in
theorem toDeedS_any (v : Value) (xs : List De) (w : World) (h : DeedsAt w v xs) (hn : xs.length ≤ 1048576) :
    Calls Try.prog 23 #[v] w fun r w' => ∃ v', r = .returned v' ∧ DeedsOn (fun b => w.heap.size ≤ b) w' v' xs ∧ Below w.heap.size w w' := by
  obtain ⟨a, cap, rfl, hm, hc⟩ := h
  obtain ⟨M, hM, hmk⟩ := make_any (P := Try.prog) 24 35 _ 3 24 Try.underlying24 Try.info_deed xs.length (by omega) (by omega)
  go_enter Try.func23, Try.ntmps23
  go_wp2_with fail
  go_loopw [4] (fun q w' => ∃ k : Nat, k ≤ xs.length ∧ q = .int .i64 k ∧ Below w.heap.size w w' ∧ Blk w' w.heap.size (xs.length * 3) ∧ (∀ j, j < k → w'.cell? ⟨w.heap.size, j * 3, none⟩ = some (.int .i64 (nth De.z xs j).k) ∧ w'.cell? ⟨w.heap.size, j * 3 + 1, none⟩ = some (.int .i64 (nth De.z xs j).a) ∧ w'.cell? ⟨w.heap.size, j * 3 + 2, none⟩ = some (.int .i64 (nth De.z xs j).b))) (fun q _ => xs.length - (intOf q).toNat)
  case atStart =>
    have hB := Blk.new w M 35
    rw [hM] at hB
    exact ⟨0, Nat.zero_le _, rfl, (Below.refl _ _).alloc (Nat.le_refl _) _, hB, fun j hj => absurd hj (Nat.not_lt_zero _)⟩
  clear hmk hM
  case round =>
    obtain ⟨k, hk, rfl, hb, hB, hall⟩ := hrel
    by_cases hlt : k < xs.length
    · obtain ⟨b, off, rfl, hbw, c0, c1, c2⟩ := hc k hlt
      rw [← hb.cell (p := ⟨b, _, none⟩) hbw] at c0 c1 c2
      clear hc
      go_wp2_with fail
      refine (toDeed_any (nth De.z xs k) _).mono ?_
      rintro e w1 ⟨rfl, hb1⟩
      have hB1 := hB.below hb1
      have HW : Hid (Below w.heap.size w w1) := hb.trans (hb1.mono hb.size)
      have HA : Hid (∀ j, j < k → w1.cell? ⟨w.heap.size, j * 3, none⟩ = some (.int .i64 (nth De.z xs j).k) ∧ w1.cell? ⟨w.heap.size, j * 3 + 1, none⟩ = some (.int .i64 (nth De.z xs j).a) ∧ w1.cell? ⟨w.heap.size, j * 3 + 2, none⟩ = some (.int .i64 (nth De.z xs j).b)) := fun j hj => by
        rw [hb1.cell (p := ⟨w.heap.size, _, none⟩) hB.1, hb1.cell (p := ⟨w.heap.size, _, none⟩) hB.1, hb1.cell (p := ⟨w.heap.size, _, none⟩) hB.1]; exact hall j hj
      obtain ⟨⟨u0, f0⟩, g0⟩ := hB1.2 (k * 3) (by omega)
      obtain ⟨⟨u1, f1⟩, g1⟩ := hB1.2 (k * 3 + 1) (by omega)
      obtain ⟨⟨u2, f2⟩, g2⟩ := hB1.2 (k * 3 + 2) (by omega)
      have HB : Hid (Blk w1 w.heap.size (xs.length * 3)) := hB1
      clear hB hall hb hb1 hB1 c0 c1 c2
      go_wp2_with fail
      go_roundw
      case rel =>
        refine ⟨k + 1, by omega, by go_num, ((HW.out.setCell (by simp) _).setCell (by simp) _).setCell (by simp) _, ((HB.out.set _ _).set _ _).set _ _, so_far (fun j hj => ?_) ?_⟩
        · rw [set3_out _ _ _ _ _ _ _ (by omega), set3_out _ _ _ _ _ _ _ (by omega), set3_out _ _ _ _ _ _ _ (by omega)]; exact HA.out j hj
        · exact set3_in HB.out (k * 3) (by omega) _ _ _
      case measure => simp [intOf]; omega
    · have HI : Hid (DeedsOn (fun b => w.heap.size ≤ b) wr (.slice (some ⟨w.heap.size, 0, none⟩) xs.length xs.length) xs) :=
        ⟨_, _, rfl, by omega, fun i hi => ⟨_, 0, rfl, Nat.le_refl _, hB.1, by rw [Nat.zero_add]; exact hall i (by omega)⟩⟩
      clear hc hB hall
      go_wp2_with fail
      go_ret
      exact ⟨_, rfl, HI.out, hb⟩

end Go.Proofs.Ythllcbbjibfklaa
