/-
  Copies of systems (by mky.py).
-/
import Derived.Test.YteebdfifbmpmhaaY1a
namespace Go.Proofs.Yteebdfifbmpmhaa
open Go.RowKit
set_option linter.unusedSimpArgs false
set_option linter.unusedVariables false
set_option maxRecDepth 20000
set_option maxHeartbeats 1000000 in
theorem toTaskS_th (v : Value) (xs : List Ta) (w : World) (h : TasAt w v xs) (hsm : SmsTa xs) :
    Calls Try.prog 54 #[v] w fun r w' => ∃ v', r = .returned v' ∧ TasOn (fun b => w.heap.size ≤ b) w' v' xs ∧ Below w.heap.size w w' ∧ Fz w w' := by
  obtain ⟨a, cap, rfl, hm, hc⟩ := h
  obtain ⟨hn, hsj⟩ := hsm
  have info : (Try.prog.info? 61).map (fun i => (i.zero, i.size, i.bytes)) = some (some (.agg #[.int .i64 0, .int .i64 0, .int .i64 0, .slice none 0 0, .int .i64 0, .int .i64 0, .int .i64 0, .int .i64 0, .slice none 0 0, .slice none 0 0, .slice none 0 0, .int .i64 0, .int .i64 0]), 13, 168) := by kernel_rfl
  obtain ⟨M, hM, hmk⟩ := make_any (P := Try.prog) 28 61 _ 13 168 Try.underlying28 info xs.length (by omega) (by omega)
  clear info
  go_enter Try.func54, Try.ntmps54
  go_wp2_with fail
  go_loopw [4] (fun q w' => ∃ k : Nat, k ≤ xs.length ∧ q = .int .i64 k ∧ Below w.heap.size w w' ∧ Fz w w' ∧ Blk w' w.heap.size (xs.length * 13) ∧ (∀ j, j < k → ∃ v3 v8 v9 v10, w'.cell? ⟨w.heap.size, j * 13, none⟩ = some (.int .i64 (nth Ta.z xs j).body) ∧ w'.cell? ⟨w.heap.size, j * 13 + 1, none⟩ = some (.int .i64 (nth Ta.z xs j).pc) ∧ w'.cell? ⟨w.heap.size, j * 13 + 2, none⟩ = some (.int .i64 (nth Ta.z xs j).up) ∧ w'.cell? ⟨w.heap.size, j * 13 + 3, none⟩ = some (v3) ∧ w'.cell? ⟨w.heap.size, j * 13 + 4, none⟩ = some (.int .i64 (nth Ta.z xs j).way) ∧ w'.cell? ⟨w.heap.size, j * 13 + 5, none⟩ = some (.int .i64 (nth Ta.z xs j).stage) ∧ w'.cell? ⟨w.heap.size, j * 13 + 6, none⟩ = some (.int .i64 (nth Ta.z xs j).at_) ∧ w'.cell? ⟨w.heap.size, j * 13 + 7, none⟩ = some (.int .i64 (nth Ta.z xs j).since) ∧ w'.cell? ⟨w.heap.size, j * 13 + 8, none⟩ = some (v8) ∧ w'.cell? ⟨w.heap.size, j * 13 + 9, none⟩ = some (v9) ∧ w'.cell? ⟨w.heap.size, j * 13 + 10, none⟩ = some (v10) ∧ w'.cell? ⟨w.heap.size, j * 13 + 11, none⟩ = some (.int .i64 (nth Ta.z xs j).when_) ∧ w'.cell? ⟨w.heap.size, j * 13 + 12, none⟩ = some (.int .i64 (nth Ta.z xs j).from_) ∧ IntsOn (fun b => w.heap.size + 1 ≤ b) w' v3 (nth Ta.z xs j).regs ∧ IntsOn (fun b => w.heap.size + 1 ≤ b) w' v8 (nth Ta.z xs j).old ∧ PusOn (fun b => w.heap.size + 1 ≤ b) w' v9 (nth Ta.z xs j).reads ∧ PusOn (fun b => w.heap.size + 1 ≤ b) w' v10 (nth Ta.z xs j).puts)) (fun q _ => xs.length - (intOf q).toNat)
  case atStart =>
    have hB := Blk.new w M 61
    rw [hM] at hB
    exact ⟨0, Nat.zero_le _, rfl, (Below.refl _ _).alloc (Nat.le_refl _) _, (Fz.refl _).alloc _ _, hB, fun j hj => absurd hj (Nat.not_lt_zero _)⟩
  clear hmk hM
  case round =>
    obtain ⟨k, hk, rfl, hb, hfz, hB, hall⟩ := hrel
    by_cases hlt : k < xs.length
    · obtain ⟨b, off, v3, v8, v9, v10, rfl, hbw, c0, c1, c2, c3, c4, c5, c6, c7, c8, c9, c10, c11, c12, h3, h8, h9, h10⟩ := hc k hlt
      rw [← hb.cell (p := ⟨b, _, none⟩) hbw] at c0 c1 c2 c3 c4 c5 c6 c7 c8 c9 c10 c11 c12
      obtain ⟨a3, e3, rfl, hm3⟩ := h3.shape
      have H3 := (show Hid (IntsAt _ _ _) from h3.mono hb)
      obtain ⟨a8, e8, rfl, hm8⟩ := h8.shape
      have H8 := (show Hid (IntsAt _ _ _) from h8.mono hb)
      obtain ⟨a9, e9, rfl, hm9⟩ := h9.shape
      have H9 := (show Hid (PusAt _ _ _) from h9.mono hb)
      obtain ⟨a10, e10, rfl, hm10⟩ := h10.shape
      have H10 := (show Hid (PusAt _ _ _) from h10.mono hb)
      have HS := (show Hid (SmTa _) from hsj k hlt)
      clear hc hsj h3 h8 h9 h10
      go_wp2_with fail
      refine (toTask_th (nth Ta.z xs k) _ _ _ _ _ H3.out H8.out H9.out H10.out HS.out.1 HS.out.2.1 HS.out.2.2.1 HS.out.2.2.2).mono ?_
      rintro e w1 ⟨u3, u8, u9, u10, rfl, g3, g8, g9, g10, hb1, hz1⟩
      obtain ⟨b3, d3, rfl, hmm3⟩ := g3.shape
      obtain ⟨b8, d8, rfl, hmm8⟩ := g8.shape
      obtain ⟨b9, d9, rfl, hmm9⟩ := g9.shape
      obtain ⟨b10, d10, rfl, hmm10⟩ := g10.shape
      have hB1 := hB.below hb1
      have HW : Hid (Below w.heap.size w w1) := hb.trans (hb1.mono hb.size)
      have HF : Hid (Fz w w1) := hfz.trans hz1
      have HA : Hid (∀ j, j < k → ∃ v3 v8 v9 v10, w1.cell? ⟨w.heap.size, j * 13, none⟩ = some (.int .i64 (nth Ta.z xs j).body) ∧ w1.cell? ⟨w.heap.size, j * 13 + 1, none⟩ = some (.int .i64 (nth Ta.z xs j).pc) ∧ w1.cell? ⟨w.heap.size, j * 13 + 2, none⟩ = some (.int .i64 (nth Ta.z xs j).up) ∧ w1.cell? ⟨w.heap.size, j * 13 + 3, none⟩ = some (v3) ∧ w1.cell? ⟨w.heap.size, j * 13 + 4, none⟩ = some (.int .i64 (nth Ta.z xs j).way) ∧ w1.cell? ⟨w.heap.size, j * 13 + 5, none⟩ = some (.int .i64 (nth Ta.z xs j).stage) ∧ w1.cell? ⟨w.heap.size, j * 13 + 6, none⟩ = some (.int .i64 (nth Ta.z xs j).at_) ∧ w1.cell? ⟨w.heap.size, j * 13 + 7, none⟩ = some (.int .i64 (nth Ta.z xs j).since) ∧ w1.cell? ⟨w.heap.size, j * 13 + 8, none⟩ = some (v8) ∧ w1.cell? ⟨w.heap.size, j * 13 + 9, none⟩ = some (v9) ∧ w1.cell? ⟨w.heap.size, j * 13 + 10, none⟩ = some (v10) ∧ w1.cell? ⟨w.heap.size, j * 13 + 11, none⟩ = some (.int .i64 (nth Ta.z xs j).when_) ∧ w1.cell? ⟨w.heap.size, j * 13 + 12, none⟩ = some (.int .i64 (nth Ta.z xs j).from_) ∧ IntsOn (fun b => w.heap.size + 1 ≤ b) w1 v3 (nth Ta.z xs j).regs ∧ IntsOn (fun b => w.heap.size + 1 ≤ b) w1 v8 (nth Ta.z xs j).old ∧ PusOn (fun b => w.heap.size + 1 ≤ b) w1 v9 (nth Ta.z xs j).reads ∧ PusOn (fun b => w.heap.size + 1 ≤ b) w1 v10 (nth Ta.z xs j).puts) := fun j hj => by
        obtain ⟨v3, v8, v9, v10, q0, q1, q2, q3, q4, q5, q6, q7, q8, q9, q10, q11, q12, r3, r8, r9, r10⟩ := hall j hj
        rw [← hb1.cell (p := ⟨w.heap.size, _, none⟩) hB.1] at q0 q1 q2 q3 q4 q5 q6 q7 q8 q9 q10 q11 q12
        exact ⟨v3, v8, v9, v10, q0, q1, q2, q3, q4, q5, q6, q7, q8, q9, q10, q11, q12, r3.kept (Kept.below hb1), r8.kept (Kept.below hb1), r9.kept (Kept.below hb1), r10.kept (Kept.below hb1)⟩
      obtain ⟨⟨x0, y0⟩, z0⟩ := hB1.2 (k * 13) (by omega)
      obtain ⟨⟨x1, y1⟩, z1⟩ := hB1.2 (k * 13 + 1) (by omega)
      obtain ⟨⟨x2, y2⟩, z2⟩ := hB1.2 (k * 13 + 2) (by omega)
      obtain ⟨⟨x3, y3⟩, z3⟩ := hB1.2 (k * 13 + 3) (by omega)
      obtain ⟨⟨x4, y4⟩, z4⟩ := hB1.2 (k * 13 + 4) (by omega)
      obtain ⟨⟨x5, y5⟩, z5⟩ := hB1.2 (k * 13 + 5) (by omega)
      obtain ⟨⟨x6, y6⟩, z6⟩ := hB1.2 (k * 13 + 6) (by omega)
      obtain ⟨⟨x7, y7⟩, z7⟩ := hB1.2 (k * 13 + 7) (by omega)
      obtain ⟨⟨x8, y8⟩, z8⟩ := hB1.2 (k * 13 + 8) (by omega)
      obtain ⟨⟨x9, y9⟩, z9⟩ := hB1.2 (k * 13 + 9) (by omega)
      obtain ⟨⟨x10, y10⟩, z10⟩ := hB1.2 (k * 13 + 10) (by omega)
      obtain ⟨⟨x11, y11⟩, z11⟩ := hB1.2 (k * 13 + 11) (by omega)
      obtain ⟨⟨x12, y12⟩, z12⟩ := hB1.2 (k * 13 + 12) (by omega)
      have HB : Hid (Blk w1 w.heap.size (xs.length * 13)) := hB1
      have HU3 : Hid (IntsOn (fun b => w.heap.size + 1 ≤ b) w1 (.slice b3 (nth Ta.z xs k).regs.length d3) (nth Ta.z xs k).regs) := g3.wide (fun b hb' => by have := hB.1; show w.heap.size + 1 ≤ b; have : wr.heap.size ≤ b := hb'; omega)
      have HU8 : Hid (IntsOn (fun b => w.heap.size + 1 ≤ b) w1 (.slice b8 (nth Ta.z xs k).old.length d8) (nth Ta.z xs k).old) := g8.wide (fun b hb' => by have := hB.1; show w.heap.size + 1 ≤ b; have : wr.heap.size ≤ b := hb'; omega)
      have HU9 : Hid (PusOn (fun b => w.heap.size + 1 ≤ b) w1 (.slice b9 (nth Ta.z xs k).reads.length d9) (nth Ta.z xs k).reads) := g9.wide (fun b hb' => by have := hB.1; show w.heap.size + 1 ≤ b; have : wr.heap.size ≤ b := hb'; omega)
      have HU10 : Hid (PusOn (fun b => w.heap.size + 1 ≤ b) w1 (.slice b10 (nth Ta.z xs k).puts.length d10) (nth Ta.z xs k).puts) := g10.wide (fun b hb' => by have := hB.1; show w.heap.size + 1 ≤ b; have : wr.heap.size ≤ b := hb'; omega)
      clear hB hall hb hb1 hz1 hfz hB1 c0 c1 c2 c3 c4 c5 c6 c7 c8 c9 c10 c11 c12 g3 H3 g8 H8 g9 H9 g10 H10 HS
      go_wp2_with fail
      go_roundw
      case rel =>
        have hng : ¬ (fun b => w.heap.size + 1 ≤ b) w.heap.size := by show ¬ (w.heap.size + 1 ≤ w.heap.size); omega
        refine ⟨k + 1, by omega, by go_num, setL_below (i := k * 13) (vs := [.int .i64 (nth Ta.z xs k).body, .int .i64 (nth Ta.z xs k).pc, .int .i64 (nth Ta.z xs k).up, .slice b3 (nth Ta.z xs k).regs.length d3, .int .i64 (nth Ta.z xs k).way, .int .i64 (nth Ta.z xs k).stage, .int .i64 (nth Ta.z xs k).at_, .int .i64 (nth Ta.z xs k).since, .slice b8 (nth Ta.z xs k).old.length d8, .slice b9 (nth Ta.z xs k).reads.length d9, .slice b10 (nth Ta.z xs k).puts.length d10, .int .i64 (nth Ta.z xs k).when_, .int .i64 (nth Ta.z xs k).from_]) HW.out (Nat.le_refl _), setL_fz (i := k * 13) (vs := [.int .i64 (nth Ta.z xs k).body, .int .i64 (nth Ta.z xs k).pc, .int .i64 (nth Ta.z xs k).up, .slice b3 (nth Ta.z xs k).regs.length d3, .int .i64 (nth Ta.z xs k).way, .int .i64 (nth Ta.z xs k).stage, .int .i64 (nth Ta.z xs k).at_, .int .i64 (nth Ta.z xs k).since, .slice b8 (nth Ta.z xs k).old.length d8, .slice b9 (nth Ta.z xs k).reads.length d9, .slice b10 (nth Ta.z xs k).puts.length d10, .int .i64 (nth Ta.z xs k).when_, .int .i64 (nth Ta.z xs k).from_]) HF.out, setL_blk (i := k * 13) (vs := [.int .i64 (nth Ta.z xs k).body, .int .i64 (nth Ta.z xs k).pc, .int .i64 (nth Ta.z xs k).up, .slice b3 (nth Ta.z xs k).regs.length d3, .int .i64 (nth Ta.z xs k).way, .int .i64 (nth Ta.z xs k).stage, .int .i64 (nth Ta.z xs k).at_, .int .i64 (nth Ta.z xs k).since, .slice b8 (nth Ta.z xs k).old.length d8, .slice b9 (nth Ta.z xs k).reads.length d9, .slice b10 (nth Ta.z xs k).puts.length d10, .int .i64 (nth Ta.z xs k).when_, .int .i64 (nth Ta.z xs k).from_]) HB.out, so_far (fun j hj => ?_) ?_⟩
        · have O : ∀ o, o < k * 13 → (setL w1 w.heap.size (k * 13) [.int .i64 (nth Ta.z xs k).body, .int .i64 (nth Ta.z xs k).pc, .int .i64 (nth Ta.z xs k).up, .slice b3 (nth Ta.z xs k).regs.length d3, .int .i64 (nth Ta.z xs k).way, .int .i64 (nth Ta.z xs k).stage, .int .i64 (nth Ta.z xs k).at_, .int .i64 (nth Ta.z xs k).since, .slice b8 (nth Ta.z xs k).old.length d8, .slice b9 (nth Ta.z xs k).reads.length d9, .slice b10 (nth Ta.z xs k).puts.length d10, .int .i64 (nth Ta.z xs k).when_, .int .i64 (nth Ta.z xs k).from_]).cell? ⟨w.heap.size, o, none⟩ = w1.cell? ⟨w.heap.size, o, none⟩ := fun o ho => setL_out _ _ _ _ _ (.inl ho)
          have K : Kept (fun b => w.heap.size + 1 ≤ b) w1 (setL w1 w.heap.size (k * 13) [.int .i64 (nth Ta.z xs k).body, .int .i64 (nth Ta.z xs k).pc, .int .i64 (nth Ta.z xs k).up, .slice b3 (nth Ta.z xs k).regs.length d3, .int .i64 (nth Ta.z xs k).way, .int .i64 (nth Ta.z xs k).stage, .int .i64 (nth Ta.z xs k).at_, .int .i64 (nth Ta.z xs k).since, .slice b8 (nth Ta.z xs k).old.length d8, .slice b9 (nth Ta.z xs k).reads.length d9, .slice b10 (nth Ta.z xs k).puts.length d10, .int .i64 (nth Ta.z xs k).when_, .int .i64 (nth Ta.z xs k).from_]) := setL_kept hng
          obtain ⟨v3, v8, v9, v10, q0, q1, q2, q3, q4, q5, q6, q7, q8, q9, q10, q11, q12, r3, r8, r9, r10⟩ := HA.out j hj
          rw [← O _ (by omega)] at q0
          rw [← O _ (by omega)] at q1
          rw [← O _ (by omega)] at q2
          rw [← O _ (by omega)] at q3
          rw [← O _ (by omega)] at q4
          rw [← O _ (by omega)] at q5
          rw [← O _ (by omega)] at q6
          rw [← O _ (by omega)] at q7
          rw [← O _ (by omega)] at q8
          rw [← O _ (by omega)] at q9
          rw [← O _ (by omega)] at q10
          rw [← O _ (by omega)] at q11
          rw [← O _ (by omega)] at q12
          exact ⟨v3, v8, v9, v10, q0, q1, q2, q3, q4, q5, q6, q7, q8, q9, q10, q11, q12, r3.kept K, r8.kept K, r9.kept K, r10.kept K⟩
        · have I := fun j hj => setL_in (w := w1) (g := w.heap.size) (i := k * 13) (vs := [.int .i64 (nth Ta.z xs k).body, .int .i64 (nth Ta.z xs k).pc, .int .i64 (nth Ta.z xs k).up, .slice b3 (nth Ta.z xs k).regs.length d3, .int .i64 (nth Ta.z xs k).way, .int .i64 (nth Ta.z xs k).stage, .int .i64 (nth Ta.z xs k).at_, .int .i64 (nth Ta.z xs k).since, .slice b8 (nth Ta.z xs k).old.length d8, .slice b9 (nth Ta.z xs k).reads.length d9, .slice b10 (nth Ta.z xs k).puts.length d10, .int .i64 (nth Ta.z xs k).when_, .int .i64 (nth Ta.z xs k).from_]) HB.out (by simp; omega) j hj
          have K : Kept (fun b => w.heap.size + 1 ≤ b) w1 (setL w1 w.heap.size (k * 13) [.int .i64 (nth Ta.z xs k).body, .int .i64 (nth Ta.z xs k).pc, .int .i64 (nth Ta.z xs k).up, .slice b3 (nth Ta.z xs k).regs.length d3, .int .i64 (nth Ta.z xs k).way, .int .i64 (nth Ta.z xs k).stage, .int .i64 (nth Ta.z xs k).at_, .int .i64 (nth Ta.z xs k).since, .slice b8 (nth Ta.z xs k).old.length d8, .slice b9 (nth Ta.z xs k).reads.length d9, .slice b10 (nth Ta.z xs k).puts.length d10, .int .i64 (nth Ta.z xs k).when_, .int .i64 (nth Ta.z xs k).from_]) := setL_kept hng
          exact ⟨_, _, _, _, I 0 (by simp), I 1 (by simp), I 2 (by simp), I 3 (by simp), I 4 (by simp), I 5 (by simp), I 6 (by simp), I 7 (by simp), I 8 (by simp), I 9 (by simp), I 10 (by simp), I 11 (by simp), I 12 (by simp), IntsOn.kept HU3.out K, IntsOn.kept HU8.out K, PusOn.kept HU9.out K, PusOn.kept HU10.out K⟩
      case measure => simp [intOf]; omega
    · have HI : Hid (TasOn (fun b => w.heap.size ≤ b) wr (.slice (some ⟨w.heap.size, 0, none⟩) xs.length xs.length) xs) := by
        refine ⟨_, _, rfl, by omega, fun i hi => ?_⟩
        obtain ⟨v3, v8, v9, v10, q0, q1, q2, q3, q4, q5, q6, q7, q8, q9, q10, q11, q12, r3, r8, r9, r10⟩ := hall i (by omega)
        refine ⟨_, 0, v3, v8, v9, v10, rfl, Nat.le_refl _, hB.1, ?_⟩
        simp only [Nat.zero_add]
        exact ⟨q0, q1, q2, q3, q4, q5, q6, q7, q8, q9, q10, q11, q12, r3.wide (fun b hb' => by show w.heap.size ≤ b; have : w.heap.size + 1 ≤ b := hb'; omega), r8.wide (fun b hb' => by show w.heap.size ≤ b; have : w.heap.size + 1 ≤ b := hb'; omega), r9.wide (fun b hb' => by show w.heap.size ≤ b; have : w.heap.size + 1 ≤ b := hb'; omega), r10.wide (fun b hb' => by show w.heap.size ≤ b; have : w.heap.size + 1 ≤ b := hb'; omega)⟩
      clear hc hB hall hsj
      go_wp2_with fail
      go_ret
      exact ⟨_, rfl, HI.out, hb, hfz⟩

end Go.Proofs.Yteebdfifbmpmhaa
