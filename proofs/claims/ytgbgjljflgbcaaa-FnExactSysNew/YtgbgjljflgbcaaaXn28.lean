import Derived.Test.YtgbgjljflgbcaaaXn27
namespace Go.Proofs.Ytgbgjljflgbcaaa
open Go.RowKit
set_option linter.unusedSimpArgs false
set_option linter.unusedVariables false
set_option maxHeartbeats 400000 in
theorem markIntS_tr (v : Value) (k : Int) (w : World) (h : RowSh 1 w v) (hk0 : 0 ≤ k) (hk : k + (trR 1 v).length ≤ 9223372036854775807) :
    Calls Try.prog 72 #[v, .int .i64 k] w fun e w' => e = .returned (.int .i64 (k + (trR 1 v).length)) ∧ w' = wrT w (trR 1 v) k := by
  obtain ⟨a, n, cap, rfl, hn, hc⟩ := h
  by_cases hz : n = 0
  · subst hz
    have e0 : trR 1 (.slice a 0 cap) = [] := by rcases a with _ | ⟨b, off, _ | s⟩ <;> simp [trR, rowT]
    rw [e0]
    go_enter Try.func72, Try.ntmps72
    go_wp2_with fail
    go_loop [1, 5] (fun t i => i = .int .i64 0 ∧ t = .int .i64 k) (fun _ _ => 0)
    case atStart => exact ⟨rfl, rfl⟩
    case round =>
      obtain ⟨rfl, rfl⟩ := hrel
      go_wp2_with fail
      go_ret
      exact ⟨by simp, rfl⟩
  obtain ⟨b, off, rfl, hbw, hI⟩ := hc 0 (by omega)
  clear hc
  simp only [trR, rowT_len, Nat.mul_one] at hk hI ⊢
  have HI := (show Hid (∀ j, j < n → ICell w _) from hI)
  clear hI
  go_enter Try.func72, Try.ntmps72
  go_wp2_with fail
  go_loopw [1, 5] (fun t i w' => ∃ j : Nat, j ≤ n ∧ i = .int .i64 j ∧ t = .int .i64 (k + j) ∧ w' = wrT w (rowT b off j) k) (fun _ i _ => n - (intOf i).toNat)
  case atStart => exact ⟨0, Nat.zero_le _, rfl, by simp, rfl⟩
  case round =>
    obtain ⟨j, hj, rfl, rfl, hw⟩ := hrel
    by_cases hlt : j < n
    · have hS : IntSet w wr := by rw [hw]; exact wrT_set (fun a ha => by obtain ⟨i, hi, rfl⟩ := rowT_mem.1 ha; exact HI.out i (by omega)) k
      obtain ⟨⟨z, f0⟩, f1⟩ := hS.ints _ (HI.out j hlt)
      have HW := (show Hid (wr = _) from hw)
      clear hw hS
      go_wp2_with fail
      go_roundw
      case rel =>
        refine ⟨j + 1, by omega, by go_num, by go_num, ?_⟩
        rw [rowT, wrT_one, ← HW.out, rowT_len]
      case measure => simp [intOf]; omega
    · have he : j = n := by omega
      subst he
      have HW := (show Hid (wr = _) from hw)
      clear hw
      go_wp2_with fail
      go_ret
      exact ⟨rfl, HW.out⟩
set_option maxHeartbeats 400000 in
theorem heldIntS_tr (v : Value) (k : Int) (w : World) (h : RowSh 1 w v) (hH : HeldT w (trR 1 v) k) (hk0 : 0 ≤ k) (hk : k + (trR 1 v).length ≤ 9223372036854775807) :
    Calls Try.prog 117 #[v, .int .i64 k] w fun e w' => e = .returned (.int .i64 (k + (trR 1 v).length)) ∧ w' = w := by
  obtain ⟨a, n, cap, rfl, hn, hc⟩ := h
  by_cases hz : n = 0
  · subst hz
    have e0 : trR 1 (.slice a 0 cap) = [] := by rcases a with _ | ⟨b, off, _ | s⟩ <;> simp [trR, rowT]
    rw [e0]
    clear hH
    go_enter Try.func117, Try.ntmps117
    go_wp2_with fail
    go_loop [1, 5] (fun t i => i = .int .i64 0 ∧ t = .int .i64 k) (fun _ _ => 0)
    case atStart => exact ⟨rfl, rfl⟩
    case round =>
      obtain ⟨rfl, rfl⟩ := hrel
      go_wp2_with fail
      go_ret
      exact ⟨by simp, rfl⟩
  obtain ⟨b, off, rfl, hbw, hI⟩ := hc 0 (by omega)
  clear hc hI
  simp only [trR, rowT_len, Nat.mul_one] at hk hH ⊢
  have HH := (show Hid (∀ j, j < n → _) from fun j hj => rowT_held hH j hj)
  clear hH
  go_enter Try.func117, Try.ntmps117
  go_wp2_with fail
  go_loop [1, 5] (fun t i => ∃ j : Nat, j ≤ n ∧ i = .int .i64 j ∧ t = .int .i64 (k + j)) (fun _ i => n - (intOf i).toNat)
  case atStart => exact ⟨0, Nat.zero_le _, rfl, by simp⟩
  case round =>
    obtain ⟨j, hj, rfl, rfl⟩ := hrel
    by_cases hlt : j < n
    · have c0 := HH.out j hlt
      go_wp2_with fail
      go_round
      case rel => exact ⟨j + 1, by omega, by go_num, by go_num⟩
      case measure => simp [intOf]; omega
    · have he : j = n := by omega
      subst he
      go_wp2_with fail
      go_ret
      exact ⟨rfl, rfl⟩
set_option maxHeartbeats 1000000 in
theorem markDeedS_tr (v : Value) (k : Int) (w : World) (h : RowSh 3 w v) (hk0 : 0 ≤ k) (hk : k + (trR 3 v).length ≤ 9223372036854775807) :
    Calls Try.prog 141 #[v, .int .i64 k] w fun e w' => e = .returned (.int .i64 (k + (trR 3 v).length)) ∧ w' = wrT w (trR 3 v) k := by
  obtain ⟨a, n, cap, rfl, hn, hc⟩ := h
  by_cases hz : n = 0
  · subst hz
    have e0 : trR 3 (.slice a 0 cap) = [] := by rcases a with _ | ⟨b, off, _ | s⟩ <;> simp [trR, rowT]
    rw [e0]
    go_enter Try.func141, Try.ntmps141
    go_wp2_with fail
    go_loop [1, 5] (fun t i => i = .int .i64 0 ∧ t = .int .i64 k) (fun _ _ => 0)
    case atStart => exact ⟨rfl, rfl⟩
    case round =>
      obtain ⟨rfl, rfl⟩ := hrel
      go_wp2_with fail
      go_ret
      exact ⟨by simp, rfl⟩
  obtain ⟨b, off, rfl, hbw, hI⟩ := hc 0 (by omega)
  clear hc
  simp only [trR, rowT_len] at hk hI ⊢
  have HI := (show Hid (∀ j, j < n * 3 → ICell w _) from hI)
  clear hI
  go_enter Try.func141, Try.ntmps141
  go_wp2_with fail
  go_loopw [1, 5] (fun t i w' => ∃ j : Nat, j ≤ n ∧ i = .int .i64 j ∧ t = .int .i64 (k + ((j * 3 : Nat) : Int)) ∧ w' = wrT w (rowT b off (j * 3)) k) (fun _ i _ => n - (intOf i).toNat)
  case atStart => exact ⟨0, Nat.zero_le _, rfl, by simp, rfl⟩
  case round =>
    obtain ⟨j, hj, rfl, rfl, hw⟩ := hrel
    by_cases hlt : j < n
    · have hS : IntSet w wr := by rw [hw]; exact wrT_set (fun a ha => by obtain ⟨i, hi, rfl⟩ := rowT_mem.1 ha; exact HI.out i (by omega)) k
      obtain ⟨⟨z0, f0⟩, g0⟩ := hS.ints _ (HI.out (j * 3) (by omega))
      obtain ⟨⟨z1, f1⟩, g1⟩ := hS.ints _ (HI.out (j * 3 + 1) (by omega))
      obtain ⟨⟨z2, f2⟩, g2⟩ := hS.ints _ (HI.out (j * 3 + 2) (by omega))
      rw [← Nat.add_assoc] at f1 g1 f2 g2
      have HW := (show Hid (wr = _) from hw)
      clear hw hS
      go_wp2_with fail
      go_roundw
      case rel =>
        refine ⟨j + 1, by omega, by go_num, by go_num, ?_⟩
        rw [wrT_row3, ← HW.out]
        push_cast
        rfl
      case measure => simp [intOf]; omega
    · have he : j = n := by omega
      subst he
      have HW := (show Hid (wr = _) from hw)
      clear hw
      go_wp2_with fail
      go_ret
      exact ⟨rfl, HW.out⟩
end Go.Proofs.Ytgbgjljflgbcaaa
