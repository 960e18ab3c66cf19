import Derived.Test.YtgbgjljflgbcaaaXn28
import Derived.Test.YtgbgjljflgbcaaaXn15
namespace Go.Proofs.Ytgbgjljflgbcaaa
open Go.RowKit
set_option linter.unusedSimpArgs false
set_option linter.unusedVariables false
set_option maxRecDepth 20000
theorem IntSet.set' {w w' : World} (h : IntSet w w') {a : Addr} (ha : ICell w a) (k : Int) : IntSet w (w'.setCell a (.int .i64 k)) := h.trans (IntSet.set (h.ints a ha) k)
theorem wrT_row2' (w : World) (b off n : Nat) (k : Int) : wrT w (rowT b off ((n + 1) * 2)) k = (((wrT w (rowT b off (n * 2)) k).setCell ⟨b, off + n * 2, none⟩ (.int .i64 (k + ((n * 2 : Nat) : Int)))).setCell ⟨b, off + n * 2 + 1, none⟩ (.int .i64 (k + ((n * 2 : Nat) : Int) + 1))) := by
  rw [show (n + 1) * 2 = n * 2 + 1 + 1 by omega]
  simp only [rowT, wrT_one, List.length_append, rowT_len, List.length_singleton]
  all_goals (repeat (first | rfl | (congr 1; try (push_cast; omega))))
set_option maxHeartbeats 1000000 in
theorem markPutS_tr (v : Value) (k : Int) (w : World) (h : RowSh 2 w v) (hk0 : 0 ≤ k) (hk : k + (trR 2 v).length ≤ 9223372036854775807) :
    Calls Try.prog 116 #[v, .int .i64 k] w fun e w' => e = .returned (.int .i64 (k + (trR 2 v).length)) ∧ w' = wrT w (trR 2 v) k := by
  obtain ⟨a, n, cap, rfl, hn, hc⟩ := h
  by_cases hz : n = 0
  · subst hz
    have e0 : trR 2 (.slice a 0 cap) = [] := by rcases a with _ | ⟨b, off, _ | s⟩ <;> simp [trR, rowT]
    rw [e0]
    go_enter Try.func116, Try.ntmps116
    go_wp2_with fail
    go_loop [1, 5] (fun t i => i = .int .i64 0 ∧ t = .int .i64 k) (fun _ _ => 0)
    case atStart => exact ⟨rfl, rfl⟩
    case round =>
      obtain ⟨rfl, rfl⟩ := hrel
      go_wp2_with fail
      go_ret
      exact ⟨by simp, rfl⟩
  obtain ⟨b, off, rfl, hbw, hI⟩ := hc 0 (by omega)
  clear hc
  simp only [trR, rowT_len] at hk hI ⊢
  have HI := (show Hid (∀ j, j < n * 2 → ICell w _) from hI)
  clear hI
  go_enter Try.func116, Try.ntmps116
  go_wp2_with fail
  go_loopw [1, 5] (fun t i w' => ∃ j : Nat, j ≤ n ∧ i = .int .i64 j ∧ t = .int .i64 (k + ((j * 2 : Nat) : Int)) ∧ w' = wrT w (rowT b off (j * 2)) k) (fun _ i _ => n - (intOf i).toNat)
  case atStart => exact ⟨0, Nat.zero_le _, rfl, by simp, rfl⟩
  case round =>
    obtain ⟨j, hj, rfl, rfl, hw⟩ := hrel
    by_cases hlt : j < n
    · have hS : IntSet w wr := by rw [hw]; exact wrT_set (fun a ha => by obtain ⟨i, hi, rfl⟩ := rowT_mem.1 ha; exact HI.out i (by omega)) k
      obtain ⟨⟨z0, f0⟩, g0⟩ := hS.ints _ (HI.out (j * 2) (by omega))
      obtain ⟨⟨z1, f1⟩, g1⟩ := hS.ints _ (HI.out (j * 2 + 1) (by omega))
      rw [← Nat.add_assoc] at f1 g1
      have HW := (show Hid (wr = _) from hw)
      clear hw hS
      go_wp2_with fail
      go_roundw
      case rel =>
        refine ⟨j + 1, by omega, by go_num, by go_num, ?_⟩
        rw [wrT_row2', ← HW.out]
        push_cast
        rfl
      case measure => simp [intOf]; omega
    · have he : j = n := by omega
      subst he
      have HW := (show Hid (wr = _) from hw)
      clear hw
      go_wp2_with fail
      go_ret
      exact ⟨rfl, HW.out⟩
set_option maxHeartbeats 1000000 in
theorem heldPutS_tr (v : Value) (k : Int) (w : World) (h : RowSh 2 w v) (hH : HeldT w (trR 2 v) k) (hk0 : 0 ≤ k) (hk : k + (trR 2 v).length ≤ 9223372036854775807) :
    Calls Try.prog 118 #[v, .int .i64 k] w fun e w' => e = .returned (.int .i64 (k + (trR 2 v).length)) ∧ w' = w := by
  obtain ⟨a, n, cap, rfl, hn, hc⟩ := h
  by_cases hz : n = 0
  · subst hz
    have e0 : trR 2 (.slice a 0 cap) = [] := by rcases a with _ | ⟨b, off, _ | s⟩ <;> simp [trR, rowT]
    rw [e0]
    clear hH
    go_enter Try.func118, Try.ntmps118
    go_wp2_with fail
    go_loop [1, 5] (fun t i => i = .int .i64 0 ∧ t = .int .i64 k) (fun _ _ => 0)
    case atStart => exact ⟨rfl, rfl⟩
    case round =>
      obtain ⟨rfl, rfl⟩ := hrel
      go_wp2_with fail
      go_ret
      exact ⟨by simp, rfl⟩
  obtain ⟨b, off, rfl, hbw, hI⟩ := hc 0 (by omega)
  clear hc hI
  simp only [trR, rowT_len] at hk hH ⊢
  have HH := (show Hid (∀ j, j < n * 2 → _) from fun j hj => rowT_held hH j hj)
  clear hH
  go_enter Try.func118, Try.ntmps118
  go_wp2_with fail
  go_loop [1, 5] (fun t i => ∃ j : Nat, j ≤ n ∧ i = .int .i64 j ∧ t = .int .i64 (k + ((j * 2 : Nat) : Int))) (fun _ i => n - (intOf i).toNat)
  case atStart => exact ⟨0, Nat.zero_le _, rfl, by simp⟩
  case round =>
    obtain ⟨j, hj, rfl, rfl⟩ := hrel
    by_cases hlt : j < n
    · have c0 := HH.out (j * 2) (by omega)
      have c1 := HH.out (j * 2 + 1) (by omega)
      rw [← Nat.add_assoc] at c1
      rw [show k + ((j * 2 + 1 : Nat) : Int) = k + ((j * 2 : Nat) : Int) + 1 by push_cast; omega] at c1
      go_wp2_with fail
      go_round
      case rel => exact ⟨j + 1, by omega, by go_num, by go_num⟩
      case measure => simp [intOf]; omega
    · have he : j = n := by omega
      subst he
      go_wp2_with fail
      go_ret
      exact ⟨rfl, rfl⟩
theorem wrT_row3' (w : World) (b off n : Nat) (k : Int) : wrT w (rowT b off ((n + 1) * 3)) k = ((((wrT w (rowT b off (n * 3)) k).setCell ⟨b, off + n * 3, none⟩ (.int .i64 (k + ((n * 3 : Nat) : Int)))).setCell ⟨b, off + n * 3 + 1, none⟩ (.int .i64 (k + ((n * 3 : Nat) : Int) + 1))).setCell ⟨b, off + n * 3 + 2, none⟩ (.int .i64 (k + ((n * 3 : Nat) : Int) + 1 + 1))) := by
  rw [show (n + 1) * 3 = n * 3 + 1 + 1 + 1 by omega]
  simp only [rowT, wrT_one, List.length_append, rowT_len, List.length_singleton]
  all_goals (repeat (first | rfl | (congr 1; try (push_cast; omega))))
set_option maxHeartbeats 1000000 in
theorem markCellS_tr (v : Value) (k : Int) (w : World) (h : RowSh 3 w v) (hk0 : 0 ≤ k) (hk : k + (trR 3 v).length ≤ 9223372036854775807) :
    Calls Try.prog 74 #[v, .int .i64 k] w fun e w' => e = .returned (.int .i64 (k + (trR 3 v).length)) ∧ w' = wrT w (trR 3 v) k := by
  obtain ⟨a, n, cap, rfl, hn, hc⟩ := h
  by_cases hz : n = 0
  · subst hz
    have e0 : trR 3 (.slice a 0 cap) = [] := by rcases a with _ | ⟨b, off, _ | s⟩ <;> simp [trR, rowT]
    rw [e0]
    go_enter Try.func74, Try.ntmps74
    go_wp2_with fail
    go_loop [1, 5] (fun t i => i = .int .i64 0 ∧ t = .int .i64 k) (fun _ _ => 0)
    case atStart => exact ⟨rfl, rfl⟩
    case round =>
      obtain ⟨rfl, rfl⟩ := hrel
      go_wp2_with fail
      go_ret
      exact ⟨by simp, rfl⟩
  obtain ⟨b, off, rfl, hbw, hI⟩ := hc 0 (by omega)
  clear hc
  simp only [trR, rowT_len] at hk hI ⊢
  have HI := (show Hid (∀ j, j < n * 3 → ICell w _) from hI)
  clear hI
  go_enter Try.func74, Try.ntmps74
  go_wp2_with fail
  go_loopw [1, 5] (fun t i w' => ∃ j : Nat, j ≤ n ∧ i = .int .i64 j ∧ t = .int .i64 (k + ((j * 3 : Nat) : Int)) ∧ w' = wrT w (rowT b off (j * 3)) k) (fun _ i _ => n - (intOf i).toNat)
  case atStart => exact ⟨0, Nat.zero_le _, rfl, by simp, rfl⟩
  case round =>
    obtain ⟨j, hj, rfl, rfl, hw⟩ := hrel
    by_cases hlt : j < n
    · have hS : IntSet w wr := by rw [hw]; exact wrT_set (fun a ha => by obtain ⟨i, hi, rfl⟩ := rowT_mem.1 ha; exact HI.out i (by omega)) k
      obtain ⟨⟨z0, f0⟩, g0⟩ := hS.ints _ (HI.out (j * 3) (by omega))
      obtain ⟨⟨z1, f1⟩, g1⟩ := hS.ints _ (HI.out (j * 3 + 1) (by omega))
      obtain ⟨⟨z2, f2⟩, g2⟩ := hS.ints _ (HI.out (j * 3 + 2) (by omega))
      rw [← Nat.add_assoc] at f1 g1 f2 g2
      have HW := (show Hid (wr = _) from hw)
      clear hw hS
      go_wp2_with fail
      go_roundw
      case rel =>
        refine ⟨j + 1, by omega, by go_num, by go_num, ?_⟩
        rw [wrT_row3', ← HW.out]
        push_cast
        rfl
      case measure => simp [intOf]; omega
    · have he : j = n := by omega
      subst he
      have HW := (show Hid (wr = _) from hw)
      clear hw
      go_wp2_with fail
      go_ret
      exact ⟨rfl, HW.out⟩
set_option maxHeartbeats 1000000 in
theorem heldCellS_tr (v : Value) (k : Int) (w : World) (h : RowSh 3 w v) (hH : HeldT w (trR 3 v) k) (hk0 : 0 ≤ k) (hk : k + (trR 3 v).length ≤ 9223372036854775807) :
    Calls Try.prog 77 #[v, .int .i64 k] w fun e w' => e = .returned (.int .i64 (k + (trR 3 v).length)) ∧ w' = w := by
  obtain ⟨a, n, cap, rfl, hn, hc⟩ := h
  by_cases hz : n = 0
  · subst hz
    have e0 : trR 3 (.slice a 0 cap) = [] := by rcases a with _ | ⟨b, off, _ | s⟩ <;> simp [trR, rowT]
    rw [e0]
    clear hH
    go_enter Try.func77, Try.ntmps77
    go_wp2_with fail
    go_loop [1, 5] (fun t i => i = .int .i64 0 ∧ t = .int .i64 k) (fun _ _ => 0)
    case atStart => exact ⟨rfl, rfl⟩
    case round =>
      obtain ⟨rfl, rfl⟩ := hrel
      go_wp2_with fail
      go_ret
      exact ⟨by simp, rfl⟩
  obtain ⟨b, off, rfl, hbw, hI⟩ := hc 0 (by omega)
  clear hc hI
  simp only [trR, rowT_len] at hk hH ⊢
  have HH := (show Hid (∀ j, j < n * 3 → _) from fun j hj => rowT_held hH j hj)
  clear hH
  go_enter Try.func77, Try.ntmps77
  go_wp2_with fail
  go_loop [1, 5] (fun t i => ∃ j : Nat, j ≤ n ∧ i = .int .i64 j ∧ t = .int .i64 (k + ((j * 3 : Nat) : Int))) (fun _ i => n - (intOf i).toNat)
  case atStart => exact ⟨0, Nat.zero_le _, rfl, by simp⟩
  case round =>
    obtain ⟨j, hj, rfl, rfl⟩ := hrel
    by_cases hlt : j < n
    · have c0 := HH.out (j * 3) (by omega)
      have c1 := HH.out (j * 3 + 1) (by omega)
      have c2 := HH.out (j * 3 + 2) (by omega)
      rw [← Nat.add_assoc] at c1 c2
      rw [show k + ((j * 3 + 1 : Nat) : Int) = k + ((j * 3 : Nat) : Int) + 1 by push_cast; omega] at c1
      rw [show k + ((j * 3 + 2 : Nat) : Int) = k + ((j * 3 : Nat) : Int) + 1 + 1 by push_cast; omega] at c2
      go_wp2_with fail
      go_round
      case rel => exact ⟨j + 1, by omega, by go_num, by go_num⟩
      case measure => simp [intOf]; omega
    · have he : j = n := by omega
      subst he
      go_wp2_with fail
      go_ret
      exact ⟨rfl, rfl⟩
end Go.Proofs.Ytgbgjljflgbcaaa
