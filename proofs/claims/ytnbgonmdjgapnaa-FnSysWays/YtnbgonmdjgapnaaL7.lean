/-
  Lists of numbers that are looked at (out of g1, for seats without changes).
-/
import Derived.Test.YtnbgonmdjgapnaaBase36
import Derived.Test.YtnbgonmdjgapnaaBase02
import Derived.Deep.QuietTactic
import Derived.BigQuiet
import Derived.Deep.Draws
namespace Go.Proofs.Ytnbgonmdjgapnaa
open Go.RowKit
set_option linter.unusedSimpArgs false
set_option linter.unusedVariables false

def hasB (xs : List Int) (n : Int) : Bool := decide (n ∈ xs)
def upL (xs : List Int) : Bool := (List.range (xs.length - 1)).all fun i => decide (nth 0 xs i < nth 0 xs (i + 1))
theorem hasB_yes {xs : List Int} {n : Int} {k : Nat} (hk : k < xs.length) (h : nth 0 xs k = n) : hasB xs n = true := by
  unfold hasB; rw [decide_eq_true_eq, ← h]; exact nth_mem 0 xs k hk
theorem hasB_no {xs : List Int} {n : Int} (h : ∀ j, j < xs.length → nth 0 xs j ≠ n) : hasB xs n = false := by
  unfold hasB; rw [decide_eq_false_iff_not]
  intro hm
  obtain ⟨j, hj, e⟩ := List.getElem_of_mem hm
  exact h j hj (by rw [nth_eq 0 xs j hj]; exact e)

set_option maxHeartbeats 400000 in
theorem lqHas_any (v : Value) (xs : List Int) (n : Int) (w : World) (h : IntsAt w v xs) :
    Calls Try.prog 47 #[v, .int .i64 n] w fun r w' => r = .returned (.bool (hasB xs n)) ∧ w' = w := by
  obtain ⟨a, cap, rfl, hm, hc⟩ := h
  go_enter Try.func47, Try.ntmps47
  go_wp2_with fail
  go_loop [5] (fun i => ∃ k : Nat, k ≤ xs.length ∧ i = .int .i64 k ∧ (∀ j, j < k → nth 0 xs j ≠ n)) (fun i => xs.length - (intOf i).toNat)
  case atStart => exact ⟨0, Nat.zero_le _, rfl, fun j hj => absurd hj (Nat.not_lt_zero _)⟩
  case round =>
    obtain ⟨k, hk, rfl, hall⟩ := hrel
    by_cases hlt : k < xs.length
    · obtain ⟨b, off, rfl, hbw, c0⟩ := hc k hlt
      by_cases he : nth 0 xs k = n
      · have he' : (nth 0 xs k == n) = true := by simp [he]
        have HF : Hid (hasB xs n = true) := hasB_yes hlt he
        clear hc hall he
        go_wp2_with fail
        go_ret
        exact ⟨by rw [HF.out]; rfl, rfl⟩
      · have he' : (nth 0 xs k == n) = false := by simp [he]
        have HA : Hid (∀ j, j < k + 1 → nth 0 xs j ≠ n) := so_far hall he
        clear hc hall
        go_wp2_with fail
        go_round
        case rel => exact ⟨k + 1, by omega, by go_num, HA.out⟩
        case measure => simp [intOf]; omega
    · have HF : Hid (hasB xs n = false) := hasB_no (fun j hj => hall j (by omega))
      clear hall hc
      go_wp2
      go_ret
      exact ⟨by rw [HF.out]; rfl, rfl⟩


set_option maxHeartbeats 400000 in
theorem lqUp_any (v : Value) (xs : List Int) (w : World) (h : IntsAt w v xs) :
    Calls Try.prog 48 #[v] w fun r w' => r = .returned (.bool (upL xs)) ∧ Below w.heap.size w w' := by
  obtain ⟨a, cap, rfl, hm, hc⟩ := h
  go_enter Try.func48, Try.ntmps48
  go_wp2_with fail
  go_loopw [3] (fun i w' => ∃ m : Nat, (m = 0 ∨ m < xs.length) ∧ i = .int .i64 ((m : Int) + 1) ∧ (∀ j, j < m → nth 0 xs j < nth 0 xs (j + 1)) ∧ Below w.heap.size w w') (fun i _ => xs.length - (intOf i).toNat)
  case atStart => exact ⟨0, .inl rfl, by simp, fun j hj => absurd hj (Nat.not_lt_zero _), Below.refl _ _⟩
  case round =>
    obtain ⟨m, hml, rfl, hall, hb⟩ := hrel
    have HB := (show Hid (Below _ _ _) from hb)
    by_cases hlt : m + 1 < xs.length
    · have hlt' : (m : Int) + 1 < (xs.length : Int) := by omega
      have hlt2 : (m : Int) < (xs.length : Int) := by omega
      obtain ⟨b, off, rfl, hbw, c0⟩ := hc m (by omega)
      obtain ⟨b', off', e', hbw', c1⟩ := hc (m + 1) hlt
      injection e' with e2
      injection e2 with e3 e4
      subst e3 e4
      rw [← hb.cell (p := ⟨b, _, none⟩) hbw] at c0 c1
      by_cases he : nth 0 xs m < nth 0 xs (m + 1)
      · have he' : ¬ (nth 0 xs (m + 1) ≤ nth 0 xs m) := by omega
        have HA : Hid (∀ j, j < m + 1 → nth 0 xs j < nth 0 xs (j + 1)) := so_far hall he
        clear hc hall hb
        go_wp2_with fail
        go_quiet (fail)
        go_wp2_with fail
        go_roundw
        case rel => exact ⟨m + 1, .inr hlt, by go_num, HA.out, below_drewN HB.out _⟩
        case measure => simp [intOf]; omega
      · have he' : nth 0 xs (m + 1) ≤ nth 0 xs m := by omega
        have HF : Hid (upL xs = false) := by
          unfold Hid upL
          rw [List.all_eq_false]
          exact ⟨m, List.mem_range.2 (by omega), by simpa using he⟩
        clear hc hall hb
        go_wp2_with fail
        go_quiet (fail)
        go_wp2_with fail
        go_ret
        exact ⟨by rw [HF.out]; rfl, below_drewN HB.out _⟩
    · have hlt' : ¬ (m : Int) + 1 < (xs.length : Int) := by omega
      have HF : Hid (upL xs = true) := by
        unfold Hid upL
        rw [List.all_eq_true]
        intro i hi
        have := List.mem_range.1 hi
        simpa using hall i (by omega)
      clear hc hall hb
      go_wp2_with fail
      go_ret
      exact ⟨by rw [HF.out]; rfl, HB.out⟩


end Go.Proofs.Ytnbgonmdjgapnaa
