import Derived.Test.YthllcbbjibfklaaT3
namespace Go.Proofs.Ythllcbbjibfklaa
open Go.RowKit

def nsB (xs : List Int) : Bool := xs.all (plB · 100)
set_option maxHeartbeats 400000 in
theorem numsInForm_any (v : Value) (xs : List Int) (w : World) (h : IntsAt w v xs) :
    Calls Try.prog 48 #[v] w fun r w' => r = .returned (.bool (nsB xs)) ∧ w' = w := by
  obtain ⟨a, cap, rfl, hm, hc⟩ := h
  go_enter Try.func48, Try.ntmps48
  go_wp2_with fail
  go_loop [7] (fun i => ∃ k : Nat, k ≤ xs.length ∧ i = .int .i64 k ∧ (∀ j, j < k → plB (nth 0 xs j) 100 = true)) (fun i => xs.length - (intOf i).toNat)
  case atStart => exact ⟨0, Nat.zero_le _, rfl, fun j hj => absurd hj (Nat.not_lt_zero _)⟩
  case round =>
    obtain ⟨k, hk, rfl, hall⟩ := hrel
    by_cases hlt : k < xs.length
    · obtain ⟨b, off, rfl, hbw, c0⟩ := hc k hlt
      cases hd : plB (nth 0 xs k) 100
      · have HF : Hid (nsB xs = false) := not_all_nth 0 (plB · 100) xs k hlt hd
        clear hc hall
        go_wp2_with (go_at_call 49; refine (isPlace_any _ _ _).mono ?_; rintro e w' ⟨rfl, rfl⟩)
        go_ret
        exact ⟨by rw [HF.out]; rfl, rfl⟩
      · have HA : Hid (∀ j, j < k + 1 → plB (nth 0 xs j) 100 = true) := so_far hall hd
        clear hc hall
        go_wp2_with (go_at_call 49; refine (isPlace_any _ _ _).mono ?_; rintro e w' ⟨rfl, rfl⟩)
        go_round
        case rel => exact ⟨k + 1, by omega, by go_num, HA.out⟩
        case measure => simp [intOf]; omega
    · have HF : Hid (nsB xs = true) := all_nth 0 (plB · 100) xs (fun j hj => hall j (by omega))
      clear hall hc
      go_wp2
      go_ret
      exact ⟨by rw [HF.out]; rfl, rfl⟩

set_option maxHeartbeats 400000 in
theorem cellsInForm_any (v : Value) (xs : List Int) (w : World) (h : IntsAt w v xs) :
    Calls Try.prog 36 #[v] w fun r w' => r = .returned (.bool (csB xs)) ∧ w' = w := by
  obtain ⟨a, cap, rfl, hm⟩ := h.shape
  have HI := (show Hid (IntsAt _ _ _) from h)
  clear h
  by_cases h5 : xs.length ≤ 3
  · have h5' : decide ((xs.length : Int) ≤ 3) = true := by simp; omega
    have HF : Hid (csB xs = nsB xs) := by simp [Hid, csB, nsB, h5]
    go_enter Try.func36, Try.ntmps36
    go_wp2_with (go_at_call 48; refine (numsInForm_any _ xs _ HI.out).mono ?_; rintro e w' ⟨rfl, rfl⟩)
    go_ret
    exact ⟨by rw [HF.out]; rfl, rfl⟩
  · have h5' : decide ((xs.length : Int) ≤ 3) = false := by simp; omega
    have HF : Hid (csB xs = false) := by simp [Hid, csB, h5]
    clear HI
    go_enter Try.func36, Try.ntmps36
    go_wp2
    go_ret
    exact ⟨by rw [HF.out]; rfl, rfl⟩

end Go.Proofs.Ythllcbbjibfklaa
