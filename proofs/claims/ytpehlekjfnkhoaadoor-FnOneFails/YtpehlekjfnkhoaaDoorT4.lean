import Derived.Test.YtpehlekjfnkhoaaDoorT3
namespace Go.Proofs.YtpehlekjfnkhoaaDoor
open Go.RowKit

def nsB (xs : List Int) : Bool := xs.all (plB · 100)
set_option maxHeartbeats 400000 in
theorem numsInForm_any (v : Value) (xs : List Int) (w : World) (h : IntsAt w v xs) :
    Calls Tryd.prog 54 #[v] w fun r w' => r = .returned (.bool (nsB xs)) ∧ w' = w := by
  obtain ⟨a, cap, rfl, hm, hc⟩ := h
  go_enter Tryd.func54, Tryd.ntmps54
  go_wp2_with fail
  go_loop [7] (fun i => ∃ k : Nat, k ≤ xs.length ∧ i = .int .i64 k ∧ (∀ j, j < k → plB (nth 0 xs j) 100 = true)) (fun i => xs.length - (intOf i).toNat)
  case atStart => exact ⟨0, Nat.zero_le _, rfl, fun j hj => absurd hj (Nat.not_lt_zero _)⟩
  case round =>
    obtain ⟨k, hk, rfl, hall⟩ := hrel
    by_cases hlt : k < xs.length
    · obtain ⟨b, off, rfl, hbw, c0⟩ := hc k hlt
      cases hd : plB (nth 0 xs k) 100
      · have HF : Hid (nsB xs = false) := not_all_nth 0 (plB · 100) xs k hlt hd
        clear hc hall
        go_wp2_with (go_at_call 65; refine (isPlace_any _ _ _).mono ?_; rintro e w' ⟨rfl, rfl⟩)
        go_ret
        exact ⟨by rw [HF.out]; rfl, rfl⟩
      · have HA : Hid (∀ j, j < k + 1 → plB (nth 0 xs j) 100 = true) := so_far hall hd
        clear hc hall
        go_wp2_with (go_at_call 65; refine (isPlace_any _ _ _).mono ?_; rintro e w' ⟨rfl, rfl⟩)
        go_round
        case rel => exact ⟨k + 1, by omega, by go_num, HA.out⟩
        case measure => simp [intOf]; omega
    · have HF : Hid (nsB xs = true) := all_nth 0 (plB · 100) xs (fun j hj => hall j (by omega))
      clear hall hc
      go_wp2
      go_ret
      exact ⟨by rw [HF.out]; rfl, rfl⟩

set_option maxHeartbeats 400000 in
theorem cellsInForm_any (v : Value) (xs : List Int) (w : World) (h : IntsAt w v xs) :
    Calls Tryd.prog 36 #[v] w fun r w' => r = .returned (.bool (csB xs)) ∧ w' = w := by
  obtain ⟨a, cap, rfl, hm⟩ := h.shape
  have HI := (show Hid (IntsAt _ _ _) from h)
  clear h
  by_cases h5 : xs.length ≤ 3
  · have h5' : decide ((xs.length : Int) ≤ 3) = true := by simp; omega
    have HF : Hid (csB xs = nsB xs) := by simp [Hid, csB, nsB, h5]
    go_enter Tryd.func36, Tryd.ntmps36
    go_wp2_with (go_at_call 54; refine (numsInForm_any _ xs _ HI.out).mono ?_; rintro e w' ⟨rfl, rfl⟩)
    go_ret
    exact ⟨by rw [HF.out]; rfl, rfl⟩
  · have h5' : decide ((xs.length : Int) ≤ 3) = false := by simp; omega
    have HF : Hid (csB xs = false) := by simp [Hid, csB, h5]
    clear HI
    go_enter Tryd.func36, Tryd.ntmps36
    go_wp2
    go_ret
    exact ⟨by rw [HF.out]; rfl, rfl⟩

set_option maxHeartbeats 400000 in
theorem kidsInForm_any (v : Value) (xs : List Int) (body nb : Int) (w : World) (h : IntsAt w v xs) :
    Calls Tryd.prog 67 #[v, .int .i64 body, .int .i64 nb] w fun r w' => r = .returned (.bool (ksB xs body nb)) ∧ w' = w := by
  obtain ⟨a, cap, rfl, hm, hc⟩ := h
  by_cases h1 : xs.length < 1
  · have h1' : decide ((xs.length : Int) < 1) = true := by simp; omega
    have HF : Hid (ksB xs body nb = false) := by simp [Hid, ksB, inB]; omega
    clear hc h1
    go_enter Tryd.func67, Tryd.ntmps67
    go_wp2
    go_ret
    exact ⟨by rw [HF.out]; rfl, rfl⟩
  have h1' : decide ((xs.length : Int) < 1) = false := by simp; omega
  by_cases h2 : 2 < xs.length
  · have h2' : (2 : Int) < xs.length := by omega
    have HF : Hid (ksB xs body nb = false) := by simp [Hid, ksB, inB]; omega
    clear hc h1 h2
    go_enter Tryd.func67, Tryd.ntmps67
    go_wp2
    go_ret
    exact ⟨by rw [HF.out]; rfl, rfl⟩
  have h2' : ¬ (2 : Int) < xs.length := by omega
  go_enter Tryd.func67, Tryd.ntmps67
  go_wp2_with fail
  go_loop [19] (fun i => ∃ k : Nat, k ≤ xs.length ∧ i = .int .i64 k ∧ (∀ j, j < k → kidB body nb (nth 0 xs j) = true)) (fun i => xs.length - (intOf i).toNat)
  case atStart => exact ⟨0, Nat.zero_le _, rfl, fun j hj => absurd hj (Nat.not_lt_zero _)⟩
  case round =>
    obtain ⟨k, hk, rfl, hall⟩ := hrel
    by_cases hlt : k < xs.length
    · obtain ⟨b, off, rfl, hbw, c0⟩ := hc k hlt
      by_cases hd1 : nth 0 xs k ≤ body
      · have HF : Hid (ksB xs body nb = false) := by
          simp [Hid, ksB, not_all_nth 0 (kidB body nb) xs k hlt (by simp [kidB, inB]; omega)]
        have hd1' : decide (nth 0 xs k ≤ body) = true := by simpa using hd1
        clear hc hall h1'
        go_wp2
        go_ret
        exact ⟨by rw [HF.out]; rfl, rfl⟩
      have hd1' : decide (nth 0 xs k ≤ body) = false := by simpa using hd1
      by_cases hd2 : nb ≤ nth 0 xs k
      · have HF : Hid (ksB xs body nb = false) := by
          simp [Hid, ksB, not_all_nth 0 (kidB body nb) xs k hlt (by simp [kidB, inB]; omega)]
        clear hc hall h1' hd1
        go_wp2
        go_ret
        exact ⟨by rw [HF.out]; rfl, rfl⟩
      · have HA : Hid (∀ j, j < k + 1 → kidB body nb (nth 0 xs j) = true) := so_far hall (by simp [kidB, inB]; omega)
        clear hc hall h1' hd1
        go_wp2
        go_round
        case rel => exact ⟨k + 1, by omega, by go_num, HA.out⟩
        case measure => simp [intOf]; omega
    · have HF : Hid (ksB xs body nb = true) := by
        have := all_nth 0 (kidB body nb) xs (fun j hj => hall j (by omega))
        simp [Hid, ksB, this, inB]; omega
      clear hall hc h1'
      go_wp2
      go_ret
      exact ⟨by rw [HF.out]; rfl, rfl⟩

end Go.Proofs.YtpehlekjfnkhoaaDoor
