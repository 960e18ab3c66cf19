import Derived.Test.YtgbgjljflgbcaaaXn03
namespace Go.Proofs.Ytgbgjljflgbcaaa
open Go.RowKit
set_option maxHeartbeats 400000 in
theorem deedsInForm_any (v : Value) (ds : List De) (c : Int) (w : World) (h : DeedsAt w v ds) :
    Calls Try.prog 145 #[v, .int .i64 c] w fun r w' => r = .returned (.bool (dsB ds c)) ∧ Below w.heap.size w w' := by
  obtain ⟨a, cap, rfl, hm, hc⟩ := h
  by_cases h5 : ds.length ≤ 5
  · have h5' : ¬ (5 : Int) < (ds.length : Int) := by omega
    go_enter Try.func145, Try.ntmps145
    go_wp2_with fail
    go_loopw [12] (fun i w' => ∃ k : Nat, k ≤ ds.length ∧ i = .int .i64 k ∧ Below w.heap.size w w' ∧ (∀ j, j < k → deB (nth De.z ds j) c = true)) (fun i _ => ds.length - (intOf i).toNat)
    case atStart => exact ⟨0, Nat.zero_le _, rfl, Below.refl _ _, fun j hj => absurd hj (Nat.not_lt_zero _)⟩
    case round =>
      obtain ⟨k, hk, rfl, hb, hall⟩ := hrel
      by_cases hlt : k < ds.length
      · obtain ⟨b, off, rfl, hbw, c0, c1, c2⟩ := hc k hlt
        rw [← hb.cell (p := ⟨b, _, none⟩) hbw] at c0 c1 c2
        go_wp2_with fail
        refine (deedInForm_any (nth De.z ds k) c _).mono ?_
        rintro e w1 ⟨rfl, hb1⟩
        have HB : Hid (Below w.heap.size w w1) := below_after hb hb.size hb1
        clear hb hb1 c0 c1 c2 hc
        cases hd : deB (nth De.z ds k) c
        · have HF : Hid (dsB ds c = false) := by simp [Hid, dsB, not_all_nth De.z (deB · c) ds k hlt hd]
          clear hd hall
          go_wp2
          go_ret
          exact ⟨by rw [HF.out]; rfl, HB.out⟩
        · have HA : Hid (∀ j, j < k + 1 → deB (nth De.z ds j) c = true) := fun j hj => by
            rcases Nat.lt_succ_iff_lt_or_eq.1 hj with h | rfl
            · exact hall j h
            · exact hd
          clear hd hall
          go_wp2
          go_roundw
          case rel => exact ⟨k + 1, by omega, by go_num, HB.out, HA.out⟩
          case measure => simp [intOf]; omega
      · have HF : Hid (dsB ds c = true) := by
          have := all_nth De.z (deB · c) ds (fun j hj => hall j (by omega))
          simp [Hid, dsB, this, h5]
        clear hall hc
        go_wp2
        go_ret
        exact ⟨by rw [HF.out]; rfl, hb⟩
  · have h5' : (5 : Int) < (ds.length : Int) := by omega
    have HF : Hid (dsB ds c = false) := by simp [Hid, dsB, h5]
    clear hc
    go_enter Try.func145, Try.ntmps145
    go_wp2
    go_ret
    exact ⟨by rw [HF.out]; rfl, Below.refl _ _⟩
end Go.Proofs.Ytgbgjljflgbcaaa

namespace Go.Proofs.Ytgbgjljflgbcaaa
open Go.RowKit
def nsB (xs : List Int) : Bool := xs.all (plB · 100)
set_option maxHeartbeats 400000 in
theorem numsInForm_any (v : Value) (xs : List Int) (w : World) (h : IntsAt w v xs) :
    Calls Try.prog 120 #[v] w fun r w' => r = .returned (.bool (nsB xs)) ∧ w' = w := by
  obtain ⟨a, cap, rfl, hm, hc⟩ := h
  go_enter Try.func120, Try.ntmps120
  go_wp2_with fail
  go_loop [7] (fun i => ∃ k : Nat, k ≤ xs.length ∧ i = .int .i64 k ∧ (∀ j, j < k → plB (nth 0 xs j) 100 = true)) (fun i => xs.length - (intOf i).toNat)
  case atStart => exact ⟨0, Nat.zero_le _, rfl, fun j hj => absurd hj (Nat.not_lt_zero _)⟩
  case round =>
    obtain ⟨k, hk, rfl, hall⟩ := hrel
    by_cases hlt : k < xs.length
    · obtain ⟨b, off, rfl, hbw, c0⟩ := hc k hlt
      cases hd : plB (nth 0 xs k) 100
      · have HF : Hid (nsB xs = false) := not_all_nth 0 (plB · 100) xs k hlt hd
        clear hc hall
        go_wp2_with (go_at_call 45; refine (isPlace_any _ _ _).mono ?_; rintro e w' ⟨rfl, rfl⟩)
        go_ret
        exact ⟨by rw [HF.out]; rfl, rfl⟩
      · have HA : Hid (∀ j, j < k + 1 → plB (nth 0 xs j) 100 = true) := so_far hall hd
        clear hc hall
        go_wp2_with (go_at_call 45; refine (isPlace_any _ _ _).mono ?_; rintro e w' ⟨rfl, rfl⟩)
        go_round
        case rel => exact ⟨k + 1, by omega, by go_num, HA.out⟩
        case measure => simp [intOf]; omega
    · have HF : Hid (nsB xs = true) := all_nth 0 (plB · 100) xs (fun j hj => hall j (by omega))
      clear hall hc
      go_wp2
      go_ret
      exact ⟨by rw [HF.out]; rfl, rfl⟩
set_option maxHeartbeats 400000 in
theorem cellsInForm_any (v : Value) (xs : List Int) (w : World) (h : IntsAt w v xs) :
    Calls Try.prog 83 #[v] w fun r w' => r = .returned (.bool (csB xs)) ∧ w' = w := by
  obtain ⟨a, cap, rfl, hm⟩ := h.shape
  have HI := (show Hid (IntsAt _ _ _) from h)
  clear h
  by_cases h5 : xs.length ≤ 3
  · have h5' : decide ((xs.length : Int) ≤ 3) = true := by simp; omega
    have HF : Hid (csB xs = nsB xs) := by simp [Hid, csB, nsB, h5]
    go_enter Try.func83, Try.ntmps83
    go_wp2_with (go_at_call 120; refine (numsInForm_any _ xs _ HI.out).mono ?_; rintro e w' ⟨rfl, rfl⟩)
    go_ret
    exact ⟨by rw [HF.out]; rfl, rfl⟩
  · have h5' : decide ((xs.length : Int) ≤ 3) = false := by simp; omega
    have HF : Hid (csB xs = false) := by simp [Hid, csB, h5]
    clear HI
    go_enter Try.func83, Try.ntmps83
    go_wp2
    go_ret
    exact ⟨by rw [HF.out]; rfl, rfl⟩
set_option maxHeartbeats 400000 in
theorem kidsInForm_any (v : Value) (xs : List Int) (body nb : Int) (w : World) (h : IntsAt w v xs) :
    Calls Try.prog 146 #[v, .int .i64 body, .int .i64 nb] w fun r w' => r = .returned (.bool (ksB xs body nb)) ∧ w' = w := by
  obtain ⟨a, cap, rfl, hm, hc⟩ := h
  by_cases h1 : xs.length < 1
  · have h1' : decide ((xs.length : Int) < 1) = true := by simp; omega
    have HF : Hid (ksB xs body nb = false) := by simp [Hid, ksB, inB]; omega
    clear hc h1
    go_enter Try.func146, Try.ntmps146
    go_wp2
    go_ret
    exact ⟨by rw [HF.out]; rfl, rfl⟩
  have h1' : decide ((xs.length : Int) < 1) = false := by simp; omega
  by_cases h2 : 2 < xs.length
  · have h2' : (2 : Int) < xs.length := by omega
    have HF : Hid (ksB xs body nb = false) := by simp [Hid, ksB, inB]; omega
    clear hc h1 h2
    go_enter Try.func146, Try.ntmps146
    go_wp2
    go_ret
    exact ⟨by rw [HF.out]; rfl, rfl⟩
  have h2' : ¬ (2 : Int) < xs.length := by omega
  go_enter Try.func146, Try.ntmps146
  go_wp2_with fail
  go_loop [19] (fun i => ∃ k : Nat, k ≤ xs.length ∧ i = .int .i64 k ∧ (∀ j, j < k → kidB body nb (nth 0 xs j) = true)) (fun i => xs.length - (intOf i).toNat)
  case atStart => exact ⟨0, Nat.zero_le _, rfl, fun j hj => absurd hj (Nat.not_lt_zero _)⟩
  case round =>
    obtain ⟨k, hk, rfl, hall⟩ := hrel
    by_cases hlt : k < xs.length
    · obtain ⟨b, off, rfl, hbw, c0⟩ := hc k hlt
      by_cases hd1 : nth 0 xs k ≤ body
      · have HF : Hid (ksB xs body nb = false) := by
          simp [Hid, ksB, not_all_nth 0 (kidB body nb) xs k hlt (by simp [kidB, inB]; omega)]
        have hd1' : decide (nth 0 xs k ≤ body) = true := by simpa using hd1
        clear hc hall h1'
        go_wp2
        go_ret
        exact ⟨by rw [HF.out]; rfl, rfl⟩
      have hd1' : decide (nth 0 xs k ≤ body) = false := by simpa using hd1
      by_cases hd2 : nb ≤ nth 0 xs k
      · have HF : Hid (ksB xs body nb = false) := by
          simp [Hid, ksB, not_all_nth 0 (kidB body nb) xs k hlt (by simp [kidB, inB]; omega)]
        clear hc hall h1' hd1
        go_wp2
        go_ret
        exact ⟨by rw [HF.out]; rfl, rfl⟩
      · have HA : Hid (∀ j, j < k + 1 → kidB body nb (nth 0 xs j) = true) := so_far hall (by simp [kidB, inB]; omega)
        clear hc hall h1' hd1
        go_wp2
        go_round
        case rel => exact ⟨k + 1, by omega, by go_num, HA.out⟩
        case measure => simp [intOf]; omega
    · have HF : Hid (ksB xs body nb = true) := by
        have := all_nth 0 (kidB body nb) xs (fun j hj => hall j (by omega))
        simp [Hid, ksB, this, inB]; omega
      clear hall hc h1'
      go_wp2
      go_ret
      exact ⟨by rw [HF.out]; rfl, rfl⟩
end Go.Proofs.Ytgbgjljflgbcaaa
