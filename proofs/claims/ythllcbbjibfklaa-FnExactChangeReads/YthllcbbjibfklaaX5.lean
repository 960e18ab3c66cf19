import Derived.Test.YthllcbbjibfklaaX4
namespace Go.Proofs.Ythllcbbjibfklaa
open Go.RowKit
set_option linter.unusedSimpArgs false
set_option linter.unusedVariables false

set_option maxHeartbeats 400000 in
theorem eqIntS_same (v v' : Value) (xs : List Int) (w : World) (h : IntsAt w v xs) (h' : IntsAt w v' xs) :
    Calls Try.prog 24 #[v, v'] w fun r w' => r = .returned (.bool true) ∧ Below w.heap.size w w' := by
  obtain ⟨a, cap, rfl, hm, hc⟩ := h
  obtain ⟨a', cap', rfl, hm', hc'⟩ := h'
  go_enter Try.func24, Try.ntmps24
  go_wp2_with fail
  go_loopw [5] (fun q w' => ∃ k : Nat, k ≤ xs.length ∧ q = .int .i64 k ∧ Below w.heap.size w w') (fun q _ => xs.length - (intOf q).toNat)
  case atStart => exact ⟨0, Nat.zero_le _, rfl, Below.refl _ _⟩
  case round =>
    obtain ⟨k, hk, rfl, hb⟩ := hrel
    by_cases hlt : k < xs.length
    · obtain ⟨b, off, rfl, hbw, c0⟩ := hc k hlt
      obtain ⟨b', off', rfl, hbw', c0'⟩ := hc' k hlt
      rw [← hb.cell (p := ⟨b, _, none⟩) hbw] at c0
      rw [← hb.cell (p := ⟨b', _, none⟩) hbw'] at c0'
      have hi : (k : Int) < (xs.length : Int) := by omega
      clear hc hc'
      go_wp2_with fail
      go_quiet (fail)
      go_wp2_with fail
      go_roundw
      case rel => exact ⟨k + 1, by omega, by go_num, below_drewN hb _⟩
      case measure => simp [intOf]; omega
    · clear hc hc'
      go_wp2_with fail
      go_ret
      exact ⟨rfl, hb⟩

set_option maxHeartbeats 400000 in
theorem eqDeed_same (d : De) (w : World) :
    Calls Try.prog 44 #[.agg #[.int .i64 d.k, .int .i64 d.a, .int .i64 d.b], .agg #[.int .i64 d.k, .int .i64 d.a, .int .i64 d.b]] w fun r w' => r = .returned (.bool true) ∧ Below w.heap.size w w' := by
  go_enter Try.func44, Try.ntmps44
  go_wp2_with fail
  go_ret
  exact ⟨rfl, (by repeat (first | exact Below.refl _ _ | refine Below.alloc ?_ (by simp; try omega) _ | refine Below.drew ?_ | refine Below.setCell ?_ (by simp; try omega) _))⟩

set_option maxHeartbeats 400000 in
theorem eqDeedS_same (v v' : Value) (xs : List De) (w : World) (h : DeedsAt w v xs) (h' : DeedsAt w v' xs) :
    Calls Try.prog 25 #[v, v'] w fun r w' => r = .returned (.bool true) ∧ Below w.heap.size w w' := by
  obtain ⟨a, cap, rfl, hm, hc⟩ := h
  obtain ⟨a', cap', rfl, hm', hc'⟩ := h'
  go_enter Try.func25, Try.ntmps25
  go_wp2_with fail
  go_loopw [5] (fun q w' => ∃ k : Nat, k ≤ xs.length ∧ q = .int .i64 k ∧ Below w.heap.size w w') (fun q _ => xs.length - (intOf q).toNat)
  case atStart => exact ⟨0, Nat.zero_le _, rfl, Below.refl _ _⟩
  case round =>
    obtain ⟨k, hk, rfl, hb⟩ := hrel
    by_cases hlt : k < xs.length
    · obtain ⟨b, off, rfl, hbw, c0, c1, c2⟩ := hc k hlt
      obtain ⟨b', off', rfl, hbw', c0', c1', c2'⟩ := hc' k hlt
      rw [← hb.cell (p := ⟨b, _, none⟩) hbw] at c0 c1 c2
      rw [← hb.cell (p := ⟨b', _, none⟩) hbw'] at c0' c1' c2'
      have hi : (k : Int) < (xs.length : Int) := by omega
      clear hc hc'
      go_wp2_with fail
      go_region_with (go_at_call 44; refine (eqDeed_same (nth De.z xs k) _).mono ?_; rintro e w1 ⟨rfl, hb1⟩)
      all_goals
        have HB : Hid (Below w.heap.size w w1) := below_drewed hb hb.size hb1
        clear hb1 hb c0 c1 c2 c0' c1' c2'
        go_wp2_with fail
        go_roundw
        case rel => exact ⟨k + 1, by omega, by go_num, HB.out⟩
        case measure => simp [intOf]; omega
    · clear hc hc'
      go_wp2_with fail
      go_ret
      exact ⟨rfl, hb⟩

end Go.Proofs.Ythllcbbjibfklaa
