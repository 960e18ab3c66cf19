import Derived.Test.YtpehlekjfnkhoaaDoorT4
namespace Go.Proofs.YtpehlekjfnkhoaaDoor
open Go.RowKit

set_option maxHeartbeats 400000 in
theorem l1Deed_any (d : De) (c : Int) (w : World) (hc0 : 0 ≤ c) (hc1 : c ≤ 9223372036854775807) :
    Calls Tryd.prog 63 #[.agg #[.int .i64 d.k, .int .i64 d.a, .int .i64 d.b], .int .i64 c] w fun r w' => r = .returned (.bool (deB d c)) ∧ Below w.heap.size w w' := by
  obtain ⟨k, a, b⟩ := d
  dsimp only
  by_cases h1 : k = 1
  · subst h1
    cases hp : inB a 0 2
    all_goals
      have HP : Hid (plB a 3 = _) := (in_pl3 a).symm.trans hp
      go_enter Tryd.func63, Tryd.ntmps63
      go_wp2_with (go_at_call 49; refine (l6In_any _ _ _ _).mono ?_; rintro e w' ⟨rfl, rfl⟩)
      go_ret
      exact ⟨by simp [deB, HP.out, in_pl], (by repeat (first | exact Below.refl _ _ | refine Below.alloc ?_ (by simp; try omega) _ | refine Below.drew ?_ | refine Below.setCell ?_ (by simp; try omega) _))⟩
  by_cases h2 : k = 2
  · subst h2
    cases hp : inB a 0 (c - 1)
    all_goals
      have HP : Hid (plB a c = _) := (in_pl a c).symm.trans hp
      go_enter Tryd.func63, Tryd.ntmps63
      go_wp2_with (go_at_call 49; refine (l6In_any _ _ _ _).mono ?_; rintro e w' ⟨rfl, rfl⟩)
      go_ret
      exact ⟨by simp [deB, HP.out, in_pl3], (by repeat (first | exact Below.refl _ _ | refine Below.alloc ?_ (by simp; try omega) _ | refine Below.drew ?_ | refine Below.setCell ?_ (by simp; try omega) _))⟩
  by_cases h3 : k = 3
  · subst h3
    cases hp : inB a 0 2
    all_goals
      have HP : Hid (plB a 3 = _) := (in_pl3 a).symm.trans hp
      go_enter Tryd.func63, Tryd.ntmps63
      go_wp2_with (go_at_call 49; refine (l6In_any _ _ _ _).mono ?_; rintro e w' ⟨rfl, rfl⟩)
      go_ret
      exact ⟨by simp [deB, HP.out, in_pl100], (by repeat (first | exact Below.refl _ _ | refine Below.alloc ?_ (by simp; try omega) _ | refine Below.drew ?_ | refine Below.setCell ?_ (by simp; try omega) _))⟩
  by_cases h4 : k = 4
  · subst h4
    cases hp : inB a 0 2
    all_goals
      have HP : Hid (plB a 3 = _) := (in_pl3 a).symm.trans hp
      go_enter Tryd.func63, Tryd.ntmps63
      go_wp2_with (go_at_call 49; refine (l6In_any _ _ _ _).mono ?_; rintro e w' ⟨rfl, rfl⟩)
      go_ret
      exact ⟨by simp [deB, HP.out, in_pl3], (by repeat (first | exact Below.refl _ _ | refine Below.alloc ?_ (by simp; try omega) _ | refine Below.drew ?_ | refine Below.setCell ?_ (by simp; try omega) _))⟩
  have g1 : (k == 1) = false := by simp [h1]
  have g2 : (k == 2) = false := by simp [h2]
  have g3 : (k == 3) = false := by simp [h3]
  have g4 : (k == 4) = false := by simp [h4]
  by_cases h5 : k = 5
  · subst h5
    cases hp : inB a 0 2
    all_goals
      have HP : Hid (plB a 3 = _) := (in_pl3 a).symm.trans hp
      go_enter Tryd.func63, Tryd.ntmps63
      go_wp2_with (go_at_call 49; refine (l6In_any _ _ _ _).mono ?_; rintro e w' ⟨rfl, rfl⟩)
      go_ret
      exact ⟨by simp [deB, HP.out]; try rfl, (by repeat (first | exact Below.refl _ _ | refine Below.alloc ?_ (by simp; try omega) _ | refine Below.drew ?_ | refine Below.setCell ?_ (by simp; try omega) _))⟩
  · have g5 : (k == 5) = false := by simp [h5]
    have HF : Hid (deB ⟨k, a, b⟩ c = false) := by simp [Hid, deB, h1, h2, h3, h4, h5]
    clear h1 h2 h3 h4 h5
    go_enter Tryd.func63, Tryd.ntmps63
    go_wp2_with (go_at_call 49; refine (l6In_any _ _ _ _).mono ?_; rintro e w' ⟨rfl, rfl⟩)
    go_ret
    exact ⟨by rw [HF.out]; rfl, (by repeat (first | exact Below.refl _ _ | refine Below.alloc ?_ (by simp; try omega) _ | refine Below.drew ?_ | refine Below.setCell ?_ (by simp; try omega) _))⟩

set_option maxHeartbeats 400000 in
theorem l1Kids_any (v : Value) (xs : List Int) (body nb : Int) (w : World) (h : IntsAt w v xs) (hb0 : 0 ≤ body) (hb1 : body ≤ 4611686018427387904) (hn0 : 0 ≤ nb) (hn1 : nb ≤ 9223372036854775807) :
    Calls Tryd.prog 64 #[v, .int .i64 body, .int .i64 nb] w fun r w' => r = .returned (.bool (ksB xs body nb)) ∧ w' = w := by
  obtain ⟨a, cap, rfl, hm, hc⟩ := h
  go_enter Tryd.func64, Tryd.ntmps64
  go_wp2_with fail
  go_loop [7] (fun i => ∃ k : Nat, k ≤ xs.length ∧ i = .int .i64 k ∧ (∀ j, j < k → kidB body nb (nth 0 xs j) = true)) (fun i => xs.length - (intOf i).toNat)
  case atStart => exact ⟨0, Nat.zero_le _, rfl, fun j hj => absurd hj (Nat.not_lt_zero _)⟩
  case round =>
    obtain ⟨k, hk, rfl, hall⟩ := hrel
    by_cases hlt : k < xs.length
    · obtain ⟨b, off, rfl, hbw, c0⟩ := hc k hlt
      cases hd : inB (nth 0 xs k) (body + 1) (nb - 1)
      · have HF : Hid (ksB xs body nb = false) := by simp [Hid, ksB, not_all_nth 0 (kidB body nb) xs k hlt hd]
        clear hc hall
        go_wp2_with (go_at_call 49; refine (l6In_any _ _ _ _).mono ?_; rintro e w' ⟨rfl, rfl⟩)
        go_ret
        exact ⟨by rw [HF.out]; rfl, rfl⟩
      · have HA : Hid (∀ j, j < k + 1 → kidB body nb (nth 0 xs j) = true) := so_far hall hd
        clear hc hall
        go_wp2_with (go_at_call 49; refine (l6In_any _ _ _ _).mono ?_; rintro e w' ⟨rfl, rfl⟩)
        go_round
        case rel => exact ⟨k + 1, by omega, by go_num, HA.out⟩
        case measure => simp [intOf]; omega
    · have HF : Hid (ksB xs body nb = inB xs.length 1 2) := by
        have := all_nth 0 (kidB body nb) xs (fun j hj => hall j (by omega))
        simp [Hid, ksB, this]
      clear hall hc
      go_wp2_with (go_at_call 49; refine (l6In_any _ _ _ _).mono ?_; rintro e w' ⟨rfl, rfl⟩)
      go_ret
      exact ⟨by rw [HF.out]; rfl, rfl⟩

end Go.Proofs.YtpehlekjfnkhoaaDoor
