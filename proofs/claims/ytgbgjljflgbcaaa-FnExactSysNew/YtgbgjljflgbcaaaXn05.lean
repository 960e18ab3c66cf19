import Derived.Test.YtgbgjljflgbcaaaXn04
import Derived.Deep.QuietTactic
import Derived.BigQuiet
import Derived.Deep.Light
namespace Go.Proofs.Ytgbgjljflgbcaaa
open Go.RowKit
set_option maxHeartbeats 400000 in
theorem l1Deed_any (d : De) (c : Int) (w : World) (hc0 : 0 ≤ c) (hc1 : c ≤ 9223372036854775807) :
    Calls Try.prog 142 #[.agg #[.int .i64 d.k, .int .i64 d.a, .int .i64 d.b], .int .i64 c] w fun r w' => r = .returned (.bool (deB d c)) ∧ Below w.heap.size w w' := by
  obtain ⟨k, a, b⟩ := d
  dsimp only
  by_cases h1 : k = 1
  · subst h1
    cases hp : inB a 0 2
    all_goals
      have HP : Hid (plB a 3 = _) := (in_pl3 a).symm.trans hp
      go_enter Try.func142, Try.ntmps142
      go_wp2_with (go_at_call 52; refine (l6In_any _ _ _ _).mono ?_; rintro e w' ⟨rfl, rfl⟩)
      go_ret
      exact ⟨by simp [deB, HP.out, in_pl], (by repeat (first | exact Below.refl _ _ | refine Below.alloc ?_ (by simp; try omega) _ | refine Below.drew ?_ | refine Below.setCell ?_ (by simp; try omega) _))⟩
  by_cases h2 : k = 2
  · subst h2
    cases hp : inB a 0 (c - 1)
    all_goals
      have HP : Hid (plB a c = _) := (in_pl a c).symm.trans hp
      go_enter Try.func142, Try.ntmps142
      go_wp2_with (go_at_call 52; refine (l6In_any _ _ _ _).mono ?_; rintro e w' ⟨rfl, rfl⟩)
      go_ret
      exact ⟨by simp [deB, HP.out, in_pl3], (by repeat (first | exact Below.refl _ _ | refine Below.alloc ?_ (by simp; try omega) _ | refine Below.drew ?_ | refine Below.setCell ?_ (by simp; try omega) _))⟩
  by_cases h3 : k = 3
  · subst h3
    cases hp : inB a 0 2
    all_goals
      have HP : Hid (plB a 3 = _) := (in_pl3 a).symm.trans hp
      go_enter Try.func142, Try.ntmps142
      go_wp2_with (go_at_call 52; refine (l6In_any _ _ _ _).mono ?_; rintro e w' ⟨rfl, rfl⟩)
      go_ret
      exact ⟨by simp [deB, HP.out, in_pl100], (by repeat (first | exact Below.refl _ _ | refine Below.alloc ?_ (by simp; try omega) _ | refine Below.drew ?_ | refine Below.setCell ?_ (by simp; try omega) _))⟩
  by_cases h4 : k = 4
  · subst h4
    cases hp : inB a 0 2
    all_goals
      have HP : Hid (plB a 3 = _) := (in_pl3 a).symm.trans hp
      go_enter Try.func142, Try.ntmps142
      go_wp2_with (go_at_call 52; refine (l6In_any _ _ _ _).mono ?_; rintro e w' ⟨rfl, rfl⟩)
      go_ret
      exact ⟨by simp [deB, HP.out, in_pl3], (by repeat (first | exact Below.refl _ _ | refine Below.alloc ?_ (by simp; try omega) _ | refine Below.drew ?_ | refine Below.setCell ?_ (by simp; try omega) _))⟩
  have g1 : (k == 1) = false := by simp [h1]
  have g2 : (k == 2) = false := by simp [h2]
  have g3 : (k == 3) = false := by simp [h3]
  have g4 : (k == 4) = false := by simp [h4]
  by_cases h5 : k = 5
  · subst h5
    cases hp : inB a 0 2
    all_goals
      have HP : Hid (plB a 3 = _) := (in_pl3 a).symm.trans hp
      go_enter Try.func142, Try.ntmps142
      go_wp2_with (go_at_call 52; refine (l6In_any _ _ _ _).mono ?_; rintro e w' ⟨rfl, rfl⟩)
      go_ret
      exact ⟨by simp [deB, HP.out]; try rfl, (by repeat (first | exact Below.refl _ _ | refine Below.alloc ?_ (by simp; try omega) _ | refine Below.drew ?_ | refine Below.setCell ?_ (by simp; try omega) _))⟩
  · have g5 : (k == 5) = false := by simp [h5]
    have HF : Hid (deB ⟨k, a, b⟩ c = false) := by simp [Hid, deB, h1, h2, h3, h4, h5]
    clear h1 h2 h3 h4 h5
    go_enter Try.func142, Try.ntmps142
    go_wp2_with (go_at_call 52; refine (l6In_any _ _ _ _).mono ?_; rintro e w' ⟨rfl, rfl⟩)
    go_ret
    exact ⟨by rw [HF.out]; rfl, (by repeat (first | exact Below.refl _ _ | refine Below.alloc ?_ (by simp; try omega) _ | refine Below.drew ?_ | refine Below.setCell ?_ (by simp; try omega) _))⟩
set_option maxHeartbeats 400000 in
theorem l1Kids_any (v : Value) (xs : List Int) (body nb : Int) (w : World) (h : IntsAt w v xs) (hb0 : 0 ≤ body) (hb1 : body ≤ 4611686018427387904) (hn0 : 0 ≤ nb) (hn1 : nb ≤ 9223372036854775807) :
    Calls Try.prog 143 #[v, .int .i64 body, .int .i64 nb] w fun r w' => r = .returned (.bool (ksB xs body nb)) ∧ w' = w := by
  obtain ⟨a, cap, rfl, hm, hc⟩ := h
  go_enter Try.func143, Try.ntmps143
  go_wp2_with fail
  go_loop [7] (fun i => ∃ k : Nat, k ≤ xs.length ∧ i = .int .i64 k ∧ (∀ j, j < k → kidB body nb (nth 0 xs j) = true)) (fun i => xs.length - (intOf i).toNat)
  case atStart => exact ⟨0, Nat.zero_le _, rfl, fun j hj => absurd hj (Nat.not_lt_zero _)⟩
  case round =>
    obtain ⟨k, hk, rfl, hall⟩ := hrel
    by_cases hlt : k < xs.length
    · obtain ⟨b, off, rfl, hbw, c0⟩ := hc k hlt
      cases hd : inB (nth 0 xs k) (body + 1) (nb - 1)
      · have HF : Hid (ksB xs body nb = false) := by simp [Hid, ksB, not_all_nth 0 (kidB body nb) xs k hlt hd]
        clear hc hall
        go_wp2_with (go_at_call 52; refine (l6In_any _ _ _ _).mono ?_; rintro e w' ⟨rfl, rfl⟩)
        go_ret
        exact ⟨by rw [HF.out]; rfl, rfl⟩
      · have HA : Hid (∀ j, j < k + 1 → kidB body nb (nth 0 xs j) = true) := so_far hall hd
        clear hc hall
        go_wp2_with (go_at_call 52; refine (l6In_any _ _ _ _).mono ?_; rintro e w' ⟨rfl, rfl⟩)
        go_round
        case rel => exact ⟨k + 1, by omega, by go_num, HA.out⟩
        case measure => simp [intOf]; omega
    · have HF : Hid (ksB xs body nb = inB xs.length 1 2) := by
        have := all_nth 0 (kidB body nb) xs (fun j hj => hall j (by omega))
        simp [Hid, ksB, this]
      clear hall hc
      go_wp2_with (go_at_call 52; refine (l6In_any _ _ _ _).mono ?_; rintro e w' ⟨rfl, rfl⟩)
      go_ret
      exact ⟨by rw [HF.out]; rfl, rfl⟩
end Go.Proofs.Ytgbgjljflgbcaaa

namespace Go.Proofs.Ytgbgjljflgbcaaa
open Go.RowKit
def acV (a : Ac) (dv kv : Value) : Value :=
  if a.k = 1 ∧ a.ks.length = 0 ∧ a.r = 0 then .iface 165 (.agg #[dv])
  else if a.k = 2 ∧ a.ds.length = 0 ∧ a.r = 0 then .iface 168 (.agg #[kv])
  else if a.k = 3 ∧ a.ds.length = 0 ∧ a.ks.length = 0 ∧ a.r = 0 then .iface 170 (.agg #[])
  else if a.k = 4 ∧ a.ds.length = 0 ∧ a.ks.length = 0 then .iface 172 (.agg #[.int .i64 a.r])
  else .iface 181 (.agg #[])
set_option maxHeartbeats 400000 in
theorem actPart_any (x : Ac) (dv kv : Value) (w : World) (hd : DeedsAt w dv x.ds) (hk : IntsAt w kv x.ks) :
    Calls Try.prog 144 #[.agg #[.int .i64 x.k, dv, kv, .int .i64 x.r]] w fun r w' => r = .returned (acV x dv kv) ∧ Below w.heap.size w w' := by
  obtain ⟨a, cap, rfl, hm, -⟩ := hd
  obtain ⟨a', cap', rfl, hm', -⟩ := hk
  obtain ⟨k, ds, ks, r⟩ := x
  dsimp only at *
  go_enter Try.func144, Try.ntmps144
  go_wp2
  go_quiet (fail)
  go_wp2
  all_goals
    go_ret
    refine ⟨?_, below_drewN ((Below.refl _ _).alloc (Nat.le_refl _) _) _⟩
    go_light
    simp [acV, *] <;> simp_all
end Go.Proofs.Ytgbgjljflgbcaaa
