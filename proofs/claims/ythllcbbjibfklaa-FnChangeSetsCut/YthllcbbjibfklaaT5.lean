import Derived.Test.YthllcbbjibfklaaT4
namespace Go.Proofs.Ythllcbbjibfklaa
open Go.RowKit

set_option maxHeartbeats 400000 in
theorem l1Deed_any (d : De) (c : Int) (w : World) (hc0 : 0 ≤ c) (hc1 : c ≤ 9223372036854775807) :
    Calls Try.prog 46 #[.agg #[.int .i64 d.k, .int .i64 d.a, .int .i64 d.b], .int .i64 c] w fun r w' => r = .returned (.bool (deB d c)) ∧ Below w.heap.size w w' := by
  obtain ⟨k, a, b⟩ := d
  dsimp only
  by_cases h1 : k = 1
  · subst h1
    cases hp : inB a 0 2
    all_goals
      have HP : Hid (plB a 3 = _) := (in_pl3 a).symm.trans hp
      go_enter Try.func46, Try.ntmps46
      go_wp2_with (go_at_call 47; refine (l6In_any _ _ _ _).mono ?_; rintro e w' ⟨rfl, rfl⟩)
      go_ret
      exact ⟨by simp [deB, HP.out, in_pl], (by repeat (first | exact Below.refl _ _ | refine Below.alloc ?_ (by simp; try omega) _ | refine Below.drew ?_ | refine Below.setCell ?_ (by simp; try omega) _))⟩
  by_cases h2 : k = 2
  · subst h2
    cases hp : inB a 0 (c - 1)
    all_goals
      have HP : Hid (plB a c = _) := (in_pl a c).symm.trans hp
      go_enter Try.func46, Try.ntmps46
      go_wp2_with (go_at_call 47; refine (l6In_any _ _ _ _).mono ?_; rintro e w' ⟨rfl, rfl⟩)
      go_ret
      exact ⟨by simp [deB, HP.out, in_pl3], (by repeat (first | exact Below.refl _ _ | refine Below.alloc ?_ (by simp; try omega) _ | refine Below.drew ?_ | refine Below.setCell ?_ (by simp; try omega) _))⟩
  by_cases h3 : k = 3
  · subst h3
    cases hp : inB a 0 2
    all_goals
      have HP : Hid (plB a 3 = _) := (in_pl3 a).symm.trans hp
      go_enter Try.func46, Try.ntmps46
      go_wp2_with (go_at_call 47; refine (l6In_any _ _ _ _).mono ?_; rintro e w' ⟨rfl, rfl⟩)
      go_ret
      exact ⟨by simp [deB, HP.out, in_pl100], (by repeat (first | exact Below.refl _ _ | refine Below.alloc ?_ (by simp; try omega) _ | refine Below.drew ?_ | refine Below.setCell ?_ (by simp; try omega) _))⟩
  by_cases h4 : k = 4
  · subst h4
    cases hp : inB a 0 2
    all_goals
      have HP : Hid (plB a 3 = _) := (in_pl3 a).symm.trans hp
      go_enter Try.func46, Try.ntmps46
      go_wp2_with (go_at_call 47; refine (l6In_any _ _ _ _).mono ?_; rintro e w' ⟨rfl, rfl⟩)
      go_ret
      exact ⟨by simp [deB, HP.out, in_pl3], (by repeat (first | exact Below.refl _ _ | refine Below.alloc ?_ (by simp; try omega) _ | refine Below.drew ?_ | refine Below.setCell ?_ (by simp; try omega) _))⟩
  have g1 : (k == 1) = false := by simp [h1]
  have g2 : (k == 2) = false := by simp [h2]
  have g3 : (k == 3) = false := by simp [h3]
  have g4 : (k == 4) = false := by simp [h4]
  by_cases h5 : k = 5
  · subst h5
    cases hp : inB a 0 2
    all_goals
      have HP : Hid (plB a 3 = _) := (in_pl3 a).symm.trans hp
      go_enter Try.func46, Try.ntmps46
      go_wp2_with (go_at_call 47; refine (l6In_any _ _ _ _).mono ?_; rintro e w' ⟨rfl, rfl⟩)
      go_ret
      exact ⟨by simp [deB, HP.out]; try rfl, (by repeat (first | exact Below.refl _ _ | refine Below.alloc ?_ (by simp; try omega) _ | refine Below.drew ?_ | refine Below.setCell ?_ (by simp; try omega) _))⟩
  · have g5 : (k == 5) = false := by simp [h5]
    have HF : Hid (deB ⟨k, a, b⟩ c = false) := by simp [Hid, deB, h1, h2, h3, h4, h5]
    clear h1 h2 h3 h4 h5
    go_enter Try.func46, Try.ntmps46
    go_wp2_with (go_at_call 47; refine (l6In_any _ _ _ _).mono ?_; rintro e w' ⟨rfl, rfl⟩)
    go_ret
    exact ⟨by rw [HF.out]; rfl, (by repeat (first | exact Below.refl _ _ | refine Below.alloc ?_ (by simp; try omega) _ | refine Below.drew ?_ | refine Below.setCell ?_ (by simp; try omega) _))⟩

end Go.Proofs.Ythllcbbjibfklaa
