import Derived.Test.YtgbgjljflgbcaaaXn02
namespace Go.Proofs.Ytgbgjljflgbcaaa
open Go.RowKit
@[go_sem] theorem as_deedLoad_deedLoad (v : Value) (w : World) : (Instr.typeAssert (.iface 188 v) 162 188 true).run Try.prog w = .ok (.tuple #[v, .bool true]) w := by kernel_rfl
@[go_sem] theorem as_deedStore_deedLoad (v : Value) (w : World) : (Instr.typeAssert (.iface 190 v) 162 188 true).run Try.prog w = .ok (.tuple #[.agg #[.int .i64 0, .int .i64 0], .bool false]) w := by kernel_rfl
@[go_sem] theorem as_deedStore_deedStore (v : Value) (w : World) : (Instr.typeAssert (.iface 190 v) 162 190 true).run Try.prog w = .ok (.tuple #[v, .bool true]) w := by kernel_rfl
@[go_sem] theorem as_deedNum_deedLoad (v : Value) (w : World) : (Instr.typeAssert (.iface 192 v) 162 188 true).run Try.prog w = .ok (.tuple #[.agg #[.int .i64 0, .int .i64 0], .bool false]) w := by kernel_rfl
@[go_sem] theorem as_deedNum_deedStore (v : Value) (w : World) : (Instr.typeAssert (.iface 192 v) 162 190 true).run Try.prog w = .ok (.tuple #[.agg #[.int .i64 0, .int .i64 0], .bool false]) w := by kernel_rfl
@[go_sem] theorem as_deedNum_deedNum (v : Value) (w : World) : (Instr.typeAssert (.iface 192 v) 162 192 true).run Try.prog w = .ok (.tuple #[v, .bool true]) w := by kernel_rfl
@[go_sem] theorem as_deedAdd_deedLoad (v : Value) (w : World) : (Instr.typeAssert (.iface 194 v) 162 188 true).run Try.prog w = .ok (.tuple #[.agg #[.int .i64 0, .int .i64 0], .bool false]) w := by kernel_rfl
@[go_sem] theorem as_deedAdd_deedStore (v : Value) (w : World) : (Instr.typeAssert (.iface 194 v) 162 190 true).run Try.prog w = .ok (.tuple #[.agg #[.int .i64 0, .int .i64 0], .bool false]) w := by kernel_rfl
@[go_sem] theorem as_deedAdd_deedNum (v : Value) (w : World) : (Instr.typeAssert (.iface 194 v) 162 192 true).run Try.prog w = .ok (.tuple #[.agg #[.int .i64 0, .int .i64 0], .bool false]) w := by kernel_rfl
@[go_sem] theorem as_deedAdd_deedAdd (v : Value) (w : World) : (Instr.typeAssert (.iface 194 v) 162 194 true).run Try.prog w = .ok (.tuple #[v, .bool true]) w := by kernel_rfl
@[go_sem] theorem as_deedNeed_deedLoad (v : Value) (w : World) : (Instr.typeAssert (.iface 195 v) 162 188 true).run Try.prog w = .ok (.tuple #[.agg #[.int .i64 0, .int .i64 0], .bool false]) w := by kernel_rfl
@[go_sem] theorem as_deedNeed_deedStore (v : Value) (w : World) : (Instr.typeAssert (.iface 195 v) 162 190 true).run Try.prog w = .ok (.tuple #[.agg #[.int .i64 0, .int .i64 0], .bool false]) w := by kernel_rfl
@[go_sem] theorem as_deedNeed_deedNum (v : Value) (w : World) : (Instr.typeAssert (.iface 195 v) 162 192 true).run Try.prog w = .ok (.tuple #[.agg #[.int .i64 0, .int .i64 0], .bool false]) w := by kernel_rfl
@[go_sem] theorem as_deedNeed_deedAdd (v : Value) (w : World) : (Instr.typeAssert (.iface 195 v) 162 194 true).run Try.prog w = .ok (.tuple #[.agg #[.int .i64 0, .int .i64 0], .bool false]) w := by kernel_rfl
@[go_sem] theorem as_deedNeed_deedNeed (v : Value) (w : World) : (Instr.typeAssert (.iface 195 v) 162 195 true).run Try.prog w = .ok (.tuple #[v, .bool true]) w := by kernel_rfl
@[go_sem] theorem as_progNone_deedLoad (v : Value) (w : World) : (Instr.typeAssert (.iface 181 v) 162 188 true).run Try.prog w = .ok (.tuple #[.agg #[.int .i64 0, .int .i64 0], .bool false]) w := by kernel_rfl
@[go_sem] theorem as_progNone_deedStore (v : Value) (w : World) : (Instr.typeAssert (.iface 181 v) 162 190 true).run Try.prog w = .ok (.tuple #[.agg #[.int .i64 0, .int .i64 0], .bool false]) w := by kernel_rfl
@[go_sem] theorem as_progNone_deedNum (v : Value) (w : World) : (Instr.typeAssert (.iface 181 v) 162 192 true).run Try.prog w = .ok (.tuple #[.agg #[.int .i64 0, .int .i64 0], .bool false]) w := by kernel_rfl
@[go_sem] theorem as_progNone_deedAdd (v : Value) (w : World) : (Instr.typeAssert (.iface 181 v) 162 194 true).run Try.prog w = .ok (.tuple #[.agg #[.int .i64 0, .int .i64 0], .bool false]) w := by kernel_rfl
@[go_sem] theorem as_progNone_deedNeed (v : Value) (w : World) : (Instr.typeAssert (.iface 181 v) 162 195 true).run Try.prog w = .ok (.tuple #[.agg #[.int .i64 0], .bool false]) w := by kernel_rfl
@[go_sem] theorem as_actTry_actTry (v : Value) (w : World) : (Instr.typeAssert (.iface 165 v) 162 165 true).run Try.prog w = .ok (.tuple #[v, .bool true]) w := by kernel_rfl
@[go_sem] theorem as_actTry_actFork (v : Value) (w : World) : (Instr.typeAssert (.iface 165 v) 162 168 true).run Try.prog w = .ok (.tuple #[.agg #[.slice none 0 0], .bool false]) w := by kernel_rfl
@[go_sem] theorem as_actFork_actTry (v : Value) (w : World) : (Instr.typeAssert (.iface 168 v) 162 165 true).run Try.prog w = .ok (.tuple #[.agg #[.slice none 0 0], .bool false]) w := by kernel_rfl
@[go_sem] theorem as_actFork_actFork (v : Value) (w : World) : (Instr.typeAssert (.iface 168 v) 162 168 true).run Try.prog w = .ok (.tuple #[v, .bool true]) w := by kernel_rfl
@[go_sem] theorem as_actFail_actTry (v : Value) (w : World) : (Instr.typeAssert (.iface 170 v) 162 165 true).run Try.prog w = .ok (.tuple #[.agg #[.slice none 0 0], .bool false]) w := by kernel_rfl
@[go_sem] theorem as_actFail_actFork (v : Value) (w : World) : (Instr.typeAssert (.iface 170 v) 162 168 true).run Try.prog w = .ok (.tuple #[.agg #[.slice none 0 0], .bool false]) w := by kernel_rfl
@[go_sem] theorem as_actFail_actFail (v : Value) (w : World) : (Instr.typeAssert (.iface 170 v) 162 170 true).run Try.prog w = .ok (.tuple #[v, .bool true]) w := by kernel_rfl
@[go_sem] theorem as_actFailIf_actTry (v : Value) (w : World) : (Instr.typeAssert (.iface 172 v) 162 165 true).run Try.prog w = .ok (.tuple #[.agg #[.slice none 0 0], .bool false]) w := by kernel_rfl
@[go_sem] theorem as_actFailIf_actFork (v : Value) (w : World) : (Instr.typeAssert (.iface 172 v) 162 168 true).run Try.prog w = .ok (.tuple #[.agg #[.slice none 0 0], .bool false]) w := by kernel_rfl
@[go_sem] theorem as_actFailIf_actFail (v : Value) (w : World) : (Instr.typeAssert (.iface 172 v) 162 170 true).run Try.prog w = .ok (.tuple #[.agg #[], .bool false]) w := by kernel_rfl
@[go_sem] theorem as_actFailIf_actFailIf (v : Value) (w : World) : (Instr.typeAssert (.iface 172 v) 162 172 true).run Try.prog w = .ok (.tuple #[v, .bool true]) w := by kernel_rfl
@[go_sem] theorem as_progNone_actTry (v : Value) (w : World) : (Instr.typeAssert (.iface 181 v) 162 165 true).run Try.prog w = .ok (.tuple #[.agg #[.slice none 0 0], .bool false]) w := by kernel_rfl
@[go_sem] theorem as_progNone_actFork (v : Value) (w : World) : (Instr.typeAssert (.iface 181 v) 162 168 true).run Try.prog w = .ok (.tuple #[.agg #[.slice none 0 0], .bool false]) w := by kernel_rfl
@[go_sem] theorem as_progNone_actFail (v : Value) (w : World) : (Instr.typeAssert (.iface 181 v) 162 170 true).run Try.prog w = .ok (.tuple #[.agg #[], .bool false]) w := by kernel_rfl
@[go_sem] theorem as_progNone_actFailIf (v : Value) (w : World) : (Instr.typeAssert (.iface 181 v) 162 172 true).run Try.prog w = .ok (.tuple #[.agg #[.int .i64 0], .bool false]) w := by kernel_rfl
set_option maxHeartbeats 400000 in
theorem deedInForm_any (d : De) (c : Int) (w : World) :
    Calls Try.prog 156 #[.agg #[.int .i64 d.k, .int .i64 d.a, .int .i64 d.b], .int .i64 c] w fun r w' => r = .returned (.bool (deB d c)) ∧ Below w.heap.size w w' := by
  obtain ⟨k, a, b⟩ := d
  dsimp only
  by_cases h1 : k = 1
  · subst h1
    cases hp : plB a 3
    all_goals
      go_enter Try.func156, Try.ntmps156
      go_wp2_with (first | (go_at_call 45; refine (isPlace_any _ _ _).mono ?_; rintro e w' ⟨rfl, rfl⟩) | go_in)
      go_ret
      exact ⟨by simp [deB, hp], (by repeat (first | exact Below.refl _ _ | refine Below.alloc ?_ (by simp; try omega) _ | refine Below.drew ?_ | refine Below.setCell ?_ (by simp; try omega) _))⟩
  by_cases h2 : k = 2
  · subst h2
    cases hp : plB a c
    all_goals
      go_enter Try.func156, Try.ntmps156
      go_wp2_with (first | (go_at_call 45; refine (isPlace_any _ _ _).mono ?_; rintro e w' ⟨rfl, rfl⟩) | go_in)
      go_ret
      exact ⟨by simp [deB, hp], (by repeat (first | exact Below.refl _ _ | refine Below.alloc ?_ (by simp; try omega) _ | refine Below.drew ?_ | refine Below.setCell ?_ (by simp; try omega) _))⟩
  by_cases h3 : k = 3
  · subst h3
    cases hp : plB a 3
    all_goals
      go_enter Try.func156, Try.ntmps156
      go_wp2_with (first | (go_at_call 45; refine (isPlace_any _ _ _).mono ?_; rintro e w' ⟨rfl, rfl⟩) | go_in)
      go_ret
      exact ⟨by simp [deB, hp], (by repeat (first | exact Below.refl _ _ | refine Below.alloc ?_ (by simp; try omega) _ | refine Below.drew ?_ | refine Below.setCell ?_ (by simp; try omega) _))⟩
  by_cases h4 : k = 4
  · subst h4
    cases hp : plB a 3
    all_goals
      go_enter Try.func156, Try.ntmps156
      go_wp2_with (first | (go_at_call 45; refine (isPlace_any _ _ _).mono ?_; rintro e w' ⟨rfl, rfl⟩) | go_in)
      go_ret
      exact ⟨by simp [deB, hp], (by repeat (first | exact Below.refl _ _ | refine Below.alloc ?_ (by simp; try omega) _ | refine Below.drew ?_ | refine Below.setCell ?_ (by simp; try omega) _))⟩
  have g1 : (k == 1) = false := by simp [h1]
  have g2 : (k == 2) = false := by simp [h2]
  have g3 : (k == 3) = false := by simp [h3]
  have g4 : (k == 4) = false := by simp [h4]
  by_cases h5 : k = 5
  · by_cases h6 : b = 0
    · subst h5 h6
      go_enter Try.func156, Try.ntmps156
      go_wp2_with (first | (go_at_call 45; refine (isPlace_any _ _ _).mono ?_; rintro e w' ⟨rfl, rfl⟩) | go_in)
      go_ret
      exact ⟨by simp [deB], (by repeat (first | exact Below.refl _ _ | refine Below.alloc ?_ (by simp; try omega) _ | refine Below.drew ?_ | refine Below.setCell ?_ (by simp; try omega) _))⟩
    · have g6 : (b == 0) = false := by simp [h6]
      have HF : Hid (deB ⟨k, a, b⟩ c = false) := by simp [Hid, deB, h5, h6]
      clear h1 h2 h3 h4 h6
      subst h5
      go_enter Try.func156, Try.ntmps156
      go_wp2_with (first | (go_at_call 45; refine (isPlace_any _ _ _).mono ?_; rintro e w' ⟨rfl, rfl⟩) | go_in)
      go_ret
      exact ⟨by rw [HF.out]; rfl, (by repeat (first | exact Below.refl _ _ | refine Below.alloc ?_ (by simp; try omega) _ | refine Below.drew ?_ | refine Below.setCell ?_ (by simp; try omega) _))⟩
  · have g5 : (k == 5) = false := by simp [h5]
    have HF : Hid (deB ⟨k, a, b⟩ c = false) := by simp [Hid, deB, h1, h2, h3, h4, h5]
    clear h1 h2 h3 h4 h5
    go_enter Try.func156, Try.ntmps156
    go_wp2_with (first | (go_at_call 45; refine (isPlace_any _ _ _).mono ?_; rintro e w' ⟨rfl, rfl⟩) | go_in)
    go_ret
    exact ⟨by rw [HF.out]; rfl, (by repeat (first | exact Below.refl _ _ | refine Below.alloc ?_ (by simp; try omega) _ | refine Below.drew ?_ | refine Below.setCell ?_ (by simp; try omega) _))⟩
end Go.Proofs.Ytgbgjljflgbcaaa
