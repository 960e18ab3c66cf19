/-
  Who must hold cells: the model (by mky.py).
-/
import Derived.Test.YtdgihncobihbgaaGreatK6b
namespace Go.Proofs.YtdgihncobihbgaaGreat
open Go.RowKit
set_option linter.unusedSimpArgs false
set_option linter.unusedVariables false
set_option maxRecDepth 20000

set_option maxHeartbeats 4000000 in
theorem l12Holds_any (t : Ta) (a3 a8 a9 a10 : Option Addr) (c3 c8 c9 c10 : Nat) (c : Int) (w : World) (h : PusAt w (.slice a10 t.puts.length c10) t.puts) (hs : t.stage = 0 ∨ t.stage = 1 ∨ t.stage = 2 ∨ t.stage = 3 ∨ t.stage = 4 ∨ t.stage = 5) (nu : t.puts.length ≤ 1048576) :
    Calls Tryz.prog 64 #[.agg #[.int .i64 t.body, .int .i64 t.pc, .int .i64 t.up, .slice a3 t.regs.length c3, .int .i64 t.way, .int .i64 t.stage, .int .i64 t.at_, .int .i64 t.since, .slice a8 t.old.length c8, .slice a9 t.reads.length c9, .slice a10 t.puts.length c10, .int .i64 t.when_, .int .i64 t.from_], .int .i64 c] w fun r w' => r = .returned (.bool (mHoB t c)) ∧ Below w.heap.size w w' := by
  have HH := (show Hid (PusAt _ _ _) from h)
  clear h
  cases hf : fdP t.puts c with
  | none =>
    have HF : Hid (mHoB t c = false) := by unfold Hid mHoB; rw [hf]
    have HI : Hid (fdI t.puts c = -1) := by unfold Hid fdI; rw [hf]
    clear hf hs
    go_enter Tryz.func64, Tryz.ntmps64
    go_wp2_with fail
    refine (l11Find_any _ t.puts _ _ (by exact PusAt.mono HH.out (by repeat (first | with_reducible exact Below.refl _ _ | (with_reducible refine Below.setCell ?_ ?hs _; case hs => ((try simp); try omega)) | (with_reducible refine Below.alloc ?_ ?hs _; case hs => ((try simp); try omega)) | with_reducible refine Below.drew ?_)))).mono ?_
    rintro e w1 ⟨rfl, hw⟩
    have hw := hw.symm
    subst hw
    rw [HI.out]
    go_wp2_with fail
    go_ret
    exact ⟨by rw [HF.out]; rfl, (by repeat (first | with_reducible exact Below.refl _ _ | (with_reducible refine Below.setCell ?_ ?hs _; case hs => ((try simp); try omega)) | (with_reducible refine Below.alloc ?_ ?hs _; case hs => ((try simp); try omega)) | with_reducible refine Below.drew ?_))⟩
  | some i =>
    obtain ⟨hi1, hi2, hi3⟩ := fdP_some hf
    have HI : Hid (fdI t.puts c = (i : Int)) := by unfold Hid fdI; rw [hf]
    have HF : Hid (mHoB t c = if t.stage = 2 then decide ((i : Int) < t.at_) else if t.stage = 3 ∨ t.stage = 4 then true else if t.stage = 5 then decide (t.at_ ≤ (i : Int)) else false) := by unfold Hid mHoB; rw [hf]
    have hn : ¬ (i : Int) < 0 := by omega
    clear hf hi2 hi3
    rcases hs with e | e | e | e | e | e
    all_goals
      have E5 := (show Hid (t.stage = _) from e)
      rw [e]
      go_enter Tryz.func64, Tryz.ntmps64
      go_wp2_with fail
      refine (l11Find_any _ t.puts _ _ (by exact PusAt.mono HH.out (by repeat (first | with_reducible exact Below.refl _ _ | (with_reducible refine Below.setCell ?_ ?hs _; case hs => ((try simp); try omega)) | (with_reducible refine Below.alloc ?_ ?hs _; case hs => ((try simp); try omega)) | with_reducible refine Below.drew ?_)))).mono ?_
      rintro e w1 ⟨rfl, hw⟩
      have hw := hw.symm
      subst hw
      rw [HI.out]
      go_wp2_with fail
      go_ret
      exact ⟨by rw [HF.out]; simp [E5.out] <;> rfl, (by repeat (first | with_reducible exact Below.refl _ _ | (with_reducible refine Below.setCell ?_ ?hs _; case hs => ((try simp); try omega)) | (with_reducible refine Below.alloc ?_ ?hs _; case hs => ((try simp); try omega)) | with_reducible refine Below.drew ?_))⟩

end Go.Proofs.YtdgihncobihbgaaGreat
