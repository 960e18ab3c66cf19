/-
  Who must hold cells: the program (by mky.py).
-/
import Derived.Test.YtdgihncobihbgaaGreatK4
import Derived.Test.YtdgihncobihbgaaGreatK2
namespace Go.Proofs.YtdgihncobihbgaaGreat
open Go.RowKit
set_option linter.unusedSimpArgs false
set_option linter.unusedVariables false
set_option maxRecDepth 20000

/-! ### parts of rows -/
theorem PusAt.takeP {w : World} {a : Option Addr} {cap : Nat} {xs : List Pu} (h : PusAt w (.slice a xs.length cap) xs) (n : Nat) (hn : n ≤ xs.length) : PusAt w (.slice a n cap) (xs.take n) := by
  obtain ⟨a', cap', e, hm, hc⟩ := h
  injection e with e1 e2 e3
  subst e1 e3
  have hl : (xs.take n).length = n := by simp; omega
  refine ⟨a, cap, by rw [hl], by rw [hl]; omega, fun i hi => ?_⟩
  rw [hl] at hi
  obtain ⟨b, off, e, hb, c0, c1⟩ := hc i (by omega)
  rw [nth_take _ _ _ _ hi]
  exact ⟨b, off, e, hb, c0, c1⟩
theorem PusAt.dropP {w : World} {b off cap : Nat} {xs : List Pu} (h : PusAt w (.slice (some ⟨b, off, none⟩) xs.length cap) xs) (n : Nat) (hn : n ≤ xs.length) : PusAt w (.slice (some ⟨b, off + n * 2, none⟩) (xs.length - n) (cap - n)) (xs.drop n) := by
  obtain ⟨a', cap', e, hm, hc⟩ := h
  injection e with e1 e2 e3
  subst e1 e3
  have hl : (xs.drop n).length = xs.length - n := by simp
  refine ⟨_, cap - n, by rw [hl], by rw [hl]; omega, fun i hi => ?_⟩
  rw [hl] at hi
  obtain ⟨b', off', e, hb, c0, c1⟩ := hc (n + i) (by omega)
  injection e with e; injection e with e1 e2; subst e1 e2
  rw [nth_drop]
  refine ⟨b, off + n * 2, rfl, hb, ?_, ?_⟩
  · rw [show off + n * 2 + i * 2 = off + (n + i) * 2 by omega]; exact c0
  · rw [show off + n * 2 + i * 2 + 1 = off + (n + i) * 2 + 1 by omega]; exact c1
theorem PusAt.none0 (w : World) (a : Option Addr) (cap : Nat) (hc : cap ≤ 9223372036854775807) : PusAt w (.slice a 0 cap) [] := ⟨a, cap, rfl, ⟨by simp, hc⟩, fun i hi => by simp at hi⟩

set_option maxHeartbeats 2000000 in
theorem putsHeld_any (t : Ta) (a3 a8 a9 a10 : Option Addr) (c3 c8 c9 c10 : Nat) (w : World) (h : PusAt w (.slice a10 t.puts.length c10) t.puts) (hs : t.stage = 0 ∨ t.stage = 1 ∨ t.stage = 2 ∨ t.stage = 3 ∨ t.stage = 4 ∨ t.stage = 5) (ha : t.stage = 2 ∨ t.stage = 5 → ∃ n : Nat, t.at_ = (n : Int) ∧ n < t.puts.length) :
    Calls Tryz.prog 103 #[.agg #[.int .i64 t.body, .int .i64 t.pc, .int .i64 t.up, .slice a3 t.regs.length c3, .int .i64 t.way, .int .i64 t.stage, .int .i64 t.at_, .int .i64 t.since, .slice a8 t.old.length c8, .slice a9 t.reads.length c9, .slice a10 t.puts.length c10, .int .i64 t.when_, .int .i64 t.from_]] w fun r w' => ∃ v, r = .returned v ∧ (∀ w0, PusAt w0 (.slice a10 t.puts.length c10) t.puts → PusAt w0 v (phL t)) ∧ Below w.heap.size w w' := by
  obtain ⟨a', cap', e, hcap⟩ := h.cap
  injection e with e1 e2 e3
  subst e1 e3
  clear e2
  have HH := (show Hid (PusAt _ _ _) from h)
  rcases hs with e | e | e | e | e | e
  · have HF : Hid (phL t = []) := by unfold Hid phL; simp [e]
    rw [e]
    clear ha h
    go_enter Tryz.func103, Tryz.ntmps103
    go_wp2_with fail
    go_ret
    exact ⟨_, rfl, fun w0 h0 => by rw [HF.out]; exact PusAt.none0 _ _ _ (by omega), (by repeat (first | with_reducible exact Below.refl _ _ | (with_reducible refine Below.setCell ?_ ?hs _; case hs => ((try simp); try omega)) | (with_reducible refine Below.alloc ?_ ?hs _; case hs => ((try simp); try omega)) | with_reducible refine Below.drew ?_))⟩
  · have HF : Hid (phL t = []) := by unfold Hid phL; simp [e]
    rw [e]
    clear ha h
    go_enter Tryz.func103, Tryz.ntmps103
    go_wp2_with fail
    go_ret
    exact ⟨_, rfl, fun w0 h0 => by rw [HF.out]; exact PusAt.none0 _ _ _ (by omega), (by repeat (first | with_reducible exact Below.refl _ _ | (with_reducible refine Below.setCell ?_ ?hs _; case hs => ((try simp); try omega)) | (with_reducible refine Below.alloc ?_ ?hs _; case hs => ((try simp); try omega)) | with_reducible refine Below.drew ?_))⟩
  · obtain ⟨n, hn, hlt⟩ := ha (.inl e)
    have HF : Hid (phL t = t.puts.take n) := by unfold Hid phL; rw [if_pos e, hn]; rfl
    have hle : (n : Int) ≤ (c10 : Int) := by omega
    have hle' : n ≤ c10 := by omega
    rw [e]
    clear ha h
    go_enter Tryz.func103, Tryz.ntmps103
    go_wp2_with fail
    go_ret
    exact ⟨_, rfl, fun w0 h0 => by rw [HF.out]; exact PusAt.takeP h0 n (by omega), (by repeat (first | with_reducible exact Below.refl _ _ | (with_reducible refine Below.setCell ?_ ?hs _; case hs => ((try simp); try omega)) | (with_reducible refine Below.alloc ?_ ?hs _; case hs => ((try simp); try omega)) | with_reducible refine Below.drew ?_))⟩
  · have HF : Hid (phL t = t.puts) := by unfold Hid phL; simp [e]
    rw [e]
    clear ha h
    go_enter Tryz.func103, Tryz.ntmps103
    go_wp2_with fail
    go_ret
    exact ⟨_, rfl, fun w0 h0 => by rw [HF.out]; exact h0, (by repeat (first | with_reducible exact Below.refl _ _ | (with_reducible refine Below.setCell ?_ ?hs _; case hs => ((try simp); try omega)) | (with_reducible refine Below.alloc ?_ ?hs _; case hs => ((try simp); try omega)) | with_reducible refine Below.drew ?_))⟩
  · have HF : Hid (phL t = t.puts) := by unfold Hid phL; simp [e]
    rw [e]
    clear ha h
    go_enter Tryz.func103, Tryz.ntmps103
    go_wp2_with fail
    go_ret
    exact ⟨_, rfl, fun w0 h0 => by rw [HF.out]; exact h0, (by repeat (first | with_reducible exact Below.refl _ _ | (with_reducible refine Below.setCell ?_ ?hs _; case hs => ((try simp); try omega)) | (with_reducible refine Below.alloc ?_ ?hs _; case hs => ((try simp); try omega)) | with_reducible refine Below.drew ?_))⟩
  · obtain ⟨n, hn, hlt⟩ := ha (.inr e)
    have HF : Hid (phL t = t.puts.drop n) := by unfold Hid phL; rw [if_neg (by omega), if_neg (by omega), if_pos e, hn]; rfl
    obtain ⟨ax, cx, ex, hmx, hcx⟩ := h
    injection ex with ex1 ex2 ex3
    subst ex1 ex3
    obtain ⟨b, off, rfl, _⟩ := hcx 0 (by omega)
    have hle : (n : Int) ≤ (t.puts.length : Int) := by omega
    have hle' : n ≤ t.puts.length := by omega
    have hle2 : n ≤ c10 := by omega
    have hne : ¬ c10 = n := by omega
    rw [e]
    clear ha hcx
    go_enter Tryz.func103, Tryz.ntmps103
    go_wp2_with fail
    go_ret
    exact ⟨_, rfl, fun w0 h0 => by rw [HF.out]; exact PusAt.dropP h0 n (by omega), (by repeat (first | with_reducible exact Below.refl _ _ | (with_reducible refine Below.setCell ?_ ?hs _; case hs => ((try simp); try omega)) | (with_reducible refine Below.alloc ?_ ?hs _; case hs => ((try simp); try omega)) | with_reducible refine Below.drew ?_))⟩

end Go.Proofs.YtdgihncobihbgaaGreat
