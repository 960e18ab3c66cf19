/-
  Copies of one's own can be marked (by mky.py).
-/
import Derived.Test.YtpehlekjfnkhoaaDoorM1
import Derived.Test.YtpehlekjfnkhoaaDoorY1
import Derived.Deep.Slices
namespace Go.Proofs.YtpehlekjfnkhoaaDoor
open Go.RowKit
set_option linter.unusedSimpArgs false
set_option linter.unusedVariables false
set_option maxRecDepth 20000
theorem nth_range' {α : Type} (z : α) (f : Nat → α) (n i : Nat) (h : i < n) : nth z ((List.range n).map f) i = f i := by
  simp [nth, h]
theorem IntsOn.sh {S : Nat → Prop} {w : World} {v : Value} {xs : List Int} (h : IntsOn S w v xs) (hf : ∀ b o, S b → w.frozen? ⟨b, o, none⟩ = false) :
    RowSh 1 w v ∧ (∀ p, p ∈ trR 1 v → S p.block) ∧ (trR 1 v).length ≤ xs.length * 1 := by
  obtain ⟨a, cap, rfl, hm, hc⟩ := h
  refine ⟨⟨a, xs.length, cap, rfl, by omega, fun i hi => ?_⟩, ?_, ?_⟩
  · obtain ⟨b, off, e, hS, hbw, _⟩ := hc i hi
    refine ⟨b, off, e, hbw, fun j hj => ?_⟩
    obtain ⟨b2, off2, e2, _, _, c0⟩ := hc j (by simpa using hj)
    rw [e] at e2; injection e2 with e2; injection e2 with e3 e4; subst e3 e4
    exact ⟨⟨_, c0⟩, hf _ _ hS⟩
  · intro p hp
    rcases a with _ | ⟨b, off, _ | s⟩
    · simp [trR] at hp
    · simp only [trR] at hp
      obtain ⟨j, hj, rfl⟩ := rowT_mem.1 hp
      have h0 : 0 < xs.length := by rcases Nat.eq_zero_or_pos xs.length with h | h; · rw [h] at hj; simp at hj
                                    · exact h
      obtain ⟨b2, off2, e2, hS, _⟩ := hc 0 h0
      injection e2 with e2; injection e2 with e3 e4; subst e3 e4
      exact hS
    · simp [trR] at hp
  · rcases a with _ | ⟨b, off, _ | s⟩
    · simp [trR]
    · simp [trR, rowT_len]
    · simp [trR]
end Go.Proofs.YtpehlekjfnkhoaaDoor
