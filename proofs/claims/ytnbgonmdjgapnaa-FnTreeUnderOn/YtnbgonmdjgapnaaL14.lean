import Derived.Test.YtnbgonmdjgapnaaL13
namespace Go.Proofs.Ytnbgonmdjgapnaa
open Go.RowKit
set_option linter.unusedSimpArgs false
set_option linter.unusedVariables false
set_option maxRecDepth 20000
theorem und_lt (s : Sy) : ∀ (n : Nat) (a b : Int), a.toNat ≤ n → undB s a b = true → 0 ≤ b ∧ b < a ∧ plB a s.tasks.length = true ∧ (upOf s a = b ∨ undB s (upOf s a) b = true) := by
  intro n
  induction n with
  | zero =>
    intro a b hn h
    rw [undB] at h
    split at h
    · rename_i hc
      have h1 := plB_iff.1 hc.2
      omega
    · cases h
  | succ n ih =>
    intro a b hn h
    rw [undB] at h
    split at h
    · rename_i hc
      have h1 := plB_iff.1 hc.2
      split at h
      · rename_i he
        exact ⟨by omega, by omega, hc.1, .inl he⟩
      · have h2 := ih (upOf s a) b (by omega) h
        exact ⟨h2.1, by omega, hc.1, .inr h⟩
    · cases h
theorem und_lt' {s : Sy} {a b : Int} (h : undB s a b = true) : 0 ≤ b ∧ b < a ∧ plB a s.tasks.length = true ∧ (upOf s a = b ∨ undB s (upOf s a) b = true) := und_lt s _ a b (Nat.le_refl _) h
theorem und_not {s : Sy} {a b : Int} (h : b ≤ a) : undB s b a = false := by
  cases e : undB s b a
  · rfl
  · have := und_lt' e; omega
theorem und_step {s : Sy} {a b : Int} (h1 : plB a s.tasks.length = true) (h2 : plB (upOf s a) a = true) (h3 : upOf s a = b ∨ undB s (upOf s a) b = true) : undB s a b = true := by
  rw [undB, dif_pos ⟨h1, h2⟩]
  rcases h3 with h3 | h3
  · rw [if_pos h3]
  · split
    · rfl
    · exact h3
theorem und_head {s : Sy} {a b : Int} (h : undB s a b = true) : plB (upOf s a) a = true := by
  rw [undB] at h
  split at h
  · rename_i hc; exact hc.2
  · cases h
theorem und_trans (s : Sy) : ∀ (n : Nat) (a b c : Int), a.toNat ≤ n → undB s a b = true → undB s b c = true → undB s a c = true := by
  intro n
  induction n with
  | zero =>
    intro a b c hn h1 h2
    have := und_lt' h1
    omega
  | succ n ih =>
    intro a b c hn h1 h2
    have h3 := und_lt' h1
    have h4 := und_head h1
    refine und_step h3.2.2.1 h4 ?_
    have h5 := plB_iff.1 h4
    rcases h3.2.2.2 with e | e
    · rw [e]; exact .inr h2
    · exact .inr (ih (upOf s a) b c (by omega) e h2)
theorem treeUnder_b {s : Sy} {task up : Int} {q : Bool} (hq : undB s task up = q) (ac at' al : Option Addr) (cc ct cl : Nat) (w : World) (h : TasAt w (.slice at' s.tasks.length ct) s.tasks) :
    Calls Try.prog 43 #[.agg #[.slice ac s.cells.length cc, .slice at' s.tasks.length ct, .int .i64 s.clock, .slice al s.log.length cl], .int .i64 task, .int .i64 up] w fun r w' => r = .returned (.bool q) ∧ Below w.heap.size w w' := by subst hq; exact treeUnder_any s ac at' al cc ct cl task up w h
theorem sTreeUnder_b {s : Sy} {task up : Int} {q : Bool} (hq : undB s task up = q) (ac at' al : Option Addr) (cc ct cl : Nat) (w : World) (h : TasAt w (.slice at' s.tasks.length ct) s.tasks) (hn : s.tasks.length ≤ 1048576) :
    Calls Try.prog 44 #[.agg #[.slice ac s.cells.length cc, .slice at' s.tasks.length ct, .int .i64 s.clock, .slice al s.log.length cl], .int .i64 task, .int .i64 up] w fun r w' => r = .returned (.bool q) ∧ Below w.heap.size w w' := by subst hq; exact sTreeUnder_any s ac at' al cc ct cl task up w h hn
end Go.Proofs.Ytnbgonmdjgapnaa
