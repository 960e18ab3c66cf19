/-
  spec.ProgRead.
-/
import Derived.Test.YtliakmgombpjpaaGreatDoorU6
import Derived.Test.YtliakmgombpjpaaGreatDoorQ4
namespace Go.Proofs.YtliakmgombpjpaaGreatDoor
open Go.RowKit
set_option linter.unusedSimpArgs false
set_option linter.unusedVariables false
set_option maxRecDepth 20000

theorem split10 (x : List UInt8) (w : World) (hx : x.length ≤ 1048576) :
    Calls Tryz.prog 30 #[.string (bs x), .int .u8 10] w fun e w' => ∃ g k, e = .returned (.slice (some ⟨g, 0, none⟩) (splC 10 x).length k) ∧ StrsAt w' (.slice (some ⟨g, 0, none⟩) (splC 10 x).length k) (splC 10 x) ∧ w.heap.size ≤ g ∧ g < w'.heap.size ∧ (splC 10 x).length ≤ k ∧ k ≤ 9223372036854775807 ∧ Below w.heap.size w w' := by
  have := l1Split_any (bs x) 10 w (by rw [bs_size]; exact hx)
  rw [bs_data] at this
  refine this.mono ?_
  rintro e w' ⟨v', rfl, ho, hb⟩
  have hne : 0 < (splC 10 x).length := List.length_pos_iff.2 (splC_ne _ _)
  rcases ho.2 with ⟨_, h0⟩ | ⟨g, cap, cur, rfl, hg1, hg2, h1, h2, _⟩
  · omega
  · exact ⟨g, cap, rfl, ho.at, hg1, (Array.getElem?_eq_some_iff.1 hg2).1, h1, by unfold maxLen at h2; omega, hb⟩
theorem split32g (x : List UInt8) (w : World) (hx : x.length ≤ 1048576) :
    Calls Tryz.prog 30 #[.string (bs x), .int .u8 32] w fun e w' => ∃ g k, e = .returned (.slice (some ⟨g, 0, none⟩) (splC 32 x).length k) ∧ StrsAt w' (.slice (some ⟨g, 0, none⟩) (splC 32 x).length k) (splC 32 x) ∧ w.heap.size ≤ g ∧ g < w'.heap.size ∧ (splC 32 x).length ≤ k ∧ k ≤ 9223372036854775807 ∧ Below w.heap.size w w' := by
  have := l1Split_any (bs x) 32 w (by rw [bs_size]; exact hx)
  rw [bs_data] at this
  refine this.mono ?_
  rintro e w' ⟨v', rfl, ho, hb⟩
  have hne : 0 < (splC 32 x).length := List.length_pos_iff.2 (splC_ne _ _)
  rcases ho.2 with ⟨_, h0⟩ | ⟨g, cap, cur, rfl, hg1, hg2, h1, h2, _⟩
  · omega
  · exact ⟨g, cap, rfl, ho.at, hg1, (Array.getElem?_eq_some_iff.1 hg2).1, h1, by unfold maxLen at h2; omega, hb⟩
theorem StrsAt.get {w : World} {g n cap : Nat} {ws : List (List UInt8)} (h : StrsAt w (.slice (some ⟨g, 0, none⟩) n cap) ws) (i : Nat) (hi : i < ws.length) : w.cell? ⟨g, i, none⟩ = some (.string (bs (nth [] ws i))) := by
  obtain ⟨a, c, e, _, hc⟩ := h
  injection e with e1 e2 e3
  obtain ⟨b, off, e4, _, c0⟩ := hc i hi
  rw [← e1] at e4
  injection e4 with e5
  injection e5 with e6 e7
  subst e6 e7
  rwa [Nat.zero_add] at c0
theorem fold_take (l : List (List UInt8)) (f : Pr → List UInt8 → Pr) (p : Pr) (k : Nat) (h1 : 1 ≤ k) (h : k + 1 < l.length) : ((l.tail.dropLast).take (k + 1 - 1)).foldl f p = f (((l.tail.dropLast).take (k - 1)).foldl f p) (nth [] l k) := by
  have h2 : k - 1 < l.tail.dropLast.length := by simp; omega
  have e : (l.tail.dropLast).take (k + 1 - 1) = (l.tail.dropLast).take (k - 1) ++ [nth [] l k] := by
    rw [show k + 1 - 1 = (k - 1) + 1 by omega, take_nth [] _ (k - 1) h2]
    congr 2
    rw [nth_eq [] _ _ h2, nth_eq [] _ _ (show k < l.length by omega)]
    simp [show k - 1 + 1 = k by omega]
  rw [e, List.foldl_append]
  rfl

end Go.Proofs.YtliakmgombpjpaaGreatDoor
