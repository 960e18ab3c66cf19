/-
  Rows of one's own, as trails; a trail that meets no place twice.
-/
import Derived.Test.YtliakmgombpjpaaGreatDoorJ5
import Derived.Test.YtliakmgombpjpaaGreatDoorJ4
namespace Go.Proofs.YtliakmgombpjpaaGreatDoor
open Go.RowKit
set_option linter.unusedSimpArgs false
set_option linter.unusedVariables false

theorem own_all {w : World} {B : Nat} {e : TypeId} {size : Nat} {v : Value} {n : Nat} {xs : List Value} (h : w.ownsRow B e size v n xs) (h0 : 0 < xs.length) :
    ∃ g cap, v = .slice (some ⟨g, 0, none⟩) n cap ∧ g < w.heap.size ∧ ∀ j, j < xs.length → w.cell? ⟨g, j, none⟩ = xs[j]? ∧ w.frozen? ⟨g, j, none⟩ = false := by
  have hl := h.1
  rcases h.2 with ⟨rfl, rfl⟩ | ⟨g, cap, cur, rfl, hb, hg, h1, h2, h3, h4⟩
  · omega
  · refine ⟨g, cap, rfl, (Array.getElem?_eq_some_iff.1 hg).1, fun j hj => ⟨?_, frozen_of_row w g j cur _ hg⟩⟩
    rw [cell_of_row w g j cur _ (0, 0) hg, ← h4, List.getElem?_take, if_pos (by omega)]
    simp
theorem own_rowSh {w : World} {B : Nat} {e : TypeId} {size : Nat} {v : Value} {n : Nat} {xs : List Value} (h : w.ownsRow B e size v n xs) (hs : 0 < size) (hx : ∀ x, x ∈ xs → ∃ z, x = .int .i64 z) : RowSh size w v := by
  obtain ⟨a, cap, rfl, h1, h2⟩ := own_shape h
  have hl := h.1
  refine ⟨a, n, cap, rfl, by omega, fun i hi => ?_⟩
  have h0 : 0 < xs.length := by rw [hl]; exact Nat.mul_pos (by omega) hs
  obtain ⟨g, c, e, hg, hc⟩ := own_all h h0
  injection e with e1 e2 e3
  subst e1
  refine ⟨g, 0, rfl, hg, fun j hj => ?_⟩
  have hj' : j < xs.length := by omega
  obtain ⟨c1, c2⟩ := hc j hj'
  rw [Nat.zero_add]
  refine ⟨?_, c2⟩
  rw [c1, List.getElem?_eq_getElem hj']
  obtain ⟨z, hz⟩ := hx _ (List.getElem_mem hj')
  exact ⟨z, by rw [hz]⟩
theorem OwnInt.sh {w : World} {B : Nat} {v : Value} {xs : List Int} (h : OwnInt B w v xs) : RowSh 1 w v := own_rowSh h (by omega) fun x hx => by
  obtain ⟨z, _, rfl⟩ := List.mem_map.1 hx
  exact ⟨z, rfl⟩
theorem OwnDe.sh {w : World} {B : Nat} {v : Value} {xs : List De} (h : OwnDe B w v xs) : RowSh 3 w v := own_rowSh h (by omega) fun x hx => by
  simp only [deCells, List.mem_flatMap] at hx
  obtain ⟨d, _, hx⟩ := hx
  simp at hx
  rcases hx with rfl | rfl | rfl <;> exact ⟨_, rfl⟩
theorem acCells_get (M : List (Ac × Value × Value)) (i : Nat) (hi : i < M.length) :
    (acCells M)[i * 4]? = some (.int .i64 M[i].1.k) ∧ (acCells M)[i * 4 + 1]? = some M[i].2.1 ∧ (acCells M)[i * 4 + 2]? = some M[i].2.2 ∧ (acCells M)[i * 4 + 3]? = some (.int .i64 M[i].1.r) := by
  induction M generalizing i with
  | nil => simp at hi
  | cons x xs ih =>
    have e : acCells (x :: xs) = [.int .i64 x.1.k, x.2.1, x.2.2, .int .i64 x.1.r] ++ acCells xs := by simp [acCells]
    rw [e]
    cases i with
    | zero => simp
    | succ i =>
      have := ih i (by simpa using hi)
      rw [List.getElem?_append_right (by simp; omega), List.getElem?_append_right (by simp; omega), List.getElem?_append_right (by simp; omega), List.getElem?_append_right (by simp; omega)]
      simp only [List.length_cons, List.length_nil, List.getElem_cons_succ]
      rw [show (i + 1) * 4 - (0 + 1 + 1 + 1 + 1) = i * 4 by omega, show (i + 1) * 4 + 1 - (0 + 1 + 1 + 1 + 1) = i * 4 + 1 by omega, show (i + 1) * 4 + 2 - (0 + 1 + 1 + 1 + 1) = i * 4 + 2 by omega, show (i + 1) * 4 + 3 - (0 + 1 + 1 + 1 + 1) = i * 4 + 3 by omega]
      exact this
theorem own_actsSh {w : World} {B : Nat} {v : Value} {M : List (Ac × Value × Value)} (h : w.ownsRow B 44 4 v M.length (acCells M)) (hi : ∀ x, x ∈ M → OwnDe B w x.2.1 x.1.ds ∧ OwnInt B w x.2.2 x.1.ks) : ActsSh w v (M.map (·.2)) := by
  obtain ⟨a, cap, rfl, h1, h2⟩ := own_shape h
  have hl := h.1
  refine ⟨a, cap, by simp, by simp; omega, fun i hi' => ?_⟩
  have hM : i < M.length := by simpa using hi'
  obtain ⟨g, c, e, hg, hc⟩ := own_all h (by omega)
  injection e with e1 e2 e3
  subst e1
  have hn : nth (.slice none 0 0, .slice none 0 0) (M.map (·.2)) i = M[i].2 := by rw [nth_eq _ _ i hi']; simp
  rw [hn]
  obtain ⟨q0, q1, q2, q3⟩ := acCells_get M i hM
  obtain ⟨t1, t2⟩ := hi _ (List.getElem_mem hM)
  refine ⟨g, 0, rfl, hg, ⟨⟨M[i].1.k, ?_⟩, ?_⟩, ?_, ?_, ⟨⟨M[i].1.r, ?_⟩, ?_⟩, t1.sh, t2.sh⟩
  · rw [Nat.zero_add, (hc _ (by omega)).1]; exact q0
  · rw [Nat.zero_add]; exact (hc _ (by omega)).2
  · rw [Nat.zero_add, (hc _ (by omega)).1]; exact q1
  · rw [Nat.zero_add, (hc _ (by omega)).1]; exact q2
  · rw [Nat.zero_add, (hc _ (by omega)).1]; exact q3
  · rw [Nat.zero_add]; exact (hc _ (by omega)).2
/-- what is told of a row of bodies -/
def bdV (L : List (List (Ac × Value × Value) × Value)) : List (Value × List (Value × Value)) := L.map fun x => (x.2, x.1.map (·.2))
theorem own_bodiesSh {w : World} {B : Nat} {v : Value} {L : List (List (Ac × Value × Value) × Value)} (h : w.ownsRow B 41 1 v L.length (L.map (·.2))) (hr : ∀ x, x ∈ L → w.ownsRow B 44 4 x.2 x.1.length (acCells x.1)) (hi : ∀ x, x ∈ L → ∀ y, y ∈ x.1 → OwnDe B w y.2.1 y.1.ds ∧ OwnInt B w y.2.2 y.1.ks) : BodiesSh w v (bdV L) := by
  obtain ⟨a, cap, rfl, h1, h2⟩ := own_shape h
  have hl := h.1
  refine ⟨a, cap, by simp [bdV], by simp [bdV]; omega, fun i hi' => ?_⟩
  have hL : i < L.length := by simpa [bdV] using hi'
  obtain ⟨g, c, e, hg, hc⟩ := own_all h (by simp; omega)
  injection e with e1 e2 e3
  subst e1
  have hn : nth (.slice none 0 0, []) (bdV L) i = (L[i].2, L[i].1.map (·.2)) := by rw [nth_eq _ _ i hi']; simp [bdV]
  rw [hn]
  refine ⟨g, 0, rfl, hg, ?_, own_actsSh (hr _ (List.getElem_mem hL)) (hi _ (List.getElem_mem hL))⟩
  rw [Nat.zero_add, (hc i (by simpa using hL)).1]
  simp [hL]

end Go.Proofs.YtliakmgombpjpaaGreatDoor
