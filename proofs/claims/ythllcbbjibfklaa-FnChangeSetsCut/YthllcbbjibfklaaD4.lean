import Derived.Test.YthllcbbjibfklaaD3
namespace Go.Proofs.Ythllcbbjibfklaa
open Go.RowKit
set_option linter.unusedSimpArgs false
set_option linter.unusedVariables false

def acCells (L : List (Ac × Value × Value)) : List Value := L.flatMap fun x => [.int .i64 x.1.k, x.2.1, x.2.2, .int .i64 x.1.r]
theorem acCells_snoc (L : List (Ac × Value × Value)) (x : Ac × Value × Value) : acCells (L ++ [x]) = acCells L ++ [.int .i64 x.1.k, x.2.1, x.2.2, .int .i64 x.1.r] := by simp [acCells]
/-- blocks of all types but these are as they were -/
def TagKept (t : TypeId) (w w' : World) : Prop := ∀ (g : Nat) (cur : Array Value) (e : TypeId), w.heap[g]? = some (Obj.cells cur e (0, 0)) → e ≠ t → w'.heap[g]? = w.heap[g]?
theorem own_tag {t : TypeId} {w w' : World} {B : Nat} {e : TypeId} {size : Nat} {v : Value} {n : Nat} {xs : List Value} (h : w.ownsRow B e size v n xs) (hk : TagKept t w w') (he : e ≠ t) : w'.ownsRow B e size v n xs := by
  refine ⟨h.1, ?_⟩
  rcases h.2 with hn | ⟨g, cap, cur, rfl, hb, hgg, rest⟩
  · exact .inl hn
  · exact .inr ⟨g, cap, cur, rfl, hb, by rw [hk g cur e hgg he]; exact hgg, rest⟩
theorem TagKept.grown {t : TypeId} {w w' : World} {B : Nat} {size : Nat} {v : Value} {n : Nat} {xs : List Value} (h : w.ownsRow B t size v n xs) (hg : w.grownBy w' v.ownBlock) : TagKept t w w' := fun g cur e hgg he => by
  refine hg.block g (Array.getElem?_eq_some_iff.1 hgg).1 ?_
  rcases h.2 with ⟨rfl, _⟩ | ⟨g', cap, cur', rfl, hb, hg', _⟩
  · simp [Value.ownBlock]
  · intro e'
    simp [Value.ownBlock] at e'
    subst e'
    rw [hgg] at hg'
    injection hg' with h1
    injection h1 with h2 h3
    exact he h3
theorem TagKept.set {t : TypeId} {w : World} {b o : Nat} {cur : Array Value} {x : Value} (h : w.heap[b]? = some (.cells cur t (0, 0))) : TagKept t w (w.setCell ⟨b, o, none⟩ x) := fun g cur' e hgg he => by
  refine Below.heap_setCell w ⟨b, o, none⟩ x g ?_
  intro e'
  have e2 : g = b := e'
  subst e2
  rw [hgg] at h
  injection h with h1
  injection h1 with h2 h3
  exact he h3
theorem own_base {w : World} {B B' : Nat} {e : TypeId} {size : Nat} {v : Value} {n : Nat} {xs : List Value} (h : w.ownsRow B e size v n xs) (hB : B' ≤ B) : w.ownsRow B' e size v n xs := by
  refine ⟨h.1, ?_⟩
  rcases h.2 with hn | ⟨g, cap, cur, rfl, hb, rest⟩
  · exact .inl hn
  · exact .inr ⟨g, cap, cur, rfl, Nat.le_trans hB hb, rest⟩
theorem own_none (w : World) (B : Nat) : OwnDe B w (.slice none 0 0) [] ∧ OwnInt B w (.slice none 0 0) [] := ⟨World.ownsRow_nil _ _ _ _, World.ownsRow_nil _ _ _ _⟩
theorem own_shape {w : World} {B : Nat} {e : TypeId} {size : Nat} {v : Value} {n : Nat} {xs : List Value} (h : w.ownsRow B e size v n xs) : ∃ a cap, v = .slice a n cap ∧ n ≤ cap ∧ cap ≤ 9223372036854775807 := by
  rcases h.2 with ⟨rfl, rfl⟩ | ⟨g, cap, cur, rfl, hb, hg, h1, h2, _⟩
  · exact ⟨_, _, rfl, by omega, by omega⟩
  · exact ⟨_, _, rfl, h1, by unfold maxLen at h2; omega⟩

/-! ### to what the functions of the first chapter are told of memory -/
theorem own_cell {w : World} {B : Nat} {e : TypeId} {size : Nat} {v : Value} {n : Nat} {xs : List Value} (h : w.ownsRow B e size v n xs) (j : Nat) (hj : j < xs.length) :
    ∃ g cap, v = .slice (some ⟨g, 0, none⟩) n cap ∧ g < w.heap.size ∧ B ≤ g ∧ ∀ i, w.cell? ⟨g, i, none⟩ = xs[i]? ∨ xs.length ≤ i := by
  rcases h.2 with ⟨rfl, rfl⟩ | ⟨g, cap, cur, rfl, hb, hg, h1, h2, h3, h4⟩
  · have := h.1; omega
  · refine ⟨g, cap, rfl, (Array.getElem?_eq_some_iff.1 hg).1, hb, fun i => ?_⟩
    by_cases hi : i < xs.length
    · left
      rw [cell_of_row w g i cur e (0, 0) hg, ← h4, List.getElem?_take]
      rw [if_pos (by have := h.1; omega)]
      simp
    · right; omega
theorem OwnInt.at {B : Nat} {w : World} {v : Value} {xs : List Int} (h : OwnInt B w v xs) : IntsAt w v xs := by
  obtain ⟨a, cap, rfl, h1, h2⟩ := own_shape h
  refine ⟨a, cap, rfl, by omega, fun i hi => ?_⟩
  obtain ⟨g, c, hv, hg, _, hc⟩ := own_cell h i (by simpa using hi)
  injection hv with e1
  refine ⟨g, 0, e1, hg, ?_⟩
  rw [Nat.zero_add]
  rcases hc i with h3 | h3
  · rw [h3, nth_eq 0 xs i hi]; simp [hi]
  · simp at h3; omega
theorem flat_get {α : Type} (c : Nat) (f : α → List Value) (hf : ∀ x, (f x).length = c) (j : Nat) (hj : j < c) : ∀ (L : List α) (i : Nat) (hi : i < L.length), (L.flatMap f)[i * c + j]? = (f L[i])[j]? := by
  intro L
  induction L with
  | nil => intro i hi; simp at hi
  | cons x L ih =>
    intro i hi
    rw [List.flatMap_cons]
    cases i with
    | zero => rw [Nat.zero_mul, Nat.zero_add, List.getElem?_append_left (by rw [hf]; exact hj)]; rfl
    | succ i =>
      rw [List.getElem?_append_right (by rw [hf, Nat.succ_mul]; omega), hf]
      have : (i + 1) * c + j - c = i * c + j := by rw [Nat.succ_mul]; omega
      rw [this]
      exact ih i (by simpa using hi)
theorem OwnDe.at {B : Nat} {w : World} {v : Value} {ds : List De} (h : OwnDe B w v ds) : DeedsAt w v ds := by
  obtain ⟨a, cap, rfl, h1, h2⟩ := own_shape h
  have hl := h.1
  refine ⟨a, cap, rfl, by omega, fun i hi => ?_⟩
  obtain ⟨g, c, hv, hg, _, hc⟩ := own_cell h (i * 3) (by omega)
  injection hv with e1
  refine ⟨g, 0, e1, hg, ?_⟩
  have G := fun j hj => flat_get 3 (fun d : De => [Value.int .i64 d.k, .int .i64 d.a, .int .i64 d.b]) (fun _ => rfl) j hj ds i hi
  rw [nth_eq De.z ds i hi, Nat.zero_add]
  refine ⟨?_, ?_, ?_⟩
  · rcases hc (i * 3) with h3 | h3
    · rw [h3]; exact G 0 (by omega)
    · omega
  · rcases hc (i * 3 + 1) with h3 | h3
    · rw [h3]; exact G 1 (by omega)
    · omega
  · rcases hc (i * 3 + 2) with h3 | h3
    · rw [h3]; exact G 2 (by omega)
    · omega
end Go.Proofs.Ythllcbbjibfklaa
