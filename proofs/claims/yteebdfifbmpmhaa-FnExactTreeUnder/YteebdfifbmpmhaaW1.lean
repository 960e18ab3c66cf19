/-
  Rows of whole numbers of one's own, for seats that draw nothing.
-/
import Derived.Test.YteebdfifbmpmhaaX1
import Derived.Test.YteebdfifbmpmhaaM1
import Derived.Deep.Draws
namespace Go.Proofs.Yteebdfifbmpmhaa
open Go.RowKit
set_option linter.unusedSimpArgs false
set_option linter.unusedVariables false

def OwnInt (B : Nat) (w : World) (v : Value) (xs : List Int) : Prop := w.ownsRow B 3 1 v xs.length (xs.map (Value.int .i64))
theorem own_heap {w w' : World} {B : Nat} {e : TypeId} {size : Nat} {v : Value} {n : Nat} {xs : List Value} (h : w.ownsRow B e size v n xs) (hk : ∀ g, v.ownBlock = some g → w'.heap[g]? = w.heap[g]?) : w'.ownsRow B e size v n xs := by
  refine ⟨h.1, ?_⟩
  rcases h.2 with hn | ⟨g, cap, cur, rfl, hb, hgg, rest⟩
  · exact .inl hn
  · exact .inr ⟨g, cap, cur, rfl, hb, by rw [hk g rfl]; exact hgg, rest⟩
theorem own_base {w : World} {B B' : Nat} {e : TypeId} {size : Nat} {v : Value} {n : Nat} {xs : List Value} (h : w.ownsRow B e size v n xs) (hB : B' ≤ B) : w.ownsRow B' e size v n xs := by
  refine ⟨h.1, ?_⟩
  rcases h.2 with hn | ⟨g, cap, cur, rfl, hb, rest⟩
  · exact .inl hn
  · exact .inr ⟨g, cap, cur, rfl, Nat.le_trans hB hb, rest⟩
theorem own_shape {w : World} {B : Nat} {e : TypeId} {size : Nat} {v : Value} {n : Nat} {xs : List Value} (h : w.ownsRow B e size v n xs) : ∃ a cap, v = .slice a n cap ∧ n ≤ cap ∧ cap ≤ 9223372036854775807 := by
  rcases h.2 with ⟨rfl, rfl⟩ | ⟨g, cap, cur, rfl, hb, hg, h1, h2, _⟩
  · exact ⟨_, _, rfl, by omega, by omega⟩
  · exact ⟨_, _, rfl, h1, by unfold maxLen at h2; omega⟩

theorem own_cell {w : World} {B : Nat} {e : TypeId} {size : Nat} {v : Value} {n : Nat} {xs : List Value} (h : w.ownsRow B e size v n xs) (j : Nat) (hj : j < xs.length) :
    ∃ g cap, v = .slice (some ⟨g, 0, none⟩) n cap ∧ g < w.heap.size ∧ B ≤ g ∧ ∀ i, w.cell? ⟨g, i, none⟩ = xs[i]? ∨ xs.length ≤ i := by
  rcases h.2 with ⟨rfl, rfl⟩ | ⟨g, cap, cur, rfl, hb, hg, h1, h2, h3, h4⟩
  · have := h.1; omega
  · refine ⟨g, cap, rfl, (Array.getElem?_eq_some_iff.1 hg).1, hb, fun i => ?_⟩
    by_cases hi : i < xs.length
    · left
      rw [cell_of_row w g i cur e (0, 0) hg, ← h4, List.getElem?_take]
      rw [if_pos (by have := h.1; omega)]
      simp
    · right; omega
theorem OwnInt.at {B : Nat} {w : World} {v : Value} {xs : List Int} (h : OwnInt B w v xs) : IntsAt w v xs := by
  obtain ⟨a, cap, rfl, h1, h2⟩ := own_shape h
  refine ⟨a, cap, rfl, by omega, fun i hi => ?_⟩
  obtain ⟨g, c, hv, hg, _, hc⟩ := own_cell h i (by simpa using hi)
  injection hv with e1
  refine ⟨g, 0, e1, hg, ?_⟩
  rw [Nat.zero_add]
  rcases hc i with h3 | h3
  · rw [h3, nth_eq 0 xs i hi]; simp [hi]
  · simp at h3; omega
theorem own_below {C : Nat} {w w' : World} {B : Nat} {e : TypeId} {size : Nat} {v : Value} {n : Nat} {xs : List Value} (h : w.ownsRow B e size v n xs) (hb : Below C w w') (hC : w.heap.size ≤ C) : w'.ownsRow B e size v n xs :=
  own_heap h fun g hg => hb.block g (Nat.lt_of_lt_of_le (h.lt g hg).2 hC)

theorem own_allW {w : World} {B : Nat} {e : TypeId} {size : Nat} {v : Value} {n : Nat} {xs : List Value} (h : w.ownsRow B e size v n xs) (h0 : 0 < xs.length) :
    ∃ g cap, v = .slice (some ⟨g, 0, none⟩) n cap ∧ g < w.heap.size ∧ ∀ j, j < xs.length → w.cell? ⟨g, j, none⟩ = xs[j]? ∧ w.frozen? ⟨g, j, none⟩ = false := by
  have hl := h.1
  rcases h.2 with ⟨rfl, rfl⟩ | ⟨g, cap, cur, rfl, hb, hg, h1, h2, h3, h4⟩
  · omega
  · refine ⟨g, cap, rfl, (Array.getElem?_eq_some_iff.1 hg).1, fun j hj => ⟨?_, frozen_of_row w g j cur _ hg⟩⟩
    rw [cell_of_row w g j cur _ (0, 0) hg, ← h4, List.getElem?_take, if_pos (by omega)]
    simp
theorem own_rowShW {w : World} {B : Nat} {e : TypeId} {size : Nat} {v : Value} {n : Nat} {xs : List Value} (h : w.ownsRow B e size v n xs) (hs : 0 < size) (hx : ∀ x, x ∈ xs → ∃ z, x = .int .i64 z) : RowSh size w v := by
  obtain ⟨a, cap, rfl, h1, h2⟩ := own_shape h
  have hl := h.1
  refine ⟨a, n, cap, rfl, by omega, fun i hi => ?_⟩
  have h0 : 0 < xs.length := by rw [hl]; exact Nat.mul_pos (by omega) hs
  obtain ⟨g, c, e, hg, hc⟩ := own_allW h h0
  injection e with e1 e2 e3
  subst e1
  refine ⟨g, 0, rfl, hg, fun j hj => ?_⟩
  have hj' : j < xs.length := by omega
  obtain ⟨c1, c2⟩ := hc j hj'
  rw [Nat.zero_add]
  refine ⟨?_, c2⟩
  rw [c1, List.getElem?_eq_getElem hj']
  obtain ⟨z, hz⟩ := hx _ (List.getElem_mem hj')
  exact ⟨z, by rw [hz]⟩
theorem OwnInt.shW {w : World} {B : Nat} {v : Value} {xs : List Int} (h : OwnInt B w v xs) : RowSh 1 w v := own_rowShW h (by omega) fun x hx => by
  obtain ⟨z, _, rfl⟩ := List.mem_map.1 hx
  exact ⟨z, rfl⟩
theorem OwnInt.snoc {B : Nat} {w : World} {v : Value} {xs : List Int} {x : Int} (h : w.ownsRow B 3 1 v (xs.length + 1) (xs.map (Value.int .i64) ++ [.int .i64 x])) : OwnInt B w v (xs ++ [x]) := by
  unfold OwnInt; rw [List.map_append, List.length_append]; exact h
theorem OwnInt.wr {B : Nat} {w : World} {v : Value} {xs : List Int} (h : OwnInt B w v xs) {A : List Addr} (hA : ∀ g, v.ownBlock = some g → ∀ a, a ∈ A → a.block ≠ g) (k : Int) : OwnInt B (wrT w A k) v xs :=
  own_heap h fun g hg => wrT_block (hA g hg) k
theorem OwnInt.blk {B : Nat} {w : World} {v : Value} {xs : List Int} (h : OwnInt B w v xs) : ∀ p, p ∈ trR 1 v → v.ownBlock = some p.block := by
  rcases h.2 with ⟨rfl, _⟩ | ⟨g, cap, cur, rfl, _⟩
  · intro p hp; simp [trR] at hp
  · intro p hp
    simp only [trR] at hp
    obtain ⟨j, hj, rfl⟩ := rowT_mem.1 hp
    rfl
theorem OwnInt.len {B : Nat} {w : World} {v : Value} {xs : List Int} (h : OwnInt B w v xs) : (trR 1 v).length ≤ xs.length := by
  obtain ⟨a, cap, rfl, _, _⟩ := own_shape h
  rcases a with _ | ⟨b, off, _ | s⟩ <;> simp [trR, rowT_len]
theorem trR_nodup (m : Nat) (v : Value) : (trR m v).Nodup := by
  unfold trR
  split
  · exact rowT_nodup _ _ _
  · exact List.nodup_nil
theorem own_made0 (w : World) (B g : Nat) (t : TypeId) (hg : g = w.heap.size) (hB : B ≤ w.heap.size) : (w.alloc (.cells #[] t)).ownsRow B t 1 (.slice (some ⟨g, 0, none⟩) 0 0) 0 [] := by
  subst hg
  exact World.ownsRow_made w #[] 0 hB (by unfold maxLen; omega) (by simp)
end Go.Proofs.Yteebdfifbmpmhaa
