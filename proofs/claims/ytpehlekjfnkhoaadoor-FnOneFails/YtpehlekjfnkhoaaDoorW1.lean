/-
  Rows of whole numbers of one's own, for seats that draw nothing.
-/
import Derived.Test.YtpehlekjfnkhoaaDoorX1
import Derived.Test.YtpehlekjfnkhoaaDoorM1
import Derived.Test.YtpehlekjfnkhoaaDoorC2
import Derived.Deep.Draws
namespace Go.Proofs.YtpehlekjfnkhoaaDoor
open Go.RowKit
set_option linter.unusedSimpArgs false
set_option linter.unusedVariables false

theorem own_allW {w : World} {B : Nat} {e : TypeId} {size : Nat} {v : Value} {n : Nat} {xs : List Value} (h : w.ownsRow B e size v n xs) (h0 : 0 < xs.length) :
    ∃ g cap, v = .slice (some ⟨g, 0, none⟩) n cap ∧ g < w.heap.size ∧ ∀ j, j < xs.length → w.cell? ⟨g, j, none⟩ = xs[j]? ∧ w.frozen? ⟨g, j, none⟩ = false := by
  have hl := h.1
  rcases h.2 with ⟨rfl, rfl⟩ | ⟨g, cap, cur, rfl, hb, hg, h1, h2, h3, h4⟩
  · omega
  · refine ⟨g, cap, rfl, (Array.getElem?_eq_some_iff.1 hg).1, fun j hj => ⟨?_, frozen_of_row w g j cur _ hg⟩⟩
    rw [cell_of_row w g j cur _ (0, 0) hg, ← h4, List.getElem?_take, if_pos (by omega)]
    simp
theorem own_rowShW {w : World} {B : Nat} {e : TypeId} {size : Nat} {v : Value} {n : Nat} {xs : List Value} (h : w.ownsRow B e size v n xs) (hs : 0 < size) (hx : ∀ x, x ∈ xs → ∃ z, x = .int .i64 z) : RowSh size w v := by
  obtain ⟨a, cap, rfl, h1, h2⟩ := own_shape h
  have hl := h.1
  refine ⟨a, n, cap, rfl, by omega, fun i hi => ?_⟩
  have h0 : 0 < xs.length := by rw [hl]; exact Nat.mul_pos (by omega) hs
  obtain ⟨g, c, e, hg, hc⟩ := own_allW h h0
  injection e with e1 e2 e3
  subst e1
  refine ⟨g, 0, rfl, hg, fun j hj => ?_⟩
  have hj' : j < xs.length := by omega
  obtain ⟨c1, c2⟩ := hc j hj'
  rw [Nat.zero_add]
  refine ⟨?_, c2⟩
  rw [c1, List.getElem?_eq_getElem hj']
  obtain ⟨z, hz⟩ := hx _ (List.getElem_mem hj')
  exact ⟨z, by rw [hz]⟩
theorem OwnInt.shW {w : World} {B : Nat} {v : Value} {xs : List Int} (h : OwnInt B w v xs) : RowSh 1 w v := own_rowShW h (by omega) fun x hx => by
  obtain ⟨z, _, rfl⟩ := List.mem_map.1 hx
  exact ⟨z, rfl⟩
theorem OwnInt.snoc {B : Nat} {w : World} {v : Value} {xs : List Int} {x : Int} (h : w.ownsRow B 3 1 v (xs.length + 1) (xs.map (Value.int .i64) ++ [.int .i64 x])) : OwnInt B w v (xs ++ [x]) := by
  unfold OwnInt; rw [List.map_append, List.length_append]; exact h
theorem OwnInt.wr {B : Nat} {w : World} {v : Value} {xs : List Int} (h : OwnInt B w v xs) {A : List Addr} (hA : ∀ g, v.ownBlock = some g → ∀ a, a ∈ A → a.block ≠ g) (k : Int) : OwnInt B (wrT w A k) v xs :=
  own_heap h fun g hg => wrT_block (hA g hg) k
theorem OwnInt.blk {B : Nat} {w : World} {v : Value} {xs : List Int} (h : OwnInt B w v xs) : ∀ p, p ∈ trR 1 v → v.ownBlock = some p.block := by
  rcases h.2 with ⟨rfl, _⟩ | ⟨g, cap, cur, rfl, _⟩
  · intro p hp; simp [trR] at hp
  · intro p hp
    simp only [trR] at hp
    obtain ⟨j, hj, rfl⟩ := rowT_mem.1 hp
    rfl
theorem OwnInt.len {B : Nat} {w : World} {v : Value} {xs : List Int} (h : OwnInt B w v xs) : (trR 1 v).length ≤ xs.length := by
  obtain ⟨a, cap, rfl, _, _⟩ := own_shape h
  rcases a with _ | ⟨b, off, _ | s⟩ <;> simp [trR, rowT_len]
theorem trR_nodup (m : Nat) (v : Value) : (trR m v).Nodup := by
  unfold trR
  split
  · exact rowT_nodup _ _ _
  · exact List.nodup_nil
theorem own_made0 (w : World) (B g : Nat) (t : TypeId) (hg : g = w.heap.size) (hB : B ≤ w.heap.size) : (w.alloc (.cells #[] t)).ownsRow B t 1 (.slice (some ⟨g, 0, none⟩) 0 0) 0 [] := by
  subst hg
  exact World.ownsRow_made w #[] 0 hB (by unfold maxLen; omega) (by simp)
end Go.Proofs.YtpehlekjfnkhoaaDoor
