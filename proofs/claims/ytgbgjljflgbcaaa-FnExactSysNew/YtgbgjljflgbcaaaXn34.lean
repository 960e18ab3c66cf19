import Derived.Test.YtgbgjljflgbcaaaXn14
import Derived.Test.YtgbgjljflgbcaaaXn27
import Derived.Test.YtgbgjljflgbcaaaXn21
import Derived.Deep.Upon
import Derived.Deep.Slices
import Derived.Deep.Draws
namespace Go.Proofs.Ytgbgjljflgbcaaa
open Go.RowKit
set_option linter.unusedSimpArgs false
set_option linter.unusedVariables false
theorem own_allW {w : World} {B : Nat} {e : TypeId} {size : Nat} {v : Value} {n : Nat} {xs : List Value} (h : w.ownsRow B e size v n xs) (h0 : 0 < xs.length) :
    ∃ g cap, v = .slice (some ⟨g, 0, none⟩) n cap ∧ g < w.heap.size ∧ ∀ j, j < xs.length → w.cell? ⟨g, j, none⟩ = xs[j]? ∧ w.frozen? ⟨g, j, none⟩ = false := by
  have hl := h.1
  rcases h.2 with ⟨rfl, rfl⟩ | ⟨g, cap, cur, rfl, hb, hg, h1, h2, h3, h4⟩
  · omega
  · refine ⟨g, cap, rfl, (Array.getElem?_eq_some_iff.1 hg).1, fun j hj => ⟨?_, frozen_of_row w g j cur _ hg⟩⟩
    rw [cell_of_row w g j cur _ (0, 0) hg, ← h4, List.getElem?_take, if_pos (by omega)]
    simp
theorem own_rowShW {w : World} {B : Nat} {e : TypeId} {size : Nat} {v : Value} {n : Nat} {xs : List Value} (h : w.ownsRow B e size v n xs) (hs : 0 < size) (hx : ∀ x, x ∈ xs → ∃ z, x = .int .i64 z) : RowSh size w v := by
  obtain ⟨a, cap, rfl, h1, h2⟩ := own_shape h
  have hl := h.1
  refine ⟨a, n, cap, rfl, by omega, fun i hi => ?_⟩
  have h0 : 0 < xs.length := by rw [hl]; exact Nat.mul_pos (by omega) hs
  obtain ⟨g, c, e, hg, hc⟩ := own_allW h h0
  injection e with e1 e2 e3
  subst e1
  refine ⟨g, 0, rfl, hg, fun j hj => ?_⟩
  have hj' : j < xs.length := by omega
  obtain ⟨c1, c2⟩ := hc j hj'
  rw [Nat.zero_add]
  refine ⟨?_, c2⟩
  rw [c1, List.getElem?_eq_getElem hj']
  obtain ⟨z, hz⟩ := hx _ (List.getElem_mem hj')
  exact ⟨z, by rw [hz]⟩
theorem trR_nodup (m : Nat) (v : Value) : (trR m v).Nodup := by
  unfold trR
  split
  · exact rowT_nodup _ _ _
  · exact List.nodup_nil
end Go.Proofs.Ytgbgjljflgbcaaa
