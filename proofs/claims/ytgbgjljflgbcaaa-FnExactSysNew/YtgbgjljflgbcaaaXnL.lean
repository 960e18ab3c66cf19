import Derived.Test.YtgbgjljflgbcaaaXn19
import Derived.ProofKit
import Derived.Deep.Slices
import Derived.Deep.Strs
import Derived.Lib.SmallJoins
namespace Go.Proofs.Ytgbgjljflgbcaaa
open Go.ChangeShapes Go.WideShapes Go.ChangeAt Go.RowKit
set_option linter.unusedSimpArgs false
set_option linter.unusedVariables false
theorem Try.cells_int : Try.prog.cellsOf 3 = 1 := by kernel_rfl
theorem Try.cells_lints : Try.prog.cellsOf 23 = 1 := by kernel_rfl
theorem Try.cells_ldeed : Try.prog.cellsOf 184 = 3 := by kernel_rfl
theorem Try.cells_ldeeds : Try.prog.cellsOf 153 = 1 := by kernel_rfl
theorem Try.cells_lact : Try.prog.cellsOf 155 = 4 := by kernel_rfl
theorem Try.cells_lacts : Try.prog.cellsOf 133 = 1 := by kernel_rfl
theorem nth_range {α : Type} (z : α) (f : Nat → α) (n i : Nat) (h : i < n) : nth z ((List.range n).map f) i = f i := by
  simp [nth, h]
section
variable {H : Type} {enc : TypeId × Value → H} {w : World} {base : Nat} {spare : Nat → Bool} {held : Bool}
theorem rows_of {P : Program} {t e : TypeId} {fuel c : Nat} {v : Value} {x : DataW H × List MemPlace} (ht : P.underlying t = some (.slice e)) (hc : P.cellsOf e = c) (hc0 : 0 < c)
    (h : DataW.trod enc P w base spare held fuel t [v] = some x) :
    ∃ a len cap n, v = .slice a len cap ∧ len ≤ 9223372036854775807 ∧ ∀ i, i < len → ∃ b off cs', a = some ⟨b, off, none⟩ ∧ b < w.heap.size ∧ cs'.length = c ∧ (∀ j, j < c → w.cell? ⟨b, off + i * c + j, none⟩ = cs'[j]?) ∧
      ∃ y, DataW.trod enc P w base spare held n e cs' = some y := by
  rcases Go.Deep.open_slice ht h with ⟨h0, _⟩ | ⟨a, len, cap, m, n, D, Pl, h0, hb, hl, hm, hmm, _, hx⟩
  · simp at h0; subst h0
    exact ⟨none, 0, 0, 0, rfl, by omega, fun i hi => absurd hi (Nat.not_lt_zero _)⟩
  · simp at h0; subst h0
    refine ⟨some a, len, cap, n, rfl, by unfold maxLen at hm; omega, fun i hi => ?_⟩
    have him : i < m := by rw [hmm]; split <;> omega
    obtain ⟨cs', h1, h2⟩ := hx i him
    rw [hc] at h1
    have hblk := World.cells?_block h1 hc0
    obtain ⟨_, hlen, hcell⟩ := World.cells?_some h1
    obtain ⟨b, off, spot⟩ := a
    have hsp : spot = none := by
      obtain ⟨ds', k1, _⟩ := hx 0 (by omega)
      rw [hc] at k1
      obtain ⟨_, klen, kcell⟩ := World.cells?_some k1
      have h00 := kcell 0 hc0
      rw [List.getElem?_eq_getElem (by omega)] at h00
      have := World.cell?_spot h00
      simpa [Addr.add] using this
    subst hsp
    rw [add_plain] at hblk
    refine ⟨b, off, cs', rfl, hblk, hlen, fun j hj => ?_, _, h2⟩
    rw [← hcell j hj, Go.Deep.add_add, add_plain, Nat.add_assoc]
theorem ints_of {fuel : Nat} {v : Value} {x : DataW H × List MemPlace} (h : DataW.trod enc Try.prog w base spare held fuel 23 [v] = some x) : ∃ xs, IntsAt w v xs := by
  obtain ⟨a, len, cap, n, rfl, hl, hx⟩ := rows_of Try.underlying23 Try.cells_int (by omega) h
  obtain ⟨f, hf⟩ := Go.Deep.choose_lt (α := Int) (n := len) (p := fun i q => ∃ b off, a = some ⟨b, off, none⟩ ∧ b < w.heap.size ∧ w.cell? ⟨b, off + i, none⟩ = some (.int .i64 q)) (fun i hi => by
    obtain ⟨b, off, cs', e, hb, hlen, hcell, y, hy⟩ := hx i hi
    obtain ⟨q, hq, _⟩ := DataW.trod_int Try.underlying3 hy
    subst hq
    exact ⟨q, b, off, e, hb, by have := hcell 0 (by omega); simpa using this⟩)
  refine ⟨(List.range len).map f, a, cap, by simp, by simpa using hl, fun i hi => ?_⟩
  have hi' : i < len := by simpa using hi
  obtain ⟨b, off, e, hb, hc⟩ := hf i hi'
  exact ⟨b, off, e, hb, by rw [nth_range _ _ _ _ hi']; exact hc⟩
theorem list3 {α : Type} {l : List α} (h : l.length = 3) : ∃ a b c, l = [a, b, c] := by
  match l, h with
  | [a, b, c], _ => exact ⟨a, b, c, rfl⟩
theorem list4 {α : Type} {l : List α} (h : l.length = 4) : ∃ a b c d, l = [a, b, c, d] := by
  match l, h with
  | [a, b, c, d], _ => exact ⟨a, b, c, d, rfl⟩
theorem deeds_of {fuel : Nat} {v : Value} {x : DataW H × List MemPlace} (h : DataW.trod enc Try.prog w base spare held fuel 153 [v] = some x) : ∃ xs, DeedsAt w v xs := by
  obtain ⟨a, len, cap, n, rfl, hl, hx⟩ := rows_of Try.underlying153 Try.cells_ldeed (by omega) h
  obtain ⟨f, hf⟩ := Go.Deep.choose_lt (α := Int × Int × Int) (n := len) (p := fun i q => ∃ b off, a = some ⟨b, off, none⟩ ∧ b < w.heap.size ∧ w.cell? ⟨b, off + i * 3, none⟩ = some (.int .i64 q.1) ∧ w.cell? ⟨b, off + i * 3 + 1, none⟩ = some (.int .i64 q.2.1) ∧ w.cell? ⟨b, off + i * 3 + 2, none⟩ = some (.int .i64 q.2.2)) (fun i hi => by
    obtain ⟨b, off, cs', e, hb, hlen, hcell, y, hy⟩ := hx i hi
    obtain ⟨c0, c1, c2, rfl⟩ := list3 hlen
    obtain ⟨y0, y1, y2, m, _, _, h0, h1, h2⟩ := Go.Deep.trod_struct3 Try.underlying184 hy
    simp only [Try.cells_int, List.drop_zero, List.drop_succ_cons, List.take_succ_cons, List.take_zero] at h0 h1 h2
    obtain ⟨q0, e0, _⟩ := DataW.trod_int Try.underlying3 h0
    obtain ⟨q1, e1, _⟩ := DataW.trod_int Try.underlying3 h1
    obtain ⟨q2, e2, _⟩ := DataW.trod_int Try.underlying3 h2
    simp at e0 e1 e2
    subst e0 e1 e2
    exact ⟨(q0, q1, q2), b, off, e, hb, by simpa using hcell 0 (by omega), by simpa using hcell 1 (by omega), by simpa using hcell 2 (by omega)⟩)
  refine ⟨(List.range len).map (fun i => ⟨(f i).1, (f i).2.1, (f i).2.2⟩), a, cap, by simp, by simpa using hl, fun i hi => ?_⟩
  have hi' : i < len := by simpa using hi
  obtain ⟨b, off, e, hb, hc⟩ := hf i hi'
  exact ⟨b, off, e, hb, by rw [nth_range _ _ _ _ hi']; exact hc⟩
theorem acts_of {fuel : Nat} {v : Value} {x : DataW H × List MemPlace} (h : DataW.trod enc Try.prog w base spare held fuel 133 [v] = some x) : ∃ xs, ActsAt w v xs := by
  obtain ⟨a, len, cap, n, rfl, hl, hx⟩ := rows_of Try.underlying133 Try.cells_lact (by omega) h
  obtain ⟨f, hf⟩ := @Go.Deep.choose_lt Ac ⟨Ac.z⟩ len (fun i q => ∃ b off dv kv, a = some ⟨b, off, none⟩ ∧ b < w.heap.size ∧ w.cell? ⟨b, off + i * 4, none⟩ = some (.int .i64 q.k) ∧ w.cell? ⟨b, off + i * 4 + 1, none⟩ = some dv ∧ w.cell? ⟨b, off + i * 4 + 2, none⟩ = some kv ∧ w.cell? ⟨b, off + i * 4 + 3, none⟩ = some (.int .i64 q.r) ∧ DeedsAt w dv q.ds ∧ IntsAt w kv q.ks) (fun i hi => by
    obtain ⟨b, off, cs', e, hb, hlen, hcell, y, hy⟩ := hx i hi
    obtain ⟨c0, c1, c2, c3, rfl⟩ := list4 hlen
    obtain ⟨y0, y1, y2, y3, m, _, _, h0, h1, h2, h3⟩ := Go.Joins.trod_struct4 Try.underlying155 hy
    simp only [Try.cells_int, Try.cells_ldeeds, Try.cells_lints, List.drop_zero, List.drop_succ_cons, List.take_succ_cons, List.take_zero] at h0 h1 h2 h3
    obtain ⟨q0, e0, _⟩ := DataW.trod_int Try.underlying3 h0
    obtain ⟨q3, e3, _⟩ := DataW.trod_int Try.underlying3 h3
    obtain ⟨ds, hds⟩ := deeds_of h1
    obtain ⟨ks, hks⟩ := ints_of h2
    simp at e0 e3
    subst e0 e3
    exact ⟨⟨q0, ds, ks, q3⟩, b, off, c1, c2, e, hb, by simpa using hcell 0 (by omega), by simpa using hcell 1 (by omega), by simpa using hcell 2 (by omega), by simpa using hcell 3 (by omega), hds, hks⟩)
  refine ⟨(List.range len).map f, a, cap, by simp, by simpa using hl, fun i hi => ?_⟩
  have hi' : i < len := by simpa using hi
  obtain ⟨b, off, dv, kv, e, hb, hc⟩ := hf i hi'
  exact ⟨b, off, dv, kv, e, hb, by rw [nth_range _ _ _ _ hi']; exact hc⟩
theorem bodies_of {fuel : Nat} {v : Value} {x : DataW H × List MemPlace} (h : DataW.trod enc Try.prog w base spare held fuel 56 [v] = some x) : ∃ xs, BodiesAt w v xs := by
  obtain ⟨a, len, cap, n, rfl, hl, hx⟩ := rows_of Try.underlying56 Try.cells_lacts (by omega) h
  obtain ⟨f, hf⟩ := Go.Deep.choose_lt (α := List Ac) (n := len) (p := fun i q => ∃ b off av, a = some ⟨b, off, none⟩ ∧ b < w.heap.size ∧ w.cell? ⟨b, off + i, none⟩ = some av ∧ ActsAt w av q) (fun i hi => by
    obtain ⟨b, off, cs', e, hb, hlen, hcell, y, hy⟩ := hx i hi
    obtain ⟨c0, rfl⟩ : ∃ c0, cs' = [c0] := by
      match cs', hlen with
      | [c0], _ => exact ⟨c0, rfl⟩
    obtain ⟨q, hq⟩ := acts_of hy
    exact ⟨q, b, off, c0, e, hb, by simpa using hcell 0 (by omega), hq⟩)
  refine ⟨(List.range len).map f, a, cap, by simp, by simpa using hl, fun i hi => ?_⟩
  have hi' : i < len := by simpa using hi
  obtain ⟨b, off, av, e, hb, hc⟩ := hf i hi'
  exact ⟨b, off, av, e, hb, by rw [nth_range _ _ _ _ hi']; exact hc⟩
end
end Go.Proofs.Ytgbgjljflgbcaaa
