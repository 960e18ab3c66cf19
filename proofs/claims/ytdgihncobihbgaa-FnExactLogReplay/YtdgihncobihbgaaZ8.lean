/-
  Systems as arguments are opened (by mkz8.py).
-/
import Derived.Test.YtdgihncobihbgaaX7
import Derived.Test.YtdgihncobihbgaaV1
namespace Go.Proofs.Ytdgihncobihbgaa
open Go.ChangeShapes Go.WideShapes Go.ChangeAt Go.RowKit
set_option linter.unusedSimpArgs false
set_option linter.unusedVariables false
set_option maxRecDepth 20000
theorem cells_lputs : Try.prog.cellsOf 75 = 1 := by kernel_rfl
theorem list2 {α : Type} {l : List α} (h : l.length = 2) : ∃ a0 a1, l = [a0, a1] := by
  match l, h with
  | [a0, a1], _ => exact ⟨a0, a1, rfl⟩
theorem list6 {α : Type} {l : List α} (h : l.length = 6) : ∃ a0 a1 a2 a3 a4 a5, l = [a0, a1, a2, a3, a4, a5] := by
  match l, h with
  | [a0, a1, a2, a3, a4, a5], _ => exact ⟨a0, a1, a2, a3, a4, a5, rfl⟩
theorem list13 {α : Type} {l : List α} (h : l.length = 13) : ∃ a0 a1 a2 a3 a4 a5 a6 a7 a8 a9 a10 a11 a12, l = [a0, a1, a2, a3, a4, a5, a6, a7, a8, a9, a10, a11, a12] := by
  match l, h with
  | [a0, a1, a2, a3, a4, a5, a6, a7, a8, a9, a10, a11, a12], _ => exact ⟨a0, a1, a2, a3, a4, a5, a6, a7, a8, a9, a10, a11, a12, rfl⟩
section
variable {H : Type} {enc : TypeId × Value → H} {w : World} {base : Nat} {spare : Nat → Bool} {held : Bool}
theorem rows_cap {P : Program} {t e : TypeId} {fuel c : Nat} {v : Value} {x : DataW H × List MemPlace} (ht : P.underlying t = some (.slice e)) (hc : P.cellsOf e = c) (hc0 : 0 < c)
    (h : DataW.trod enc P w base spare held fuel t [v] = some x) :
    ∃ a len cap n, v = .slice a len cap ∧ (len ≤ cap ∧ cap ≤ 9223372036854775807) ∧ ∀ i, i < len → ∃ b off cs', a = some ⟨b, off, none⟩ ∧ b < w.heap.size ∧ cs'.length = c ∧ (∀ j, j < c → w.cell? ⟨b, off + i * c + j, none⟩ = cs'[j]?) ∧
      ∃ y, DataW.trod enc P w base spare held n e cs' = some y := by
  rcases Go.Deep.open_slice ht h with ⟨h0, _⟩ | ⟨a, len, cap, m, n, D, Pl, h0, hb, hl, hm, hmm, _, hx⟩
  · simp at h0; subst h0
    exact ⟨none, 0, 0, 0, rfl, ⟨Nat.le_refl _, by omega⟩, fun i hi => absurd hi (Nat.not_lt_zero _)⟩
  · simp at h0; subst h0
    refine ⟨some a, len, cap, n, rfl, ⟨hl, by unfold maxLen at hm; omega⟩, fun i hi => ?_⟩
    have him : i < m := by rw [hmm]; split <;> omega
    obtain ⟨cs', h1, h2⟩ := hx i him
    rw [hc] at h1
    have hblk := World.cells?_block h1 hc0
    obtain ⟨_, hlen, hcell⟩ := World.cells?_some h1
    obtain ⟨b, off, spot⟩ := a
    have hsp : spot = none := by
      obtain ⟨ds', k1, _⟩ := hx 0 (by omega)
      rw [hc] at k1
      obtain ⟨_, klen, kcell⟩ := World.cells?_some k1
      have h00 := kcell 0 hc0
      rw [List.getElem?_eq_getElem (by omega)] at h00
      have := World.cell?_spot h00
      simpa [Addr.add] using this
    subst hsp
    rw [add_plain] at hblk
    refine ⟨b, off, cs', rfl, hblk, hlen, fun j hj => ?_, _, h2⟩
    rw [← hcell j hj, Go.Deep.add_add, add_plain, Nat.add_assoc]

theorem puts_of {fuel : Nat} {v : Value} {x : DataW H × List MemPlace} (h : DataW.trod enc Try.prog w base spare held fuel 75 [v] = some x) : ∃ xs, PusAt w v xs := by
  obtain ⟨a, len, cap, n, rfl, hl, hx⟩ := rows_cap Try.underlying75 (c := 2) (by kernel_rfl) (by omega) h
  obtain ⟨f, hf⟩ := @Go.Deep.choose_lt Pu ⟨Pu.z⟩ len (fun i q => ∃ b off, a = some ⟨b, off, none⟩ ∧ b < w.heap.size ∧ w.cell? ⟨b, off + i * 2, none⟩ = some (.int .i64 q.c) ∧ w.cell? ⟨b, off + i * 2 + 1, none⟩ = some (.int .i64 q.n)) (fun i hi => by
    obtain ⟨b, off, cs', e, hb, hlen, hcell, y, hy⟩ := hx i hi
    obtain ⟨c0, c1, rfl⟩ := list2 hlen
    obtain ⟨ys, m, _, _, _, hyl, hF⟩ := DataW.trod_struct Try.underlying124 hy
    have hyl' : ys.length = 2 := hyl
    have g0 := hF 0 _ rfl
    rw [List.getElem?_eq_getElem (by omega)] at g0
    simp [Try.cells_int, Try.cells_lints, cells_lputs, List.drop_zero, List.drop_succ_cons, List.take_succ_cons, List.take_zero] at g0
    obtain ⟨q0, e0, _⟩ := DataW.trod_int Try.underlying3 g0
    simp at e0
    subst e0
    have g1 := hF 1 _ rfl
    rw [List.getElem?_eq_getElem (by omega)] at g1
    simp [Try.cells_int, Try.cells_lints, cells_lputs, List.drop_zero, List.drop_succ_cons, List.take_succ_cons, List.take_zero] at g1
    obtain ⟨q1, e1, _⟩ := DataW.trod_int Try.underlying3 g1
    simp at e1
    subst e1
    exact ⟨⟨q0, q1⟩, b, off, e, hb, by simpa using hcell 0 (by omega), by simpa using hcell 1 (by omega)⟩)
  refine ⟨(List.range len).map f, a, cap, by simp, by simpa using hl, fun i hi => ?_⟩
  have hi' : i < len := by simpa using hi
  obtain ⟨b, off, e, hb, hc⟩ := hf i hi'
  exact ⟨b, off, e, hb, by rw [nth_range _ _ _ _ hi']; exact hc⟩
theorem entries_of {fuel : Nat} {v : Value} {x : DataW H × List MemPlace} (h : DataW.trod enc Try.prog w base spare held fuel 43 [v] = some x) : ∃ xs, EnsAt w v xs := by
  obtain ⟨a, len, cap, n, rfl, hl, hx⟩ := rows_cap Try.underlying43 (c := 6) (by kernel_rfl) (by omega) h
  obtain ⟨f, hf⟩ := @Go.Deep.choose_lt En ⟨En.z⟩ len (fun i q => ∃ b off v3 v4, a = some ⟨b, off, none⟩ ∧ b < w.heap.size ∧ w.cell? ⟨b, off + i * 6, none⟩ = some (.int .i64 q.task) ∧ w.cell? ⟨b, off + i * 6 + 1, none⟩ = some (.int .i64 q.act) ∧ w.cell? ⟨b, off + i * 6 + 2, none⟩ = some (.int .i64 q.when_) ∧ w.cell? ⟨b, off + i * 6 + 3, none⟩ = some (v3) ∧ w.cell? ⟨b, off + i * 6 + 4, none⟩ = some (v4) ∧ w.cell? ⟨b, off + i * 6 + 5, none⟩ = some (.int .i64 q.from_) ∧ PusAt w v3 q.reads ∧ PusAt w v4 q.puts) (fun i hi => by
    obtain ⟨b, off, cs', e, hb, hlen, hcell, y, hy⟩ := hx i hi
    obtain ⟨c0, c1, c2, c3, c4, c5, rfl⟩ := list6 hlen
    obtain ⟨ys, m, _, _, _, hyl, hF⟩ := DataW.trod_struct Try.underlying77 hy
    have hyl' : ys.length = 6 := hyl
    have g0 := hF 0 _ rfl
    rw [List.getElem?_eq_getElem (by omega)] at g0
    simp [Try.cells_int, Try.cells_lints, cells_lputs, List.drop_zero, List.drop_succ_cons, List.take_succ_cons, List.take_zero] at g0
    obtain ⟨q0, e0, _⟩ := DataW.trod_int Try.underlying3 g0
    simp at e0
    subst e0
    have g1 := hF 1 _ rfl
    rw [List.getElem?_eq_getElem (by omega)] at g1
    simp [Try.cells_int, Try.cells_lints, cells_lputs, List.drop_zero, List.drop_succ_cons, List.take_succ_cons, List.take_zero] at g1
    obtain ⟨q1, e1, _⟩ := DataW.trod_int Try.underlying3 g1
    simp at e1
    subst e1
    have g2 := hF 2 _ rfl
    rw [List.getElem?_eq_getElem (by omega)] at g2
    simp [Try.cells_int, Try.cells_lints, cells_lputs, List.drop_zero, List.drop_succ_cons, List.take_succ_cons, List.take_zero] at g2
    obtain ⟨q2, e2, _⟩ := DataW.trod_int Try.underlying3 g2
    simp at e2
    subst e2
    have g3 := hF 3 _ rfl
    rw [List.getElem?_eq_getElem (by omega)] at g3
    simp [Try.cells_int, Try.cells_lints, cells_lputs, List.drop_zero, List.drop_succ_cons, List.take_succ_cons, List.take_zero] at g3
    obtain ⟨l3, hl3⟩ := puts_of g3
    have g4 := hF 4 _ rfl
    rw [List.getElem?_eq_getElem (by omega)] at g4
    simp [Try.cells_int, Try.cells_lints, cells_lputs, List.drop_zero, List.drop_succ_cons, List.take_succ_cons, List.take_zero] at g4
    obtain ⟨l4, hl4⟩ := puts_of g4
    have g5 := hF 5 _ rfl
    rw [List.getElem?_eq_getElem (by omega)] at g5
    simp [Try.cells_int, Try.cells_lints, cells_lputs, List.drop_zero, List.drop_succ_cons, List.take_succ_cons, List.take_zero] at g5
    obtain ⟨q5, e5, _⟩ := DataW.trod_int Try.underlying3 g5
    simp at e5
    subst e5
    exact ⟨⟨q0, q1, q2, l3, l4, q5⟩, b, off, c3, c4, e, hb, by simpa using hcell 0 (by omega), by simpa using hcell 1 (by omega), by simpa using hcell 2 (by omega), by simpa using hcell 3 (by omega), by simpa using hcell 4 (by omega), by simpa using hcell 5 (by omega), hl3, hl4⟩)
  refine ⟨(List.range len).map f, a, cap, by simp, by simpa using hl, fun i hi => ?_⟩
  have hi' : i < len := by simpa using hi
  obtain ⟨b, off, v3, v4, e, hb, hc⟩ := hf i hi'
  exact ⟨b, off, v3, v4, e, hb, by rw [nth_range _ _ _ _ hi']; exact hc⟩
end
end Go.Proofs.Ytdgihncobihbgaa
