/-
  Systems as arguments are opened (by mkz8.py).
-/
import Derived.Test.YteebdfifbmpmhaaX7
import Derived.Test.YteebdfifbmpmhaaV1
namespace Go.Proofs.Yteebdfifbmpmhaa
open Go.ChangeShapes Go.WideShapes Go.ChangeAt Go.RowKit
set_option linter.unusedSimpArgs false
set_option linter.unusedVariables false
set_option maxRecDepth 20000
theorem cells_lputs : Try.prog.cellsOf 108 = 1 := by kernel_rfl
theorem list2 {α : Type} {l : List α} (h : l.length = 2) : ∃ a0 a1, l = [a0, a1] := by
  match l, h with
  | [a0, a1], _ => exact ⟨a0, a1, rfl⟩
theorem list6 {α : Type} {l : List α} (h : l.length = 6) : ∃ a0 a1 a2 a3 a4 a5, l = [a0, a1, a2, a3, a4, a5] := by
  match l, h with
  | [a0, a1, a2, a3, a4, a5], _ => exact ⟨a0, a1, a2, a3, a4, a5, rfl⟩
theorem list13 {α : Type} {l : List α} (h : l.length = 13) : ∃ a0 a1 a2 a3 a4 a5 a6 a7 a8 a9 a10 a11 a12, l = [a0, a1, a2, a3, a4, a5, a6, a7, a8, a9, a10, a11, a12] := by
  match l, h with
  | [a0, a1, a2, a3, a4, a5, a6, a7, a8, a9, a10, a11, a12], _ => exact ⟨a0, a1, a2, a3, a4, a5, a6, a7, a8, a9, a10, a11, a12, rfl⟩
section
variable {H : Type} {enc : TypeId × Value → H} {w : World} {base : Nat} {spare : Nat → Bool} {held : Bool}
theorem rows_cap {P : Program} {t e : TypeId} {fuel c : Nat} {v : Value} {x : DataW H × List MemPlace} (ht : P.underlying t = some (.slice e)) (hc : P.cellsOf e = c) (hc0 : 0 < c)
    (h : DataW.trod enc P w base spare held fuel t [v] = some x) :
    ∃ a len cap n, v = .slice a len cap ∧ (len ≤ cap ∧ cap ≤ 9223372036854775807) ∧ ∀ i, i < len → ∃ b off cs', a = some ⟨b, off, none⟩ ∧ b < w.heap.size ∧ cs'.length = c ∧ (∀ j, j < c → w.cell? ⟨b, off + i * c + j, none⟩ = cs'[j]?) ∧
      ∃ y, DataW.trod enc P w base spare held n e cs' = some y := by
  rcases Go.Deep.open_slice ht h with ⟨h0, _⟩ | ⟨a, len, cap, m, n, D, Pl, h0, hb, hl, hm, hmm, _, hx⟩
  · simp at h0; subst h0
    exact ⟨none, 0, 0, 0, rfl, ⟨Nat.le_refl _, by omega⟩, fun i hi => absurd hi (Nat.not_lt_zero _)⟩
  · simp at h0; subst h0
    refine ⟨some a, len, cap, n, rfl, ⟨hl, by unfold maxLen at hm; omega⟩, fun i hi => ?_⟩
    have him : i < m := by rw [hmm]; split <;> omega
    obtain ⟨cs', h1, h2⟩ := hx i him
    rw [hc] at h1
    have hblk := World.cells?_block h1 hc0
    obtain ⟨_, hlen, hcell⟩ := World.cells?_some h1
    obtain ⟨b, off, spot⟩ := a
    have hsp : spot = none := by
      obtain ⟨ds', k1, _⟩ := hx 0 (by omega)
      rw [hc] at k1
      obtain ⟨_, klen, kcell⟩ := World.cells?_some k1
      have h00 := kcell 0 hc0
      rw [List.getElem?_eq_getElem (by omega)] at h00
      have := World.cell?_spot h00
      simpa [Addr.add] using this
    subst hsp
    rw [add_plain] at hblk
    refine ⟨b, off, cs', rfl, hblk, hlen, fun j hj => ?_, _, h2⟩
    rw [← hcell j hj, Go.Deep.add_add, add_plain, Nat.add_assoc]

theorem puts_of {fuel : Nat} {v : Value} {x : DataW H × List MemPlace} (h : DataW.trod enc Try.prog w base spare held fuel 108 [v] = some x) : ∃ xs, PusAt w v xs := by
  obtain ⟨a, len, cap, n, rfl, hl, hx⟩ := rows_cap Try.underlying108 (c := 2) (by kernel_rfl) (by omega) h
  obtain ⟨f, hf⟩ := @Go.Deep.choose_lt Pu ⟨Pu.z⟩ len (fun i q => ∃ b off, a = some ⟨b, off, none⟩ ∧ b < w.heap.size ∧ w.cell? ⟨b, off + i * 2, none⟩ = some (.int .i64 q.c) ∧ w.cell? ⟨b, off + i * 2 + 1, none⟩ = some (.int .i64 q.n)) (fun i hi => by
    obtain ⟨b, off, cs', e, hb, hlen, hcell, y, hy⟩ := hx i hi
    obtain ⟨c0, c1, rfl⟩ := list2 hlen
    obtain ⟨ys, m, _, _, _, hyl, hF⟩ := DataW.trod_struct Try.underlying165 hy
    have hyl' : ys.length = 2 := hyl
    have g0 := hF 0 _ rfl
    rw [List.getElem?_eq_getElem (by omega)] at g0
    simp [Try.cells_int, Try.cells_lints, cells_lputs, List.drop_zero, List.drop_succ_cons, List.take_succ_cons, List.take_zero] at g0
    obtain ⟨q0, e0, _⟩ := DataW.trod_int Try.underlying3 g0
    simp at e0
    subst e0
    have g1 := hF 1 _ rfl
    rw [List.getElem?_eq_getElem (by omega)] at g1
    simp [Try.cells_int, Try.cells_lints, cells_lputs, List.drop_zero, List.drop_succ_cons, List.take_succ_cons, List.take_zero] at g1
    obtain ⟨q1, e1, _⟩ := DataW.trod_int Try.underlying3 g1
    simp at e1
    subst e1
    exact ⟨⟨q0, q1⟩, b, off, e, hb, by simpa using hcell 0 (by omega), by simpa using hcell 1 (by omega)⟩)
  refine ⟨(List.range len).map f, a, cap, by simp, by simpa using hl, fun i hi => ?_⟩
  have hi' : i < len := by simpa using hi
  obtain ⟨b, off, e, hb, hc⟩ := hf i hi'
  exact ⟨b, off, e, hb, by rw [nth_range _ _ _ _ hi']; exact hc⟩
theorem cells_of {fuel : Nat} {v : Value} {x : DataW H × List MemPlace} (h : DataW.trod enc Try.prog w base spare held fuel 43 [v] = some x) : ∃ xs, CesAt w v xs := by
  obtain ⟨a, len, cap, n, rfl, hl, hx⟩ := rows_cap Try.underlying43 (c := 3) (by kernel_rfl) (by omega) h
  obtain ⟨f, hf⟩ := @Go.Deep.choose_lt Ce ⟨Ce.z⟩ len (fun i q => ∃ b off, a = some ⟨b, off, none⟩ ∧ b < w.heap.size ∧ w.cell? ⟨b, off + i * 3, none⟩ = some (.int .i64 q.num) ∧ w.cell? ⟨b, off + i * 3 + 1, none⟩ = some (.int .i64 q.time) ∧ w.cell? ⟨b, off + i * 3 + 2, none⟩ = some (.int .i64 q.lock)) (fun i hi => by
    obtain ⟨b, off, cs', e, hb, hlen, hcell, y, hy⟩ := hx i hi
    obtain ⟨c0, c1, c2, rfl⟩ := list3 hlen
    obtain ⟨ys, m, _, _, _, hyl, hF⟩ := DataW.trod_struct Try.underlying115 hy
    have hyl' : ys.length = 3 := hyl
    have g0 := hF 0 _ rfl
    rw [List.getElem?_eq_getElem (by omega)] at g0
    simp [Try.cells_int, Try.cells_lints, cells_lputs, List.drop_zero, List.drop_succ_cons, List.take_succ_cons, List.take_zero] at g0
    obtain ⟨q0, e0, _⟩ := DataW.trod_int Try.underlying3 g0
    simp at e0
    subst e0
    have g1 := hF 1 _ rfl
    rw [List.getElem?_eq_getElem (by omega)] at g1
    simp [Try.cells_int, Try.cells_lints, cells_lputs, List.drop_zero, List.drop_succ_cons, List.take_succ_cons, List.take_zero] at g1
    obtain ⟨q1, e1, _⟩ := DataW.trod_int Try.underlying3 g1
    simp at e1
    subst e1
    have g2 := hF 2 _ rfl
    rw [List.getElem?_eq_getElem (by omega)] at g2
    simp [Try.cells_int, Try.cells_lints, cells_lputs, List.drop_zero, List.drop_succ_cons, List.take_succ_cons, List.take_zero] at g2
    obtain ⟨q2, e2, _⟩ := DataW.trod_int Try.underlying3 g2
    simp at e2
    subst e2
    exact ⟨⟨q0, q1, q2⟩, b, off, e, hb, by simpa using hcell 0 (by omega), by simpa using hcell 1 (by omega), by simpa using hcell 2 (by omega)⟩)
  refine ⟨(List.range len).map f, a, cap, by simp, by simpa using hl, fun i hi => ?_⟩
  have hi' : i < len := by simpa using hi
  obtain ⟨b, off, e, hb, hc⟩ := hf i hi'
  exact ⟨b, off, e, hb, by rw [nth_range _ _ _ _ hi']; exact hc⟩
theorem tasks_of {fuel : Nat} {v : Value} {x : DataW H × List MemPlace} (h : DataW.trod enc Try.prog w base spare held fuel 44 [v] = some x) : ∃ xs, TasAt w v xs := by
  obtain ⟨a, len, cap, n, rfl, hl, hx⟩ := rows_cap Try.underlying44 (c := 13) (by kernel_rfl) (by omega) h
  obtain ⟨f, hf⟩ := @Go.Deep.choose_lt Ta ⟨Ta.z⟩ len (fun i q => ∃ b off v3 v8 v9 v10, a = some ⟨b, off, none⟩ ∧ b < w.heap.size ∧ w.cell? ⟨b, off + i * 13, none⟩ = some (.int .i64 q.body) ∧ w.cell? ⟨b, off + i * 13 + 1, none⟩ = some (.int .i64 q.pc) ∧ w.cell? ⟨b, off + i * 13 + 2, none⟩ = some (.int .i64 q.up) ∧ w.cell? ⟨b, off + i * 13 + 3, none⟩ = some (v3) ∧ w.cell? ⟨b, off + i * 13 + 4, none⟩ = some (.int .i64 q.way) ∧ w.cell? ⟨b, off + i * 13 + 5, none⟩ = some (.int .i64 q.stage) ∧ w.cell? ⟨b, off + i * 13 + 6, none⟩ = some (.int .i64 q.at_) ∧ w.cell? ⟨b, off + i * 13 + 7, none⟩ = some (.int .i64 q.since) ∧ w.cell? ⟨b, off + i * 13 + 8, none⟩ = some (v8) ∧ w.cell? ⟨b, off + i * 13 + 9, none⟩ = some (v9) ∧ w.cell? ⟨b, off + i * 13 + 10, none⟩ = some (v10) ∧ w.cell? ⟨b, off + i * 13 + 11, none⟩ = some (.int .i64 q.when_) ∧ w.cell? ⟨b, off + i * 13 + 12, none⟩ = some (.int .i64 q.from_) ∧ IntsAt w v3 q.regs ∧ IntsAt w v8 q.old ∧ PusAt w v9 q.reads ∧ PusAt w v10 q.puts) (fun i hi => by
    obtain ⟨b, off, cs', e, hb, hlen, hcell, y, hy⟩ := hx i hi
    obtain ⟨c0, c1, c2, c3, c4, c5, c6, c7, c8, c9, c10, c11, c12, rfl⟩ := list13 hlen
    obtain ⟨ys, m, _, _, _, hyl, hF⟩ := DataW.trod_struct Try.underlying110 hy
    have hyl' : ys.length = 13 := hyl
    have g0 := hF 0 _ rfl
    rw [List.getElem?_eq_getElem (by omega)] at g0
    simp [Try.cells_int, Try.cells_lints, cells_lputs, List.drop_zero, List.drop_succ_cons, List.take_succ_cons, List.take_zero] at g0
    obtain ⟨q0, e0, _⟩ := DataW.trod_int Try.underlying3 g0
    simp at e0
    subst e0
    have g1 := hF 1 _ rfl
    rw [List.getElem?_eq_getElem (by omega)] at g1
    simp [Try.cells_int, Try.cells_lints, cells_lputs, List.drop_zero, List.drop_succ_cons, List.take_succ_cons, List.take_zero] at g1
    obtain ⟨q1, e1, _⟩ := DataW.trod_int Try.underlying3 g1
    simp at e1
    subst e1
    have g2 := hF 2 _ rfl
    rw [List.getElem?_eq_getElem (by omega)] at g2
    simp [Try.cells_int, Try.cells_lints, cells_lputs, List.drop_zero, List.drop_succ_cons, List.take_succ_cons, List.take_zero] at g2
    obtain ⟨q2, e2, _⟩ := DataW.trod_int Try.underlying3 g2
    simp at e2
    subst e2
    have g3 := hF 3 _ rfl
    rw [List.getElem?_eq_getElem (by omega)] at g3
    simp [Try.cells_int, Try.cells_lints, cells_lputs, List.drop_zero, List.drop_succ_cons, List.take_succ_cons, List.take_zero] at g3
    obtain ⟨l3, hl3⟩ := ints_of g3
    have g4 := hF 4 _ rfl
    rw [List.getElem?_eq_getElem (by omega)] at g4
    simp [Try.cells_int, Try.cells_lints, cells_lputs, List.drop_zero, List.drop_succ_cons, List.take_succ_cons, List.take_zero] at g4
    obtain ⟨q4, e4, _⟩ := DataW.trod_int Try.underlying3 g4
    simp at e4
    subst e4
    have g5 := hF 5 _ rfl
    rw [List.getElem?_eq_getElem (by omega)] at g5
    simp [Try.cells_int, Try.cells_lints, cells_lputs, List.drop_zero, List.drop_succ_cons, List.take_succ_cons, List.take_zero] at g5
    obtain ⟨q5, e5, _⟩ := DataW.trod_int Try.underlying3 g5
    simp at e5
    subst e5
    have g6 := hF 6 _ rfl
    rw [List.getElem?_eq_getElem (by omega)] at g6
    simp [Try.cells_int, Try.cells_lints, cells_lputs, List.drop_zero, List.drop_succ_cons, List.take_succ_cons, List.take_zero] at g6
    obtain ⟨q6, e6, _⟩ := DataW.trod_int Try.underlying3 g6
    simp at e6
    subst e6
    have g7 := hF 7 _ rfl
    rw [List.getElem?_eq_getElem (by omega)] at g7
    simp [Try.cells_int, Try.cells_lints, cells_lputs, List.drop_zero, List.drop_succ_cons, List.take_succ_cons, List.take_zero] at g7
    obtain ⟨q7, e7, _⟩ := DataW.trod_int Try.underlying3 g7
    simp at e7
    subst e7
    have g8 := hF 8 _ rfl
    rw [List.getElem?_eq_getElem (by omega)] at g8
    simp [Try.cells_int, Try.cells_lints, cells_lputs, List.drop_zero, List.drop_succ_cons, List.take_succ_cons, List.take_zero] at g8
    obtain ⟨l8, hl8⟩ := ints_of g8
    have g9 := hF 9 _ rfl
    rw [List.getElem?_eq_getElem (by omega)] at g9
    simp [Try.cells_int, Try.cells_lints, cells_lputs, List.drop_zero, List.drop_succ_cons, List.take_succ_cons, List.take_zero] at g9
    obtain ⟨l9, hl9⟩ := puts_of g9
    have g10 := hF 10 _ rfl
    rw [List.getElem?_eq_getElem (by omega)] at g10
    simp [Try.cells_int, Try.cells_lints, cells_lputs, List.drop_zero, List.drop_succ_cons, List.take_succ_cons, List.take_zero] at g10
    obtain ⟨l10, hl10⟩ := puts_of g10
    have g11 := hF 11 _ rfl
    rw [List.getElem?_eq_getElem (by omega)] at g11
    simp [Try.cells_int, Try.cells_lints, cells_lputs, List.drop_zero, List.drop_succ_cons, List.take_succ_cons, List.take_zero] at g11
    obtain ⟨q11, e11, _⟩ := DataW.trod_int Try.underlying3 g11
    simp at e11
    subst e11
    have g12 := hF 12 _ rfl
    rw [List.getElem?_eq_getElem (by omega)] at g12
    simp [Try.cells_int, Try.cells_lints, cells_lputs, List.drop_zero, List.drop_succ_cons, List.take_succ_cons, List.take_zero] at g12
    obtain ⟨q12, e12, _⟩ := DataW.trod_int Try.underlying3 g12
    simp at e12
    subst e12
    exact ⟨⟨q0, q1, q2, l3, q4, q5, q6, q7, l8, l9, l10, q11, q12⟩, b, off, c3, c8, c9, c10, e, hb, by simpa using hcell 0 (by omega), by simpa using hcell 1 (by omega), by simpa using hcell 2 (by omega), by simpa using hcell 3 (by omega), by simpa using hcell 4 (by omega), by simpa using hcell 5 (by omega), by simpa using hcell 6 (by omega), by simpa using hcell 7 (by omega), by simpa using hcell 8 (by omega), by simpa using hcell 9 (by omega), by simpa using hcell 10 (by omega), by simpa using hcell 11 (by omega), by simpa using hcell 12 (by omega), hl3, hl8, hl9, hl10⟩)
  refine ⟨(List.range len).map f, a, cap, by simp, by simpa using hl, fun i hi => ?_⟩
  have hi' : i < len := by simpa using hi
  obtain ⟨b, off, v3, v8, v9, v10, e, hb, hc⟩ := hf i hi'
  exact ⟨b, off, v3, v8, v9, v10, e, hb, by rw [nth_range _ _ _ _ hi']; exact hc⟩
theorem entries_of {fuel : Nat} {v : Value} {x : DataW H × List MemPlace} (h : DataW.trod enc Try.prog w base spare held fuel 45 [v] = some x) : ∃ xs, EnsAt w v xs := by
  obtain ⟨a, len, cap, n, rfl, hl, hx⟩ := rows_cap Try.underlying45 (c := 6) (by kernel_rfl) (by omega) h
  obtain ⟨f, hf⟩ := @Go.Deep.choose_lt En ⟨En.z⟩ len (fun i q => ∃ b off v3 v4, a = some ⟨b, off, none⟩ ∧ b < w.heap.size ∧ w.cell? ⟨b, off + i * 6, none⟩ = some (.int .i64 q.task) ∧ w.cell? ⟨b, off + i * 6 + 1, none⟩ = some (.int .i64 q.act) ∧ w.cell? ⟨b, off + i * 6 + 2, none⟩ = some (.int .i64 q.when_) ∧ w.cell? ⟨b, off + i * 6 + 3, none⟩ = some (v3) ∧ w.cell? ⟨b, off + i * 6 + 4, none⟩ = some (v4) ∧ w.cell? ⟨b, off + i * 6 + 5, none⟩ = some (.int .i64 q.from_) ∧ PusAt w v3 q.reads ∧ PusAt w v4 q.puts) (fun i hi => by
    obtain ⟨b, off, cs', e, hb, hlen, hcell, y, hy⟩ := hx i hi
    obtain ⟨c0, c1, c2, c3, c4, c5, rfl⟩ := list6 hlen
    obtain ⟨ys, m, _, _, _, hyl, hF⟩ := DataW.trod_struct Try.underlying113 hy
    have hyl' : ys.length = 6 := hyl
    have g0 := hF 0 _ rfl
    rw [List.getElem?_eq_getElem (by omega)] at g0
    simp [Try.cells_int, Try.cells_lints, cells_lputs, List.drop_zero, List.drop_succ_cons, List.take_succ_cons, List.take_zero] at g0
    obtain ⟨q0, e0, _⟩ := DataW.trod_int Try.underlying3 g0
    simp at e0
    subst e0
    have g1 := hF 1 _ rfl
    rw [List.getElem?_eq_getElem (by omega)] at g1
    simp [Try.cells_int, Try.cells_lints, cells_lputs, List.drop_zero, List.drop_succ_cons, List.take_succ_cons, List.take_zero] at g1
    obtain ⟨q1, e1, _⟩ := DataW.trod_int Try.underlying3 g1
    simp at e1
    subst e1
    have g2 := hF 2 _ rfl
    rw [List.getElem?_eq_getElem (by omega)] at g2
    simp [Try.cells_int, Try.cells_lints, cells_lputs, List.drop_zero, List.drop_succ_cons, List.take_succ_cons, List.take_zero] at g2
    obtain ⟨q2, e2, _⟩ := DataW.trod_int Try.underlying3 g2
    simp at e2
    subst e2
    have g3 := hF 3 _ rfl
    rw [List.getElem?_eq_getElem (by omega)] at g3
    simp [Try.cells_int, Try.cells_lints, cells_lputs, List.drop_zero, List.drop_succ_cons, List.take_succ_cons, List.take_zero] at g3
    obtain ⟨l3, hl3⟩ := puts_of g3
    have g4 := hF 4 _ rfl
    rw [List.getElem?_eq_getElem (by omega)] at g4
    simp [Try.cells_int, Try.cells_lints, cells_lputs, List.drop_zero, List.drop_succ_cons, List.take_succ_cons, List.take_zero] at g4
    obtain ⟨l4, hl4⟩ := puts_of g4
    have g5 := hF 5 _ rfl
    rw [List.getElem?_eq_getElem (by omega)] at g5
    simp [Try.cells_int, Try.cells_lints, cells_lputs, List.drop_zero, List.drop_succ_cons, List.take_succ_cons, List.take_zero] at g5
    obtain ⟨q5, e5, _⟩ := DataW.trod_int Try.underlying3 g5
    simp at e5
    subst e5
    exact ⟨⟨q0, q1, q2, l3, l4, q5⟩, b, off, c3, c4, e, hb, by simpa using hcell 0 (by omega), by simpa using hcell 1 (by omega), by simpa using hcell 2 (by omega), by simpa using hcell 3 (by omega), by simpa using hcell 4 (by omega), by simpa using hcell 5 (by omega), hl3, hl4⟩)
  refine ⟨(List.range len).map f, a, cap, by simp, by simpa using hl, fun i hi => ?_⟩
  have hi' : i < len := by simpa using hi
  obtain ⟨b, off, v3, v4, e, hb, hc⟩ := hf i hi'
  exact ⟨b, off, v3, v4, e, hb, by rw [nth_range _ _ _ _ hi']; exact hc⟩
end
end Go.Proofs.Yteebdfifbmpmhaa
