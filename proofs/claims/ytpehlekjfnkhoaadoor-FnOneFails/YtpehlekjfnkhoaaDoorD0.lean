/-
  Drawing: the reader of a code, and what a draw leaves as it was.
-/
import Derived.Test.YtpehlekjfnkhoaaDoorT14
namespace Go.Proofs.YtpehlekjfnkhoaaDoor
open Go.RowKit
set_option linter.unusedSimpArgs false
set_option linter.unusedVariables false

/-- below B all is as it was, but for block R -/
structure Fr (R B : Nat) (w w' : World) : Prop where
  os : w'.os = w.os
  tape : w'.tape = w.tape
  output : w'.output = w.output
  size : w.heap.size ≤ w'.heap.size
  block : ∀ k, k < B → k ≠ R → w'.heap[k]? = w.heap[k]?
theorem Fr.refl (R B : Nat) (w : World) : Fr R B w w := ⟨rfl, rfl, rfl, Nat.le_refl _, fun _ _ _ => rfl⟩
theorem Fr.trans {R B : Nat} {a b c : World} (h : Fr R B a b) (k : Fr R B b c) : Fr R B a c :=
  ⟨k.os.trans h.os, k.tape.trans h.tape, k.output.trans h.output, Nat.le_trans h.size k.size, fun i hi hR => (k.block i hi hR).trans (h.block i hi hR)⟩
theorem Fr.mono {R B B' : Nat} {w w' : World} (h : Fr R B w w') (hB : B' ≤ B) : Fr R B' w w' := ⟨h.os, h.tape, h.output, h.size, fun k hk hR => h.block k (Nat.lt_of_lt_of_le hk hB) hR⟩
theorem Fr.of_below {R B : Nat} {w w' : World} (h : Below B w w') : Fr R B w w' := ⟨h.os, h.tape, h.output, h.size, fun k hk _ => h.block k hk⟩
theorem Fr.drewN {R B : Nat} {a w : World} (h : Fr R B a w) (n : Nat) : Fr R B a (w.drewN n) := h.trans (Fr.of_below (below_drewN (Below.refl _ _) n))
theorem Fr.drew {R B : Nat} {a w : World} (h : Fr R B a w) : Fr R B a w.drew := h.trans (Fr.of_below (Below.refl _ _).drew)
theorem Fr.alloc {R B : Nat} {a w : World} (h : Fr R B a w) (hB : B ≤ w.heap.size) (o : Obj) : Fr R B a (w.alloc o) := h.trans (Fr.of_below ((Below.refl _ _).alloc hB o))
theorem Fr.setCell {R B : Nat} {a w : World} (h : Fr R B a w) {p : Addr} (hp : B ≤ p.block ∨ p.block = R) (u : Value) : Fr R B a (w.setCell p u) :=
  h.trans ⟨rfl, rfl, rfl, by simp, fun k hk hR => Below.heap_setCell w p u k (by rcases hp with h1 | h1 <;> omega)⟩
theorem Fr.grown {R B : Nat} {a w w' : World} {row : Option Nat} (h : Fr R B a w) (hg : w.grownBy w' row) (hB : B ≤ w.heap.size) (hr : ∀ k, row = some k → B ≤ k) : Fr R B a w' :=
  h.trans ⟨hg.os, hg.tape, hg.output, hg.size, fun k hk _ => hg.block k (by omega) (fun e => by have := hr k e.symm; omega)⟩
theorem Fr.below {R B : Nat} {w w' : World} (h : Fr R B w w') (hR : B ≤ R) : Below B w w' := ⟨h.os, h.tape, h.output, h.size, fun k hk => h.block k hk (by omega)⟩
theorem Fr.cell {R B : Nat} {w w' : World} (h : Fr R B w w') {b o : Nat} (hb : b < B) (hR : b ≠ R) : w'.cell? ⟨b, o, none⟩ = w.cell? ⟨b, o, none⟩ := World.cell?_of_block (w := w) (h.block b hb hR)
theorem Fr.frozen {R B : Nat} {w w' : World} (h : Fr R B w w') {b o : Nat} (hb : b < B) (hR : b ≠ R) : w'.frozen? ⟨b, o, none⟩ = w.frozen? ⟨b, o, none⟩ := World.frozen?_of_block (w := w) (h.block b hb hR)

/-- a reader: its code, and how far it is -/
structure RdAt (B : Nat) (w : World) (R p : Nat) : Prop where
  lt : R < B
  le : B ≤ w.heap.size
  pos : w.cell? ⟨R, 1, none⟩ = some (.int .i64 (p : Int))
  free : w.frozen? ⟨R, 1, none⟩ = false
  code : ∃ a n cap, w.cell? ⟨R, 0, none⟩ = some (.slice a n cap) ∧ n ≤ 2000 ∧ ∀ i, i < n → ∃ b off u, a = some ⟨b, off, none⟩ ∧ b < B ∧ b ≠ R ∧ 0 ≤ u ∧ u ≤ 255 ∧ w.cell? ⟨b, off + i, none⟩ = some (.int .u8 u)
theorem RdAt.below {B : Nat} {w w' : World} {R p : Nat} (h : RdAt B w R p) (hb : Below B w w') : RdAt B w' R p := by
  refine ⟨h.lt, Nat.le_trans h.le hb.size, by rw [hb.cell (p := ⟨R, 1, none⟩) h.lt]; exact h.pos, by rw [hb.frozen (p := ⟨R, 1, none⟩) h.lt]; exact h.free, ?_⟩
  obtain ⟨a, n, cap, h0, hn, hi⟩ := h.code
  refine ⟨a, n, cap, by rw [hb.cell (p := ⟨R, 0, none⟩) h.lt]; exact h0, hn, fun i hlt => ?_⟩
  obtain ⟨b, off, u, e, h1, h2, h3, h4, h5⟩ := hi i hlt
  exact ⟨b, off, u, e, h1, h2, h3, h4, by rw [hb.cell (p := ⟨b, _, none⟩) h1]; exact h5⟩
theorem RdAt.go {B : Nat} {w : World} {R p : Nat} (h : RdAt B w R p) (q : Nat) : RdAt B (w.setCell ⟨R, 1, none⟩ (.int .i64 (q : Int))) R q := by
  refine ⟨h.lt, by simpa using h.le, World.cell?_setCell_same w ⟨R, 1, none⟩ _ h.pos, by simpa using h.free, ?_⟩
  obtain ⟨a, n, cap, h0, hn, hi⟩ := h.code
  refine ⟨a, n, cap, ?_, hn, fun i hlt => ?_⟩
  · rw [World.cell?_setCell_other w ⟨R, 1, none⟩ ⟨R, 0, none⟩ _ (by intro e; injection e; omega)]; exact h0
  · obtain ⟨b, off, u, e, h1, h2, h3, h4, h5⟩ := hi i hlt
    exact ⟨b, off, u, e, h1, h2, h3, h4, by rw [World.cell?_setCell_other w ⟨R, 1, none⟩ ⟨b, _, none⟩ _ (by intro e; injection e with e1; omega)]; exact h5⟩

end Go.Proofs.YtpehlekjfnkhoaaDoor
