import Derived.Test.YtgbgjljflgbcaaaXn21
import Derived.Deep.Upon
import Derived.Deep.Slices
import Derived.Test.YtgbgjljflgbcaaaXn26
import Derived.Deep.QuietTactic
import Derived.BigQuiet
import Derived.Deep.RegionWith
import Derived.Test.YtgbgjljflgbcaaaXn24
import Derived.Deep.AppendLies
import Derived.Handy
import Derived.BigRegion
import Derived.Laws.ResultCell
import Derived.Deep.LoopGhost
import Derived.Test.YtgbgjljflgbcaaaXn22
import Derived.Test.YtgbgjljflgbcaaaXn16
import Derived.Deep.RegionLaw
import Derived.Test.YtgbgjljflgbcaaaXn23
namespace Go.Proofs.Ytgbgjljflgbcaaa
open Go.RowKit
set_option linter.unusedSimpArgs false
set_option linter.unusedVariables false
theorem OwnSy.setZ {f : Nat → Key} {B : Nat} {w : World} {cv tv lv : Value} {cs : List Ce} {T : List TT} {L : List EE} (h : OwnSy f B w cv tv lv cs T L) {X o : Nat} (hz : f X = .z) (v : Value) : OwnSy f B (w.setCell ⟨X, o, none⟩ v) cv tv lv cs T L := by
  have hk : ∀ g, f g ≠ .z → (w.setCell ⟨X, o, none⟩ v).heap[g]? = w.heap[g]? := fun g hg => heap_set_ne w _ v g (fun e => hg (by rw [e]; exact hz))
  exact ⟨h.c.move (fun _ _ _ e => e) (fun g _ _ e => hk g (by rw [e]; simp)), h.t.move (fun _ _ _ e => e) (fun g _ _ e => hk g (by rw [e]; simp)), h.l.move (fun _ _ _ e => e) (fun g _ _ e => hk g (by rw [e]; simp)),
    fun i hi => (h.ti i hi).move (fun _ _ _ => rfl) (fun g _ _ e => hk g (by rcases e with e | e | e | e <;> rw [e] <;> simp)), fun j hj => (h.li j hj).move (fun _ _ _ => rfl) (fun g _ _ e => hk g (by rcases e with e | e <;> rw [e] <;> simp))⟩
structure CB (X B : Nat) (w : World) (s : Sy) : Prop where
  ex : ∃ f cv tv lv T L, OwnSy f B w cv tv lv s.cells T L ∧ T.map (·.1) = s.tasks ∧ L.map (·.1) = s.log ∧ f X = .z ∧ w.heap[X]? = some (.cells #[cv, tv, .int .i64 s.clock, lv] 32 (0, 0))
  le : B ≤ X
theorem bx_lt {w : World} {X : Nat} {o : Obj} (h : w.heap[X]? = some o) : X < w.heap.size := (Array.getElem?_eq_some_iff.1 h).1
theorem box4 {w : World} {X : Nat} {a0 a1 a2 a3 b0 b1 b2 b3 : Value} {t : TypeId} (h : w.heap[X]? = some (.cells #[a0, a1, a2, a3] t (0, 0))) :
    ((((w.setCell ⟨X, 0, none⟩ b0).setCell ⟨X, 1, none⟩ b1).setCell ⟨X, 2, none⟩ b2).setCell ⟨X, 3, none⟩ b3).heap[X]? = some (.cells #[b0, b1, b2, b3] t (0, 0)) ∧ TagKept t w ((((w.setCell ⟨X, 0, none⟩ b0).setCell ⟨X, 1, none⟩ b1).setCell ⟨X, 2, none⟩ b2).setCell ⟨X, 3, none⟩ b3) := by
  have h0 := heap_setCell_same w X 0 _ _ b0 h
  have h1 := heap_setCell_same _ X 1 _ _ b1 h0
  have h2 := heap_setCell_same _ X 2 _ _ b2 h1
  have h3 := heap_setCell_same _ X 3 _ _ b3 h2
  refine ⟨h3, fun g cur e hg he => ?_⟩
  have hne : g ≠ X := fun q => by
    rw [q, h] at hg
    injection hg with hg
    injection hg with _ h5 _
    exact he h5.symm
  rw [heap_set_ne _ _ _ g hne, heap_set_ne _ _ _ g hne, heap_set_ne _ _ _ g hne, heap_set_ne _ _ _ g hne]
theorem box4c {w : World} {X : Nat} {a0 a1 a2 a3 : Value} {t : TypeId} (h : w.heap[X]? = some (.cells #[a0, a1, a2, a3] t (0, 0))) : (w.cell? ⟨X, 0, none⟩ = some a0 ∧ w.cell? ⟨X, 1, none⟩ = some a1 ∧ w.cell? ⟨X, 2, none⟩ = some a2 ∧ w.cell? ⟨X, 3, none⟩ = some a3) ∧ (w.frozen? ⟨X, 0, none⟩ = false ∧ w.frozen? ⟨X, 1, none⟩ = false ∧ w.frozen? ⟨X, 2, none⟩ = false ∧ w.frozen? ⟨X, 3, none⟩ = false) ∧ X < w.heap.size := by
  refine ⟨⟨?_, ?_, ?_, ?_⟩, ⟨?_, ?_, ?_, ?_⟩, bx_lt h⟩
  · rw [cell_of_row w X 0 _ _ (0, 0) h]; rfl
  · rw [cell_of_row w X 1 _ _ (0, 0) h]; rfl
  · rw [cell_of_row w X 2 _ _ (0, 0) h]; rfl
  · rw [cell_of_row w X 3 _ _ (0, 0) h]; rfl
  · simp [World.frozen?, h]
  · simp [World.frozen?, h]
  · simp [World.frozen?, h]
  · simp [World.frozen?, h]
section
variable {P : Program} {ops : Array Oper} {Q : Exit → Act → World → Prop} {md : Region.Mode} {S : World → Prop} {z : Nat}
end
end Go.Proofs.Ytgbgjljflgbcaaa

namespace Go.Proofs.Ytgbgjljflgbcaaa
open Go.RowKit
set_option linter.unusedSimpArgs false
set_option linter.unusedVariables false
set_option maxRecDepth 20000
theorem OwnSy.base {f : Nat → Key} {B B' : Nat} {w : World} {cv tv lv : Value} {cs : List Ce} {T : List TT} {L : List EE} (h : OwnSy f B w cv tv lv cs T L) (hB : B' ≤ B) : OwnSy f B' w cv tv lv cs T L :=
  ⟨⟨own_base h.c.1 hB, h.c.2⟩, ⟨own_base h.t.1 hB, h.t.2⟩, ⟨own_base h.l.1 hB, h.l.2⟩, fun i hi => ⟨⟨own_base (h.ti i hi).r.1 hB, (h.ti i hi).r.2⟩, ⟨own_base (h.ti i hi).o.1 hB, (h.ti i hi).o.2⟩, ⟨own_base (h.ti i hi).d.1 hB, (h.ti i hi).d.2⟩, ⟨own_base (h.ti i hi).u.1 hB, (h.ti i hi).u.2⟩⟩,
    fun j hj => ⟨⟨own_base (h.li j hj).d.1 hB, (h.li j hj).d.2⟩, ⟨own_base (h.li j hj).u.1 hB, (h.li j hj).u.2⟩⟩⟩
end Go.Proofs.Ytgbgjljflgbcaaa

namespace Go.Proofs.Ytgbgjljflgbcaaa
open Go.RowKit
set_option linter.unusedSimpArgs false
set_option linter.unusedVariables false
set_option maxRecDepth 20000
def OwnS (B : Nat) (w : World) (cv tv lv : Value) (s : Sy) : Prop := ∃ f T L, OwnSy f B w cv tv lv s.cells T L ∧ T.map (·.1) = s.tasks ∧ L.map (·.1) = s.log
theorem OwnS.on {B : Nat} {w : World} {cv tv lv : Value} {s : Sy} (h : OwnS B w cv tv lv s) : SyOn (fun b => B ≤ b) w cv tv lv s := by
  obtain ⟨f, T, L, h, hT, hL⟩ := h
  exact h.on hT hL
theorem OwnS.ext {B : Nat} {w w' : World} {cv tv lv : Value} {s : Sy} (h : OwnS B w cv tv lv s) (hk : ∀ g, B ≤ g → g < w.heap.size → w'.heap[g]? = w.heap[g]?) : OwnS B w' cv tv lv s := by
  obtain ⟨f, T, L, h, hT, hL⟩ := h
  exact ⟨f, T, L, h.ext (fun _ _ _ => rfl) hk, hT, hL⟩
theorem OwnS.below {B C : Nat} {w w' : World} {cv tv lv : Value} {s : Sy} (h : OwnS B w cv tv lv s) (hb : Below C w w') (hC : w.heap.size ≤ C) : OwnS B w' cv tv lv s :=
  h.ext fun g _ hg => hb.block g (by omega)
theorem OwnS.base {B B' : Nat} {w : World} {cv tv lv : Value} {s : Sy} (h : OwnS B w cv tv lv s) (hB : B' ≤ B) : OwnS B' w cv tv lv s := by
  obtain ⟨f, T, L, h, hT, hL⟩ := h
  exact ⟨f, T, L, h.base hB, hT, hL⟩
theorem OwnS.setX {B : Nat} {w : World} {cv tv lv : Value} {s : Sy} (h : OwnS B w cv tv lv s) {X o : Nat} (hX : X < B) (v : Value) : OwnS B (w.setCell ⟨X, o, none⟩ v) cv tv lv s :=
  h.ext fun g hg _ => heap_set_ne w _ v g (by simp; omega)
end Go.Proofs.Ytgbgjljflgbcaaa

namespace Go.Proofs.Ytgbgjljflgbcaaa
open Go.RowKit
set_option linter.unusedSimpArgs false
set_option linter.unusedVariables false
theorem ok_sizes {p : Pr} (h : okB p = true) : p.cells.length ≤ 3 ∧ 1 ≤ p.bodies.length ∧ p.bodies.length ≤ 4 ∧ ∀ i, i < p.bodies.length → (nth [] p.bodies i).length ≤ 4 := by
  unfold okB foB csB inB at h
  simp only [Bool.and_eq_true, decide_eq_true_eq, List.all_eq_true, List.mem_range] at h
  obtain ⟨⟨⟨⟨h1, _⟩, h2, h3⟩, h4⟩, _⟩ := h
  refine ⟨h1, by omega, by omega, fun i hi => ?_⟩
  have h5 := h4 i hi
  unfold boB at h5
  simp only [Bool.and_eq_true, decide_eq_true_eq] at h5
  exact h5.1
end Go.Proofs.Ytgbgjljflgbcaaa

namespace Go.Proofs.Ytgbgjljflgbcaaa
open Go.RowKit
set_option linter.unusedSimpArgs false
set_option linter.unusedVariables false
theorem newS_eq {p : Pr} (h : okB p = true) : newS p = ⟨p.cells.map fun n => ⟨n, 0, -1⟩, [newTa 0 (-1)], 0, []⟩ := by unfold newS; rw [if_pos h]
end Go.Proofs.Ytgbgjljflgbcaaa
