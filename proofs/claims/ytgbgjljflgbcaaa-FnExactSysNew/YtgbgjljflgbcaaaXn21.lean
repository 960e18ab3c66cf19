import Derived.Test.YtgbgjljflgbcaaaXn16
import Derived.Test.YtgbgjljflgbcaaaXn18
import Derived.Test.YtgbgjljflgbcaaaXn17
import Derived.Test.YtgbgjljflgbcaaaXn20
import Derived.Test.YtgbgjljflgbcaaaXn13
import Derived.Test.YtgbgjljflgbcaaaXn14
import Derived.Deep.RegionLaw
import Derived.Deep.RegionHeld3
import Derived.Deep.AppendLies
namespace Go.Proofs.Ytgbgjljflgbcaaa
open Go.RowKit
set_option linter.unusedSimpArgs false
set_option linter.unusedVariables false
def SyAt (w : World) (cv tv lv : Value) (s : Sy) : Prop := CesAt w cv s.cells ∧ TasAt w tv s.tasks ∧ EnsAt w lv s.log
def SyOn (S : Nat → Prop) (w : World) (cv tv lv : Value) (s : Sy) : Prop := CesOn S w cv s.cells ∧ TasOn S w tv s.tasks ∧ EnsOn S w lv s.log
theorem SyAt.mono {w w' : World} {cv tv lv : Value} {s : Sy} (h : SyAt w cv tv lv s) (hb : Below w.heap.size w w') : SyAt w' cv tv lv s := ⟨h.1.mono hb, h.2.1.mono hb, h.2.2.mono hb⟩
theorem SyOn.at {S : Nat → Prop} {w : World} {cv tv lv : Value} {s : Sy} (h : SyOn S w cv tv lv s) : SyAt w cv tv lv s := ⟨h.1.at, h.2.1.at, h.2.2.at⟩
end Go.Proofs.Ytgbgjljflgbcaaa

namespace Go.Proofs.Ytgbgjljflgbcaaa
open Go.RowKit
set_option linter.unusedSimpArgs false
set_option linter.unusedVariables false
def PrOn (S : Nat → Prop) (w : World) (cv bv : Value) (p : Pr) : Prop := IntsOn S w cv p.cells ∧ BodiesOn S w bv p.bodies
theorem PrOn.at {S : Nat → Prop} {w : World} {cv bv : Value} {p : Pr} (h : PrOn S w cv bv p) : PrAt w cv bv p := ⟨h.1.at, h.2.at⟩
theorem toProg_th' (p : Pr) (cv bv : Value) (w : World) (h : PrAt w cv bv p) (hs : SmallP p) :
    Calls Try.prog 25 #[.agg #[cv, bv]] w fun r w' => ∃ cv' bv', r = .returned (.agg #[cv', bv']) ∧ PrOn (fun b => w.heap.size ≤ b) w' cv' bv' p ∧ Below w.heap.size w w' ∧ Fz w w' := by
  refine (toProg_th p cv bv w h.1 h.2 hs.1 ⟨hs.2.1, hs.2.2⟩).mono ?_
  rintro r w' ⟨a, b, e, h1, h2, h3, h4⟩
  exact ⟨a, b, e, ⟨h1, h2⟩, h3, h4⟩
theorem eqProg_same' (p : Pr) (cv bv cv' bv' : Value) (w : World) (h : PrAt w cv bv p) (h' : PrAt w cv' bv' p) :
    Calls Try.prog 27 #[.agg #[cv, bv], .agg #[cv', bv']] w fun r w' => r = .returned (.bool true) ∧ Below w.heap.size w w' :=
  eqProg_same p cv bv cv' bv' w h.1 h.2 h'.1 h'.2
end Go.Proofs.Ytgbgjljflgbcaaa

namespace Go.Proofs.Ytgbgjljflgbcaaa
open Go.RowKit
set_option linter.unusedSimpArgs false
set_option linter.unusedVariables false
def TagKept (t : TypeId) (w w' : World) : Prop := ∀ (g : Nat) (cur : Array Value) (e : TypeId), w.heap[g]? = some (Obj.cells cur e (0, 0)) → e ≠ t → w'.heap[g]? = w.heap[g]?
theorem own_base {w : World} {B B' : Nat} {e : TypeId} {size : Nat} {v : Value} {n : Nat} {xs : List Value} (h : w.ownsRow B e size v n xs) (hB : B' ≤ B) : w.ownsRow B' e size v n xs := by
  refine ⟨h.1, ?_⟩
  rcases h.2 with hn | ⟨g, cap, cur, rfl, hb, rest⟩
  · exact .inl hn
  · exact .inr ⟨g, cap, cur, rfl, Nat.le_trans hB hb, rest⟩
theorem own_shape {w : World} {B : Nat} {e : TypeId} {size : Nat} {v : Value} {n : Nat} {xs : List Value} (h : w.ownsRow B e size v n xs) : ∃ a cap, v = .slice a n cap ∧ n ≤ cap ∧ cap ≤ 9223372036854775807 := by
  rcases h.2 with ⟨rfl, rfl⟩ | ⟨g, cap, cur, rfl, hb, hg, h1, h2, _⟩
  · exact ⟨_, _, rfl, by omega, by omega⟩
  · exact ⟨_, _, rfl, h1, by unfold maxLen at h2; omega⟩
end Go.Proofs.Ytgbgjljflgbcaaa

namespace Go.Proofs.Ytgbgjljflgbcaaa
open Go.RowKit
set_option maxRecDepth 20000
set_option linter.unusedSimpArgs false
set_option linter.unusedVariables false
def PBox (w : World) (P : Nat) (cv bv : Value) : Prop := w.heap[P]? = some (.cells #[cv, bv] 26 (0, 0))
theorem PBox.lt {w : World} {P : Nat} {cv bv : Value} (h : PBox w P cv bv) : P < w.heap.size := (Array.getElem?_eq_some_iff.1 h).1
theorem PBox.cells {w : World} {P : Nat} {cv bv : Value} (h : PBox w P cv bv) : w.cell? ⟨P, 0, none⟩ = some cv ∧ w.cell? ⟨P, 1, none⟩ = some bv ∧ w.frozen? ⟨P, 0, none⟩ = false ∧ w.frozen? ⟨P, 1, none⟩ = false := by
  unfold PBox at h
  refine ⟨?_, ?_, ?_, ?_⟩
  · rw [cell_of_row w P 0 _ _ (0, 0) h]; rfl
  · rw [cell_of_row w P 1 _ _ (0, 0) h]; rfl
  · simp [World.frozen?, h]
  · simp [World.frozen?, h]
theorem PBox.heap {w w' : World} {P : Nat} {cv bv : Value} (h : PBox w P cv bv) (hk : w'.heap[P]? = w.heap[P]?) : PBox w' P cv bv := hk.trans h
theorem PBox.alloc {w : World} {P : Nat} {cv bv : Value} (h : PBox w P cv bv) (o : Obj) : PBox (w.alloc o) P cv bv := h.heap (Below.heap_alloc w o P h.lt)
end Go.Proofs.Ytgbgjljflgbcaaa
