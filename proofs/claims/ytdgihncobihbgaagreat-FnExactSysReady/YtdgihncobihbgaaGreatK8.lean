/-
  Programs as arguments of exact laws: bundles (by mkk11.py).
-/
import Derived.Test.YtdgihncobihbgaaGreatY1e
import Derived.Test.YtdgihncobihbgaaGreatY2
import Derived.Test.YtdgihncobihbgaaGreatY3
import Derived.Test.YtdgihncobihbgaaGreatJ3
import Derived.Test.YtdgihncobihbgaaGreatN3
namespace Go.Proofs.YtdgihncobihbgaaGreat
open Go.RowKit
set_option linter.unusedSimpArgs false
set_option linter.unusedVariables false

def PrOn (S : Nat → Prop) (w : World) (cv bv : Value) (p : Pr) : Prop := IntsOn S w cv p.cells ∧ BodiesOn S w bv p.bodies
theorem PrOn.at {S : Nat → Prop} {w : World} {cv bv : Value} {p : Pr} (h : PrOn S w cv bv p) : PrAt w cv bv p := ⟨h.1.at, h.2.at⟩
theorem toProg_th' (p : Pr) (cv bv : Value) (w : World) (h : PrAt w cv bv p) (hs : SmallP p) :
    Calls Tryz.prog 9 #[.agg #[cv, bv]] w fun r w' => ∃ cv' bv', r = .returned (.agg #[cv', bv']) ∧ PrOn (fun b => w.heap.size ≤ b) w' cv' bv' p ∧ Below w.heap.size w w' ∧ Fz w w' := by
  refine (toProg_th p cv bv w h.1 h.2 hs.1 ⟨hs.2.1, hs.2.2⟩).mono ?_
  rintro r w' ⟨a, b, e, h1, h2, h3, h4⟩
  exact ⟨a, b, e, ⟨h1, h2⟩, h3, h4⟩
theorem eqProg_same' (p : Pr) (cv bv cv' bv' : Value) (w : World) (h : PrAt w cv bv p) (h' : PrAt w cv' bv' p) :
    Calls Tryz.prog 12 #[.agg #[cv, bv], .agg #[cv', bv']] w fun r w' => r = .returned (.bool true) ∧ Below w.heap.size w w' :=
  eqProg_same p cv bv cv' bv' w h.1 h.2 h'.1 h'.2

end Go.Proofs.YtdgihncobihbgaaGreat
