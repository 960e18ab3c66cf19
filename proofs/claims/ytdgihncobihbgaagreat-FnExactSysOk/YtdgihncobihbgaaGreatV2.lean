/-
  Programs in memory: a bundle.
-/
import Derived.Test.YtdgihncobihbgaaGreatV1
namespace Go.Proofs.YtdgihncobihbgaaGreat
open Go.RowKit

def PrAt (w : World) (cv bv : Value) (p : Pr) : Prop := IntsAt w cv p.cells ∧ BodiesAt w bv p.bodies
theorem PrAt.mono {w w' : World} {cv bv : Value} {p : Pr} (h : PrAt w cv bv p) (hb : Below w.heap.size w w') : PrAt w' cv bv p := ⟨h.1.mono hb, h.2.mono hb⟩

end Go.Proofs.YtdgihncobihbgaaGreat
