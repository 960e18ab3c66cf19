/-
  The walk of FnExactProgRead, with spec.ProgRead's contract.
-/
import Derived.Test.YtliakmgombpjpaaGreatDoorM8
import Derived.Test.YtliakmgombpjpaaGreatDoorU8
namespace Go.Proofs.YtliakmgombpjpaaGreatDoor
open Go.RowKit
set_option linter.unusedSimpArgs false
set_option linter.unusedVariables false

theorem exactProgRead_all (S : ByteArray) (w : World) (hG : Gl w) :
    Calls Tryz.prog 5 #[.string S] w fun e w' => e = .returned (.bool true) ∧ Below w.heap.size w w' := by
  refine exactProgRead_walk S w hG fun l q hq w hl => ?_
  have := sProgRead_any l w hl
  rw [spR_rdG, hq] at this
  refine this.mono ?_
  rintro e w' ⟨cv, bv, rfl, hc, hb, hw⟩
  obtain ⟨ac, kc, rfl, _⟩ := hc.shape
  obtain ⟨ab, kb, rfl, _⟩ := hb.shape
  exact ⟨ac, kc, ab, kb, rfl, hc, hb, hw⟩

end Go.Proofs.YtliakmgombpjpaaGreatDoor
