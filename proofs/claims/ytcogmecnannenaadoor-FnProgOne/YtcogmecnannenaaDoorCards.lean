/-
  DERIVED. GIVEN WITH THE SEED: THE CARDS: each row of YtcogmecnannenaaDoorRows.lean that lists a variable, with what it lists TIED to the program's text (the seventh form; the later family's looks); each row that meets fmt, with fmt's text TOLD by the authors' own Lean function (tested against real Go, not proved from fmt's source: count such statements apart). THE CARD IS WHAT COUNTS. Prove the row's statement (the work); the ties are given (YtcogmecnannenaaDoorTie.lean); close each card by the builder's one call (the guide's Derived/Test/ToyasCard.lean, 'card_holds'). Laid BY PROGRAM, IN A SANDBOX (cutbox-door.mjs). By AI agents, Wed Nov 11 2026. No macro, syntax, notation, axiom, sorry.
-/
import Derived.Test.YtcogmecnannenaaDoorRows
import GoSem.ClaimSeven
namespace Go.Proofs.YtcogmecnannenaaDoor
namespace Rows

/-- THE TIED CARD OF 'laws.FnProgOne'. -/
def fnProgOneCard : Claim7 := { stood := { row := fnProgOneRow, standIns := [], harness := (true, "d4bf483529a92c8d828ac7eb94d7c1aed24fe3cc313f26d816d6451b83ab2d66"), looks := true }, kinds := [], alts := [], laidByText := true, laidKinds := [.data, .data, .data], laidTests := true, laidLooks := .later }
def FnProgOneCardSaid : Prop := Claim7.holds Tryd.pinned (.plain (OpenSpec.ofChange fnProgOneSpec)) fnProgOneCard

/-- THE SECOND FORM's CARD OF 'laws.FnProgOne'. -/
def fnProgOneUptoCard : Claim7 := { stood := { row := fnProgOneUptoRow, standIns := [], harness := (true, "d4bf483529a92c8d828ac7eb94d7c1aed24fe3cc313f26d816d6451b83ab2d66"), looks := true }, kinds := [], alts := [], laidByText := true, laidKinds := [.data, .data, .data], laidTests := true, laidLooks := .later }
def FnProgOneUptoCardSaid : Prop := Claim7.holds Tryd.pinned (.plain (OpenSpec.upto fnProgOneSpec)) fnProgOneUptoCard
end Rows
end Go.Proofs.YtcogmecnannenaaDoor
