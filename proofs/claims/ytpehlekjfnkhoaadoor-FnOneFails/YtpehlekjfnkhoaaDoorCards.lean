/-
  DERIVED. GIVEN WITH THE SEED: THE CARDS: each row of YtpehlekjfnkhoaaDoorRows.lean that lists a variable, with what it lists TIED to the program's text (the seventh form; the later family's looks); each row that meets fmt, with fmt's text TOLD by the authors' own Lean function (tested against real Go, not proved from fmt's source: count such statements apart). THE CARD IS WHAT COUNTS. Prove the row's statement (the work); the ties are given (YtpehlekjfnkhoaaDoorTie.lean); close each card by the builder's one call (the guide's Derived/Test/ToyasCard.lean, 'card_holds'). Laid BY PROGRAM, IN A SANDBOX (cutbox-door.mjs). By AI agents, Wed Nov 11 2026. No macro, syntax, notation, axiom, sorry.
-/
import Derived.Test.YtpehlekjfnkhoaaDoorRows
import GoSem.ClaimSeven
namespace Go.Proofs.YtpehlekjfnkhoaaDoor
namespace Rows

/-- THE TIED CARD OF 'laws.FnOneFails'. -/
def fnOneFailsCard : Claim7 := { stood := { row := fnOneFailsRow, standIns := [], harness := (true, "54fad3004d65d00f0aced306a47bdea1e744ed6e2ad00934a2f695f4b5e05ea7"), looks := true }, kinds := [], alts := [], laidByText := true, laidKinds := [.sentinel, .sentinel], laidTests := true, laidLooks := .later }
def FnOneFailsCardSaid : Prop := Claim7.holds Tryd.pinned (.plain (OpenSpec.ofChange fnOneFailsSpec)) fnOneFailsCard

/-- THE TIED CARD OF 'laws.FnExactOneRun'. -/
def fnExactOneRunCard : Claim7 := { stood := { row := fnExactOneRunRow, standIns := [], harness := (true, "54fad3004d65d00f0aced306a47bdea1e744ed6e2ad00934a2f695f4b5e05ea7"), looks := true }, kinds := [], alts := [], laidByText := true, laidKinds := [.sentinel, .sentinel], laidTests := true, laidLooks := .later }
def FnExactOneRunCardSaid : Prop := Claim7.holds Tryd.pinned (.plain (OpenSpec.ofChange fnExactOneRunSpec)) fnExactOneRunCard

/-- THE SECOND FORM's CARD OF 'laws.FnOneFails'. -/
def fnOneFailsUptoCard : Claim7 := { stood := { row := fnOneFailsUptoRow, standIns := [], harness := (true, "54fad3004d65d00f0aced306a47bdea1e744ed6e2ad00934a2f695f4b5e05ea7"), looks := true }, kinds := [], alts := [], laidByText := true, laidKinds := [.sentinel, .sentinel], laidTests := true, laidLooks := .later }
def FnOneFailsUptoCardSaid : Prop := Claim7.holds Tryd.pinned (.plain (OpenSpec.upto fnOneFailsSpec)) fnOneFailsUptoCard

/-- THE SECOND FORM's CARD OF 'laws.FnExactOneRun'. -/
def fnExactOneRunUptoCard : Claim7 := { stood := { row := fnExactOneRunUptoRow, standIns := [], harness := (true, "54fad3004d65d00f0aced306a47bdea1e744ed6e2ad00934a2f695f4b5e05ea7"), looks := true }, kinds := [], alts := [], laidByText := true, laidKinds := [.sentinel, .sentinel], laidTests := true, laidLooks := .later }
def FnExactOneRunUptoCardSaid : Prop := Claim7.holds Tryd.pinned (.plain (OpenSpec.upto fnExactOneRunSpec)) fnExactOneRunUptoCard
end Rows
end Go.Proofs.YtpehlekjfnkhoaaDoor
