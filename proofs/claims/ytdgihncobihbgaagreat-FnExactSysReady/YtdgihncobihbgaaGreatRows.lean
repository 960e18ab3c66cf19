/-
  No cell of these rows narrows 'for every input' (looked for: loops, veiled, ifaces, maps, wideKeys, modest, calm, conditions, laid).
  DERIVED. THE GIVEN ROWS OF THIS SEAT. 3 by the template 'for every input the law returns true; each argument reads behind the call as it read before'; 0 by the template 'total and deterministic' (their statements: YtdgihncobihbgaaGreatTotals.lean).
  GIVEN WITH THE SEED: the statements are not yours to turn. If you find one false, say at which input.
  Laid BY PROGRAM, IN A SANDBOX (cutbox-rows.mjs): the forced cells as the released guide's own fill.sh prints them over the translation 467bd4c4336f49b0… (all of the seat's roots in one cut). By AI agents, Wed Nov 11 2026. No macro, syntax, notation, axiom, sorry.
-/
import Derived.Test.YtdgihncobihbgaaGreatChecked
import GoSem.Claim
import GoSem.ClaimJoined
import GoSem.ClaimMapViews
import Derived.JoinedTies
import Derived.KernelRfl
namespace Go.Proofs.YtdgihncobihbgaaGreat
/- THE CELL 'sum', in the pinned program and in every row, IS THE sha256 OF THE DUMP (.gsa) THAT YtdgihncobihbgaaGreatProg.lean LOADS. Nothing in Lean hashes anything: it is a label: what it is worth is what the hold of that sum in a sandbox is worth. -/
noncomputable def Tryz.pinned : Pinned := { name := "ytdgihncobihbgaagreat", sum := "467bd4c4336f49b0825c32f8f7e1e481a4d3a2d1edcdf7f4a2a502ddb575cce7", checked := Tryz.checked }
namespace Rows
def none {H : Type} : Left H := { results := [], args := [] }

/-- 'laws.FnExactSysOk': WHATEVER THE INPUT: true; the input reads as it did. -/
def fnExactSysOkSpec : ChangeSpec := { name := "fnExactSysOk", fn := fun _ => fun
  | [d1, d2] => { results := [.lit (.bool true)], args := [d1, d2] }
  | _ => none }
def fnExactSysOkRow : OpenClaim := { program := "ytdgihncobihbgaagreat", sum := "467bd4c4336f49b0825c32f8f7e1e481a4d3a2d1edcdf7f4a2a502ddb575cce7", func := "loop.example/equerry/laws.FnExactSysOk", spec := "fnExactSysOk", recurses := true, apart := false }
def FnExactSysOkSaid : Prop := fnExactSysOkRow.holds Tryz.pinned (OpenSpec.ofChange fnExactSysOkSpec)

/-- ITS FALSE NEIGHBOUR: 'it returns false'. Refute it at one input. -/
def fnExactSysOkWrong : ChangeSpec := { name := "fnExactSysOk", fn := fun _ => fun
  | [d1, d2] => { results := [.lit (.bool false)], args := [d1, d2] }
  | _ => none }
def FnExactSysOkWrongFalsely : Prop := fnExactSysOkRow.holds Tryz.pinned (OpenSpec.ofChange fnExactSysOkWrong)

/-- 'laws.FnExactSysReady': WHATEVER THE INPUT: true; the input reads as it did. -/
def fnExactSysReadySpec : ChangeSpec := { name := "fnExactSysReady", fn := fun _ => fun
  | [d1, d2] => { results := [.lit (.bool true)], args := [d1, d2] }
  | _ => none }
def fnExactSysReadyRow : OpenClaim := { program := "ytdgihncobihbgaagreat", sum := "467bd4c4336f49b0825c32f8f7e1e481a4d3a2d1edcdf7f4a2a502ddb575cce7", func := "loop.example/equerry/laws.FnExactSysReady", spec := "fnExactSysReady", recurses := true, apart := false }
def FnExactSysReadySaid : Prop := fnExactSysReadyRow.holds Tryz.pinned (OpenSpec.ofChange fnExactSysReadySpec)

/-- ITS FALSE NEIGHBOUR: 'it returns false'. Refute it at one input. -/
def fnExactSysReadyWrong : ChangeSpec := { name := "fnExactSysReady", fn := fun _ => fun
  | [d1, d2] => { results := [.lit (.bool false)], args := [d1, d2] }
  | _ => none }
def FnExactSysReadyWrongFalsely : Prop := fnExactSysReadyRow.holds Tryz.pinned (OpenSpec.ofChange fnExactSysReadyWrong)

/-- 'laws.FnExactSysOver': WHATEVER THE INPUT: true; the input reads as it did. -/
def fnExactSysOverSpec : ChangeSpec := { name := "fnExactSysOver", fn := fun _ => fun
  | [d1, d2] => { results := [.lit (.bool true)], args := [d1, d2] }
  | _ => none }
def fnExactSysOverRow : OpenClaim := { program := "ytdgihncobihbgaagreat", sum := "467bd4c4336f49b0825c32f8f7e1e481a4d3a2d1edcdf7f4a2a502ddb575cce7", func := "loop.example/equerry/laws.FnExactSysOver", spec := "fnExactSysOver", recurses := true, apart := false }
def FnExactSysOverSaid : Prop := fnExactSysOverRow.holds Tryz.pinned (OpenSpec.ofChange fnExactSysOverSpec)

/-- ITS FALSE NEIGHBOUR: 'it returns false'. Refute it at one input. -/
def fnExactSysOverWrong : ChangeSpec := { name := "fnExactSysOver", fn := fun _ => fun
  | [d1, d2] => { results := [.lit (.bool false)], args := [d1, d2] }
  | _ => none }
def FnExactSysOverWrongFalsely : Prop := fnExactSysOverRow.holds Tryz.pinned (OpenSpec.ofChange fnExactSysOverWrong)

/- THE SECOND FORM. 'bulk': how many values and letters a reading holds, each counted each time it is reached (what is shared counts as often as it is met; a slice's spare places count too). A statement '..UptoSaid' is the law's where the arguments, and the package variables that the reading takes, are together of bulk at most 1048576: NARROWER than '..Said'. Prove '..Said' where nothing that the law and all that it calls make is longer than what came in: it says more and counts as full. Else prove '..UptoSaid'. A law counts once. -/
mutual
def uptoBulk {H : Type} : DataW H → Nat
  | .lit (.string bytes) => bytes.length + 1
  | .lit _ => 1
  | .nil => 1
  | .ptr d => uptoBulk d + 1
  | .slice elems spare => uptoBulkAll elems + uptoBulkAll spare + 1
  | .agg parts => uptoBulkAll parts + 1
  | .iface _ d => uptoBulk d + 1
  | .map entries => uptoBulkEntries entries + 1
  | .held _ => 1
def uptoBulkAll {H : Type} : List (DataW H) → Nat
  | [] => 0
  | d :: r => uptoBulk d + uptoBulkAll r
def uptoBulkEntries {H : Type} : List (Lit × DataW H) → Nat
  | [] => 0
  | x :: r => uptoBulkEntry x + uptoBulkEntries r
def uptoBulkEntry {H : Type} : Lit × DataW H → Nat
  | (.string bytes, d) => bytes.length + uptoBulk d + 1
  | (_, d) => uptoBulk d + 1
 end
def uptoSmall : (H : Type) → List (DataW H) → Bool := fun _ ds => decide (uptoBulkAll ds ≤ 1048576)
def OpenSpec.upto (s : _root_.Go.ChangeSpec) : _root_.Go.OpenSpec := { _root_.Go.OpenSpec.ofChange s with cond := some uptoSmall }

/-- 'laws.FnExactSysOk', WHERE WHAT IT READS IS OF BULK AT MOST 1048576: true; the input reads as it did. -/
def fnExactSysOkUptoRow : OpenClaim := { program := "ytdgihncobihbgaagreat", sum := "467bd4c4336f49b0825c32f8f7e1e481a4d3a2d1edcdf7f4a2a502ddb575cce7", func := "loop.example/equerry/laws.FnExactSysOk", spec := "fnExactSysOk", recurses := true, apart := false, narrowed := true }
def FnExactSysOkUptoSaid : Prop := fnExactSysOkUptoRow.holds Tryz.pinned (OpenSpec.upto fnExactSysOkSpec)

/-- 'laws.FnExactSysReady', WHERE WHAT IT READS IS OF BULK AT MOST 1048576: true; the input reads as it did. -/
def fnExactSysReadyUptoRow : OpenClaim := { program := "ytdgihncobihbgaagreat", sum := "467bd4c4336f49b0825c32f8f7e1e481a4d3a2d1edcdf7f4a2a502ddb575cce7", func := "loop.example/equerry/laws.FnExactSysReady", spec := "fnExactSysReady", recurses := true, apart := false, narrowed := true }
def FnExactSysReadyUptoSaid : Prop := fnExactSysReadyUptoRow.holds Tryz.pinned (OpenSpec.upto fnExactSysReadySpec)

/-- 'laws.FnExactSysOver', WHERE WHAT IT READS IS OF BULK AT MOST 1048576: true; the input reads as it did. -/
def fnExactSysOverUptoRow : OpenClaim := { program := "ytdgihncobihbgaagreat", sum := "467bd4c4336f49b0825c32f8f7e1e481a4d3a2d1edcdf7f4a2a502ddb575cce7", func := "loop.example/equerry/laws.FnExactSysOver", spec := "fnExactSysOver", recurses := true, apart := false, narrowed := true }
def FnExactSysOverUptoSaid : Prop := fnExactSysOverUptoRow.holds Tryz.pinned (OpenSpec.upto fnExactSysOverSpec)

end Rows
end Go.Proofs.YtdgihncobihbgaaGreat
