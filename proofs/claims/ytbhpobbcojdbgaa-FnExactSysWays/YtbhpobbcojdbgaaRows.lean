/-
  No cell of these rows narrows 'for every input' (looked for: loops, veiled, ifaces, maps, wideKeys, modest, calm, conditions, laid).
  DERIVED. THE GIVEN ROWS OF THIS SEAT. 4 by the template 'for every input the law returns true; each argument reads behind the call as it read before'; 0 by the template 'total and deterministic' (their statements: YtbhpobbcojdbgaaTotals.lean).
  GIVEN WITH THE SEED: the statements are not yours to turn. If you find one false, say at which input.
  Laid BY PROGRAM, IN A SANDBOX (cutbox-rows.mjs): the forced cells as the released guide's own fill.sh prints them over the translation b53c0480b17f7fce… (all of the seat's roots in one cut). By AI agents, Wed Nov 11 2026. No macro, syntax, notation, axiom, sorry.
-/
import Derived.Test.YtbhpobbcojdbgaaChecked
import GoSem.Claim
import GoSem.ClaimJoined
import GoSem.ClaimMapViews
import Derived.JoinedTies
import Derived.KernelRfl
namespace Go.Proofs.Ytbhpobbcojdbgaa
/- THE CELL 'sum', in the pinned program and in every row, IS THE sha256 OF THE DUMP (.gsa) THAT YtbhpobbcojdbgaaProg.lean LOADS. Nothing in Lean hashes anything: it is a label: what it is worth is what the hold of that sum in a sandbox is worth. -/
noncomputable def Try.pinned : Pinned := { name := "ytbhpobbcojdbgaa", sum := "b53c0480b17f7fcefea81fd049e0b46ff46e149dae26a7198fd86479a77ccb05", checked := Try.checked }
namespace Rows
def none {H : Type} : Left H := { results := [], args := [] }

/-- 'laws.FnExactSysNew': WHATEVER THE INPUT: true; the input reads as it did. -/
def fnExactSysNewSpec : ChangeSpec := { name := "fnExactSysNew", fn := fun _ => fun
  | [d] => { results := [.lit (.bool true)], args := [d] }
  | _ => none }
def fnExactSysNewRow : OpenClaim := { program := "ytbhpobbcojdbgaa", sum := "b53c0480b17f7fcefea81fd049e0b46ff46e149dae26a7198fd86479a77ccb05", func := "loop.example/equerry/laws.FnExactSysNew", spec := "fnExactSysNew", recurses := true, apart := false }
def FnExactSysNewSaid : Prop := fnExactSysNewRow.holds Try.pinned (OpenSpec.ofChange fnExactSysNewSpec)

/-- ITS FALSE NEIGHBOUR: 'it returns false'. Refute it at one input. -/
def fnExactSysNewWrong : ChangeSpec := { name := "fnExactSysNew", fn := fun _ => fun
  | [d] => { results := [.lit (.bool false)], args := [d] }
  | _ => none }
def FnExactSysNewWrongFalsely : Prop := fnExactSysNewRow.holds Try.pinned (OpenSpec.ofChange fnExactSysNewWrong)

/-- 'laws.FnExactSysNums': WHATEVER THE INPUT: true; the input reads as it did. -/
def fnExactSysNumsSpec : ChangeSpec := { name := "fnExactSysNums", fn := fun _ => fun
  | [d] => { results := [.lit (.bool true)], args := [d] }
  | _ => none }
def fnExactSysNumsRow : OpenClaim := { program := "ytbhpobbcojdbgaa", sum := "b53c0480b17f7fcefea81fd049e0b46ff46e149dae26a7198fd86479a77ccb05", func := "loop.example/equerry/laws.FnExactSysNums", spec := "fnExactSysNums", apart := false }
def FnExactSysNumsSaid : Prop := fnExactSysNumsRow.holds Try.pinned (OpenSpec.ofChange fnExactSysNumsSpec)

/-- ITS FALSE NEIGHBOUR: 'it returns false'. Refute it at one input. -/
def fnExactSysNumsWrong : ChangeSpec := { name := "fnExactSysNums", fn := fun _ => fun
  | [d] => { results := [.lit (.bool false)], args := [d] }
  | _ => none }
def FnExactSysNumsWrongFalsely : Prop := fnExactSysNumsRow.holds Try.pinned (OpenSpec.ofChange fnExactSysNumsWrong)

/-- 'laws.FnExactSysWays': WHATEVER THE INPUT: true; the input reads as it did. -/
def fnExactSysWaysSpec : ChangeSpec := { name := "fnExactSysWays", fn := fun _ => fun
  | [d] => { results := [.lit (.bool true)], args := [d] }
  | _ => none }
def fnExactSysWaysRow : OpenClaim := { program := "ytbhpobbcojdbgaa", sum := "b53c0480b17f7fcefea81fd049e0b46ff46e149dae26a7198fd86479a77ccb05", func := "loop.example/equerry/laws.FnExactSysWays", spec := "fnExactSysWays", apart := false }
def FnExactSysWaysSaid : Prop := fnExactSysWaysRow.holds Try.pinned (OpenSpec.ofChange fnExactSysWaysSpec)

/-- ITS FALSE NEIGHBOUR: 'it returns false'. Refute it at one input. -/
def fnExactSysWaysWrong : ChangeSpec := { name := "fnExactSysWays", fn := fun _ => fun
  | [d] => { results := [.lit (.bool false)], args := [d] }
  | _ => none }
def FnExactSysWaysWrongFalsely : Prop := fnExactSysWaysRow.holds Try.pinned (OpenSpec.ofChange fnExactSysWaysWrong)

/-- 'laws.FnExactSysAwait': WHATEVER THE INPUT: true; the input reads as it did. -/
def fnExactSysAwaitSpec : ChangeSpec := { name := "fnExactSysAwait", fn := fun _ => fun
  | [d] => { results := [.lit (.bool true)], args := [d] }
  | _ => none }
def fnExactSysAwaitRow : OpenClaim := { program := "ytbhpobbcojdbgaa", sum := "b53c0480b17f7fcefea81fd049e0b46ff46e149dae26a7198fd86479a77ccb05", func := "loop.example/equerry/laws.FnExactSysAwait", spec := "fnExactSysAwait", apart := false }
def FnExactSysAwaitSaid : Prop := fnExactSysAwaitRow.holds Try.pinned (OpenSpec.ofChange fnExactSysAwaitSpec)

/-- ITS FALSE NEIGHBOUR: 'it returns false'. Refute it at one input. -/
def fnExactSysAwaitWrong : ChangeSpec := { name := "fnExactSysAwait", fn := fun _ => fun
  | [d] => { results := [.lit (.bool false)], args := [d] }
  | _ => none }
def FnExactSysAwaitWrongFalsely : Prop := fnExactSysAwaitRow.holds Try.pinned (OpenSpec.ofChange fnExactSysAwaitWrong)

/- THE SECOND FORM. 'bulk': how many values and letters a reading holds, each counted each time it is reached (what is shared counts as often as it is met; a slice's spare places count too). A statement '..UptoSaid' is the law's where the arguments, and the package variables that the reading takes, are together of bulk at most 1048576: NARROWER than '..Said'. Prove '..Said' where nothing that the law and all that it calls make is longer than what came in: it says more and counts as full. Else prove '..UptoSaid'. A law counts once. -/
mutual
def uptoBulk {H : Type} : DataW H → Nat
  | .lit (.string bytes) => bytes.length + 1
  | .lit _ => 1
  | .nil => 1
  | .ptr d => uptoBulk d + 1
  | .slice elems spare => uptoBulkAll elems + uptoBulkAll spare + 1
  | .agg parts => uptoBulkAll parts + 1
  | .iface _ d => uptoBulk d + 1
  | .map entries => uptoBulkEntries entries + 1
  | .held _ => 1
def uptoBulkAll {H : Type} : List (DataW H) → Nat
  | [] => 0
  | d :: r => uptoBulk d + uptoBulkAll r
def uptoBulkEntries {H : Type} : List (Lit × DataW H) → Nat
  | [] => 0
  | x :: r => uptoBulkEntry x + uptoBulkEntries r
def uptoBulkEntry {H : Type} : Lit × DataW H → Nat
  | (.string bytes, d) => bytes.length + uptoBulk d + 1
  | (_, d) => uptoBulk d + 1
 end
def uptoSmall : (H : Type) → List (DataW H) → Bool := fun _ ds => decide (uptoBulkAll ds ≤ 1048576)
def OpenSpec.upto (s : _root_.Go.ChangeSpec) : _root_.Go.OpenSpec := { _root_.Go.OpenSpec.ofChange s with cond := some uptoSmall }

/-- 'laws.FnExactSysNew', WHERE WHAT IT READS IS OF BULK AT MOST 1048576: true; the input reads as it did. -/
def fnExactSysNewUptoRow : OpenClaim := { program := "ytbhpobbcojdbgaa", sum := "b53c0480b17f7fcefea81fd049e0b46ff46e149dae26a7198fd86479a77ccb05", func := "loop.example/equerry/laws.FnExactSysNew", spec := "fnExactSysNew", recurses := true, apart := false, narrowed := true }
def FnExactSysNewUptoSaid : Prop := fnExactSysNewUptoRow.holds Try.pinned (OpenSpec.upto fnExactSysNewSpec)

/-- 'laws.FnExactSysNums', WHERE WHAT IT READS IS OF BULK AT MOST 1048576: true; the input reads as it did. -/
def fnExactSysNumsUptoRow : OpenClaim := { program := "ytbhpobbcojdbgaa", sum := "b53c0480b17f7fcefea81fd049e0b46ff46e149dae26a7198fd86479a77ccb05", func := "loop.example/equerry/laws.FnExactSysNums", spec := "fnExactSysNums", apart := false, narrowed := true }
def FnExactSysNumsUptoSaid : Prop := fnExactSysNumsUptoRow.holds Try.pinned (OpenSpec.upto fnExactSysNumsSpec)

/-- 'laws.FnExactSysWays', WHERE WHAT IT READS IS OF BULK AT MOST 1048576: true; the input reads as it did. -/
def fnExactSysWaysUptoRow : OpenClaim := { program := "ytbhpobbcojdbgaa", sum := "b53c0480b17f7fcefea81fd049e0b46ff46e149dae26a7198fd86479a77ccb05", func := "loop.example/equerry/laws.FnExactSysWays", spec := "fnExactSysWays", apart := false, narrowed := true }
def FnExactSysWaysUptoSaid : Prop := fnExactSysWaysUptoRow.holds Try.pinned (OpenSpec.upto fnExactSysWaysSpec)

/-- 'laws.FnExactSysAwait', WHERE WHAT IT READS IS OF BULK AT MOST 1048576: true; the input reads as it did. -/
def fnExactSysAwaitUptoRow : OpenClaim := { program := "ytbhpobbcojdbgaa", sum := "b53c0480b17f7fcefea81fd049e0b46ff46e149dae26a7198fd86479a77ccb05", func := "loop.example/equerry/laws.FnExactSysAwait", spec := "fnExactSysAwait", apart := false, narrowed := true }
def FnExactSysAwaitUptoSaid : Prop := fnExactSysAwaitUptoRow.holds Try.pinned (OpenSpec.upto fnExactSysAwaitSpec)

end Rows
end Go.Proofs.Ytbhpobbcojdbgaa
