/-
  NARROWER THAN 'FOR EVERY INPUT', by the rows' own cells (each row's printed sentence says how): FnOneFails: ifaces, laid · FnExactOneRun: ifaces, laid.
  DERIVED. THE GIVEN ROWS OF THIS SEAT. 2 by the template 'for every input the law returns true; each argument reads behind the call as it read before'; 0 by the template 'total and deterministic' (their statements: YtpehlekjfnkhoaaDoorTotals.lean).
  GIVEN WITH THE SEED: the statements are not yours to turn. If you find one false, say at which input.
  Laid BY PROGRAM, IN A SANDBOX (cutbox-rows.mjs): the forced cells as the released guide's own fill.sh prints them over the translation 5775d11a5484faaf… (all of the seat's roots in one cut). By AI agents, Wed Nov 11 2026. No macro, syntax, notation, axiom, sorry.
-/
import Derived.Test.YtpehlekjfnkhoaaDoorChecked
import GoSem.Claim
import GoSem.ClaimJoined
import GoSem.ClaimMapViews
import Derived.JoinedTies
import Derived.KernelRfl
namespace Go.Proofs.YtpehlekjfnkhoaaDoor
/- THE CELL 'sum', in the pinned program and in every row, IS THE sha256 OF THE DUMP (.gsa) THAT YtpehlekjfnkhoaaDoorProg.lean LOADS. Nothing in Lean hashes anything: it is a label: what it is worth is what the hold of that sum in a sandbox is worth. -/
noncomputable def Tryd.pinned : Pinned := { name := "ytpehlekjfnkhoaadoor", sum := "5775d11a5484faaf4531791e751c4e4f561f0d53ce603816dc6aa58e884ef07a", checked := Tryd.checked }
namespace Rows
def none {H : Type} : Left H := { results := [], args := [] }

/- WHAT THE LISTED PACKAGE-LEVEL VARIABLES READ AS WHEN THE CALL BEGINS. Each datum BY PROGRAM (the guide's laid-datum.mjs) off the statement by which the dump's own 'gosem.cut.vars' lays the variable. In a bare row this is a premise. The card (YtpehlekjfnkhoaaDoorCards.lean) ties it to the program's text. -/
def laid_loop_example_equerry_impl_errSysNeed {H : Type} : DataW H := .iface "*errors.errorString" (.ptr (.agg [.lit (.string [119, 104, 97, 116, 32, 109, 117, 115, 116, 32, 98, 101, 32, 116, 104, 101, 114, 101, 32, 105, 115, 32, 110, 111, 116])]))
def laid_loop_example_equerry_impl_errOneFailed {H : Type} : DataW H := .iface "*errors.errorString" (.ptr (.agg [.lit (.string [116, 104, 101, 32, 116, 97, 115, 107, 32, 104, 97, 115, 32, 102, 97, 105, 108, 101, 100])]))

/-- 'laws.FnOneFails': WHATEVER THE INPUT: true; the input reads as it did. -/
def fnOneFailsSpec : ChangeSpec := { name := "fnOneFails", vars := ["loop.example/equerry/impl.errSysNeed", "loop.example/equerry/impl.errOneFailed"], fn := fun _ => fun
  | [d, g1, g2] => { results := [.lit (.bool true)], args := [d], vars := [g1, g2] }
  | _ => none }
def fnOneFailsRow : OpenClaim := { program := "ytpehlekjfnkhoaadoor", sum := "5775d11a5484faaf4531791e751c4e4f561f0d53ce603816dc6aa58e884ef07a", func := "loop.example/equerry/laws.FnOneFails", spec := "fnOneFails", inPlace := ["internal/reflectlite.TypeOf"], unfollowed := true, recurses := true, named := ["loop.example/equerry/impl.errSysNeed", "loop.example/equerry/impl.errOneFailed"], ifaces := true, apart := false, laid := [("loop.example/equerry/impl.errSysNeed", laid_loop_example_equerry_impl_errSysNeed), ("loop.example/equerry/impl.errOneFailed", laid_loop_example_equerry_impl_errOneFailed)] }
def FnOneFailsSaid : Prop := fnOneFailsRow.holds Tryd.pinned (OpenSpec.ofChange fnOneFailsSpec)

/-- ITS FALSE NEIGHBOUR: 'it returns false'. Refute it at one input. -/
def fnOneFailsWrong : ChangeSpec := { name := "fnOneFails", vars := ["loop.example/equerry/impl.errSysNeed", "loop.example/equerry/impl.errOneFailed"], fn := fun _ => fun
  | [d, g1, g2] => { results := [.lit (.bool false)], args := [d], vars := [g1, g2] }
  | _ => none }
def FnOneFailsWrongFalsely : Prop := fnOneFailsRow.holds Tryd.pinned (OpenSpec.ofChange fnOneFailsWrong)

/-- 'laws.FnExactOneRun': WHATEVER THE INPUT: true; the input reads as it did. -/
def fnExactOneRunSpec : ChangeSpec := { name := "fnExactOneRun", vars := ["loop.example/equerry/impl.errSysNeed", "loop.example/equerry/impl.errOneFailed"], fn := fun _ => fun
  | [d, g1, g2] => { results := [.lit (.bool true)], args := [d], vars := [g1, g2] }
  | _ => none }
def fnExactOneRunRow : OpenClaim := { program := "ytpehlekjfnkhoaadoor", sum := "5775d11a5484faaf4531791e751c4e4f561f0d53ce603816dc6aa58e884ef07a", func := "loop.example/equerry/laws.FnExactOneRun", spec := "fnExactOneRun", inPlace := ["internal/reflectlite.TypeOf"], unfollowed := true, recurses := true, named := ["loop.example/equerry/impl.errSysNeed", "loop.example/equerry/impl.errOneFailed"], ifaces := true, apart := false, laid := [("loop.example/equerry/impl.errSysNeed", laid_loop_example_equerry_impl_errSysNeed), ("loop.example/equerry/impl.errOneFailed", laid_loop_example_equerry_impl_errOneFailed)] }
def FnExactOneRunSaid : Prop := fnExactOneRunRow.holds Tryd.pinned (OpenSpec.ofChange fnExactOneRunSpec)

/-- ITS FALSE NEIGHBOUR: 'it returns false'. Refute it at one input. -/
def fnExactOneRunWrong : ChangeSpec := { name := "fnExactOneRun", vars := ["loop.example/equerry/impl.errSysNeed", "loop.example/equerry/impl.errOneFailed"], fn := fun _ => fun
  | [d, g1, g2] => { results := [.lit (.bool false)], args := [d], vars := [g1, g2] }
  | _ => none }
def FnExactOneRunWrongFalsely : Prop := fnExactOneRunRow.holds Tryd.pinned (OpenSpec.ofChange fnExactOneRunWrong)

/- THE SECOND FORM. 'bulk': how many values and letters a reading holds, each counted each time it is reached (what is shared counts as often as it is met; a slice's spare places count too). A statement '..UptoSaid' is the law's where the arguments, and the package variables that the reading takes, are together of bulk at most 1048576: NARROWER than '..Said'. Prove '..Said' where nothing that the law and all that it calls make is longer than what came in: it says more and counts as full. Else prove '..UptoSaid'. A law counts once. -/
mutual
def uptoBulk {H : Type} : DataW H → Nat
  | .lit (.string bytes) => bytes.length + 1
  | .lit _ => 1
  | .nil => 1
  | .ptr d => uptoBulk d + 1
  | .slice elems spare => uptoBulkAll elems + uptoBulkAll spare + 1
  | .agg parts => uptoBulkAll parts + 1
  | .iface _ d => uptoBulk d + 1
  | .map entries => uptoBulkEntries entries + 1
  | .held _ => 1
def uptoBulkAll {H : Type} : List (DataW H) → Nat
  | [] => 0
  | d :: r => uptoBulk d + uptoBulkAll r
def uptoBulkEntries {H : Type} : List (Lit × DataW H) → Nat
  | [] => 0
  | x :: r => uptoBulkEntry x + uptoBulkEntries r
def uptoBulkEntry {H : Type} : Lit × DataW H → Nat
  | (.string bytes, d) => bytes.length + uptoBulk d + 1
  | (_, d) => uptoBulk d + 1
 end
def uptoSmall : (H : Type) → List (DataW H) → Bool := fun _ ds => decide (uptoBulkAll ds ≤ 1048576)
def OpenSpec.upto (s : _root_.Go.ChangeSpec) : _root_.Go.OpenSpec := { _root_.Go.OpenSpec.ofChange s with cond := some uptoSmall }

/-- 'laws.FnOneFails', WHERE WHAT IT READS IS OF BULK AT MOST 1048576: true; the input reads as it did. -/
def fnOneFailsUptoRow : OpenClaim := { program := "ytpehlekjfnkhoaadoor", sum := "5775d11a5484faaf4531791e751c4e4f561f0d53ce603816dc6aa58e884ef07a", func := "loop.example/equerry/laws.FnOneFails", spec := "fnOneFails", inPlace := ["internal/reflectlite.TypeOf"], unfollowed := true, recurses := true, named := ["loop.example/equerry/impl.errSysNeed", "loop.example/equerry/impl.errOneFailed"], ifaces := true, apart := false, laid := [("loop.example/equerry/impl.errSysNeed", laid_loop_example_equerry_impl_errSysNeed), ("loop.example/equerry/impl.errOneFailed", laid_loop_example_equerry_impl_errOneFailed)], narrowed := true }
def FnOneFailsUptoSaid : Prop := fnOneFailsUptoRow.holds Tryd.pinned (OpenSpec.upto fnOneFailsSpec)

/-- 'laws.FnExactOneRun', WHERE WHAT IT READS IS OF BULK AT MOST 1048576: true; the input reads as it did. -/
def fnExactOneRunUptoRow : OpenClaim := { program := "ytpehlekjfnkhoaadoor", sum := "5775d11a5484faaf4531791e751c4e4f561f0d53ce603816dc6aa58e884ef07a", func := "loop.example/equerry/laws.FnExactOneRun", spec := "fnExactOneRun", inPlace := ["internal/reflectlite.TypeOf"], unfollowed := true, recurses := true, named := ["loop.example/equerry/impl.errSysNeed", "loop.example/equerry/impl.errOneFailed"], ifaces := true, apart := false, laid := [("loop.example/equerry/impl.errSysNeed", laid_loop_example_equerry_impl_errSysNeed), ("loop.example/equerry/impl.errOneFailed", laid_loop_example_equerry_impl_errOneFailed)], narrowed := true }
def FnExactOneRunUptoSaid : Prop := fnExactOneRunUptoRow.holds Tryd.pinned (OpenSpec.upto fnExactOneRunSpec)

end Rows
end Go.Proofs.YtpehlekjfnkhoaaDoor
