/-
  No cell of these rows narrows 'for every input' (looked for: loops, veiled, ifaces, maps, wideKeys, modest, calm, conditions, laid).
  DERIVED. THE GIVEN ROWS OF THIS SEAT. 6 by the template 'for every input the law returns true; each argument reads behind the call as it read before'; 0 by the template 'total and deterministic' (their statements: YtgbgjljflgbcaaaTotals.lean).
  GIVEN WITH THE SEED: the statements are not yours to turn. If you find one false, say at which input.
  Laid BY PROGRAM, IN A SANDBOX (cutbox-rows.mjs): the forced cells as the released guide's own fill.sh prints them over the translation 5bb8e04946be1daf… (all of the seat's roots in one cut). By AI agents, Wed Nov 11 2026. No macro, syntax, notation, axiom, sorry.
-/
import Derived.Test.YtgbgjljflgbcaaaChecked
import GoSem.Claim
import GoSem.ClaimJoined
import GoSem.ClaimMapViews
import Derived.JoinedTies
import Derived.KernelRfl
namespace Go.Proofs.Ytgbgjljflgbcaaa
/- THE CELL 'sum', in the pinned program and in every row, IS THE sha256 OF THE DUMP (.gsa) THAT YtgbgjljflgbcaaaProg.lean LOADS. Nothing in Lean hashes anything: it is a label: what it is worth is what the hold of that sum in a sandbox is worth. -/
noncomputable def Try.pinned : Pinned := { name := "ytgbgjljflgbcaaa", sum := "5bb8e04946be1daf5b49876d816cb81d034ff38abe561ee63defe1988deb7bd9", checked := Try.checked }
namespace Rows
def none {H : Type} : Left H := { results := [], args := [] }

/-- 'laws.FnSysNew': WHATEVER THE INPUT: true; the input reads as it did. -/
def fnSysNewSpec : ChangeSpec := { name := "fnSysNew", fn := fun _ => fun
  | [d] => { results := [.lit (.bool true)], args := [d] }
  | _ => none }
def fnSysNewRow : OpenClaim := { program := "ytgbgjljflgbcaaa", sum := "5bb8e04946be1daf5b49876d816cb81d034ff38abe561ee63defe1988deb7bd9", func := "loop.example/equerry/laws.FnSysNew", spec := "fnSysNew", recurses := true, apart := false }
def FnSysNewSaid : Prop := fnSysNewRow.holds Try.pinned (OpenSpec.ofChange fnSysNewSpec)

/-- ITS FALSE NEIGHBOUR: 'it returns false'. Refute it at one input. -/
def fnSysNewWrong : ChangeSpec := { name := "fnSysNew", fn := fun _ => fun
  | [d] => { results := [.lit (.bool false)], args := [d] }
  | _ => none }
def FnSysNewWrongFalsely : Prop := fnSysNewRow.holds Try.pinned (OpenSpec.ofChange fnSysNewWrong)

/-- 'laws.FnSysOk': WHATEVER THE INPUT: true; the input reads as it did. -/
def fnSysOkSpec : ChangeSpec := { name := "fnSysOk", fn := fun _ => fun
  | [d] => { results := [.lit (.bool true)], args := [d] }
  | _ => none }
def fnSysOkRow : OpenClaim := { program := "ytgbgjljflgbcaaa", sum := "5bb8e04946be1daf5b49876d816cb81d034ff38abe561ee63defe1988deb7bd9", func := "loop.example/equerry/laws.FnSysOk", spec := "fnSysOk", recurses := true, apart := false }
def FnSysOkSaid : Prop := fnSysOkRow.holds Try.pinned (OpenSpec.ofChange fnSysOkSpec)

/-- ITS FALSE NEIGHBOUR: 'it returns false'. Refute it at one input. -/
def fnSysOkWrong : ChangeSpec := { name := "fnSysOk", fn := fun _ => fun
  | [d] => { results := [.lit (.bool false)], args := [d] }
  | _ => none }
def FnSysOkWrongFalsely : Prop := fnSysOkRow.holds Try.pinned (OpenSpec.ofChange fnSysOkWrong)

/-- 'laws.FnLogReplayCut': WHATEVER THE INPUT: true; the input reads as it did. -/
def fnLogReplayCutSpec : ChangeSpec := { name := "fnLogReplayCut", fn := fun _ => fun
  | [d1, d2] => { results := [.lit (.bool true)], args := [d1, d2] }
  | _ => none }
def fnLogReplayCutRow : OpenClaim := { program := "ytgbgjljflgbcaaa", sum := "5bb8e04946be1daf5b49876d816cb81d034ff38abe561ee63defe1988deb7bd9", func := "loop.example/equerry/laws.FnLogReplayCut", spec := "fnLogReplayCut", recurses := true, apart := false }
def FnLogReplayCutSaid : Prop := fnLogReplayCutRow.holds Try.pinned (OpenSpec.ofChange fnLogReplayCutSpec)

/-- ITS FALSE NEIGHBOUR: 'it returns false'. Refute it at one input. -/
def fnLogReplayCutWrong : ChangeSpec := { name := "fnLogReplayCut", fn := fun _ => fun
  | [d1, d2] => { results := [.lit (.bool false)], args := [d1, d2] }
  | _ => none }
def FnLogReplayCutWrongFalsely : Prop := fnLogReplayCutRow.holds Try.pinned (OpenSpec.ofChange fnLogReplayCutWrong)

/-- 'laws.FnLogReplayNone': WHATEVER THE INPUT: true; the input reads as it did. -/
def fnLogReplayNoneSpec : ChangeSpec := { name := "fnLogReplayNone", fn := fun _ => fun
  | [d] => { results := [.lit (.bool true)], args := [d] }
  | _ => none }
def fnLogReplayNoneRow : OpenClaim := { program := "ytgbgjljflgbcaaa", sum := "5bb8e04946be1daf5b49876d816cb81d034ff38abe561ee63defe1988deb7bd9", func := "loop.example/equerry/laws.FnLogReplayNone", spec := "fnLogReplayNone", recurses := true, apart := false }
def FnLogReplayNoneSaid : Prop := fnLogReplayNoneRow.holds Try.pinned (OpenSpec.ofChange fnLogReplayNoneSpec)

/-- ITS FALSE NEIGHBOUR: 'it returns false'. Refute it at one input. -/
def fnLogReplayNoneWrong : ChangeSpec := { name := "fnLogReplayNone", fn := fun _ => fun
  | [d] => { results := [.lit (.bool false)], args := [d] }
  | _ => none }
def FnLogReplayNoneWrongFalsely : Prop := fnLogReplayNoneRow.holds Try.pinned (OpenSpec.ofChange fnLogReplayNoneWrong)

/-- 'laws.FnLogReplayRead': WHATEVER THE INPUT: true; the input reads as it did. -/
def fnLogReplayReadSpec : ChangeSpec := { name := "fnLogReplayRead", fn := fun _ => fun
  | [d] => { results := [.lit (.bool true)], args := [d] }
  | _ => none }
def fnLogReplayReadRow : OpenClaim := { program := "ytgbgjljflgbcaaa", sum := "5bb8e04946be1daf5b49876d816cb81d034ff38abe561ee63defe1988deb7bd9", func := "loop.example/equerry/laws.FnLogReplayRead", spec := "fnLogReplayRead", recurses := true, apart := false }
def FnLogReplayReadSaid : Prop := fnLogReplayReadRow.holds Try.pinned (OpenSpec.ofChange fnLogReplayReadSpec)

/-- ITS FALSE NEIGHBOUR: 'it returns false'. Refute it at one input. -/
def fnLogReplayReadWrong : ChangeSpec := { name := "fnLogReplayRead", fn := fun _ => fun
  | [d] => { results := [.lit (.bool false)], args := [d] }
  | _ => none }
def FnLogReplayReadWrongFalsely : Prop := fnLogReplayReadRow.holds Try.pinned (OpenSpec.ofChange fnLogReplayReadWrong)

/-- 'laws.FnExactSysNew': WHATEVER THE INPUT: true; the input reads as it did. -/
def fnExactSysNewSpec : ChangeSpec := { name := "fnExactSysNew", fn := fun _ => fun
  | [d] => { results := [.lit (.bool true)], args := [d] }
  | _ => none }
def fnExactSysNewRow : OpenClaim := { program := "ytgbgjljflgbcaaa", sum := "5bb8e04946be1daf5b49876d816cb81d034ff38abe561ee63defe1988deb7bd9", func := "loop.example/equerry/laws.FnExactSysNew", spec := "fnExactSysNew", recurses := true, apart := false }
def FnExactSysNewSaid : Prop := fnExactSysNewRow.holds Try.pinned (OpenSpec.ofChange fnExactSysNewSpec)

/-- ITS FALSE NEIGHBOUR: 'it returns false'. Refute it at one input. -/
def fnExactSysNewWrong : ChangeSpec := { name := "fnExactSysNew", fn := fun _ => fun
  | [d] => { results := [.lit (.bool false)], args := [d] }
  | _ => none }
def FnExactSysNewWrongFalsely : Prop := fnExactSysNewRow.holds Try.pinned (OpenSpec.ofChange fnExactSysNewWrong)

/- THE SECOND FORM. 'bulk': how many values and letters a reading holds, each counted each time it is reached (what is shared counts as often as it is met; a slice's spare places count too). A statement '..UptoSaid' is the law's where the arguments, and the package variables that the reading takes, are together of bulk at most 1048576: NARROWER than '..Said'. Prove '..Said' where nothing that the law and all that it calls make is longer than what came in: it says more and counts as full. Else prove '..UptoSaid'. A law counts once. -/
mutual
def uptoBulk {H : Type} : DataW H → Nat
  | .lit (.string bytes) => bytes.length + 1
  | .lit _ => 1
  | .nil => 1
  | .ptr d => uptoBulk d + 1
  | .slice elems spare => uptoBulkAll elems + uptoBulkAll spare + 1
  | .agg parts => uptoBulkAll parts + 1
  | .iface _ d => uptoBulk d + 1
  | .map entries => uptoBulkEntries entries + 1
  | .held _ => 1
def uptoBulkAll {H : Type} : List (DataW H) → Nat
  | [] => 0
  | d :: r => uptoBulk d + uptoBulkAll r
def uptoBulkEntries {H : Type} : List (Lit × DataW H) → Nat
  | [] => 0
  | x :: r => uptoBulkEntry x + uptoBulkEntries r
def uptoBulkEntry {H : Type} : Lit × DataW H → Nat
  | (.string bytes, d) => bytes.length + uptoBulk d + 1
  | (_, d) => uptoBulk d + 1
 end
def uptoSmall : (H : Type) → List (DataW H) → Bool := fun _ ds => decide (uptoBulkAll ds ≤ 1048576)
def OpenSpec.upto (s : _root_.Go.ChangeSpec) : _root_.Go.OpenSpec := { _root_.Go.OpenSpec.ofChange s with cond := some uptoSmall }

/-- 'laws.FnSysNew', WHERE WHAT IT READS IS OF BULK AT MOST 1048576: true; the input reads as it did. -/
def fnSysNewUptoRow : OpenClaim := { program := "ytgbgjljflgbcaaa", sum := "5bb8e04946be1daf5b49876d816cb81d034ff38abe561ee63defe1988deb7bd9", func := "loop.example/equerry/laws.FnSysNew", spec := "fnSysNew", recurses := true, apart := false, narrowed := true }
def FnSysNewUptoSaid : Prop := fnSysNewUptoRow.holds Try.pinned (OpenSpec.upto fnSysNewSpec)

/-- 'laws.FnSysOk', WHERE WHAT IT READS IS OF BULK AT MOST 1048576: true; the input reads as it did. -/
def fnSysOkUptoRow : OpenClaim := { program := "ytgbgjljflgbcaaa", sum := "5bb8e04946be1daf5b49876d816cb81d034ff38abe561ee63defe1988deb7bd9", func := "loop.example/equerry/laws.FnSysOk", spec := "fnSysOk", recurses := true, apart := false, narrowed := true }
def FnSysOkUptoSaid : Prop := fnSysOkUptoRow.holds Try.pinned (OpenSpec.upto fnSysOkSpec)

/-- 'laws.FnLogReplayCut', WHERE WHAT IT READS IS OF BULK AT MOST 1048576: true; the input reads as it did. -/
def fnLogReplayCutUptoRow : OpenClaim := { program := "ytgbgjljflgbcaaa", sum := "5bb8e04946be1daf5b49876d816cb81d034ff38abe561ee63defe1988deb7bd9", func := "loop.example/equerry/laws.FnLogReplayCut", spec := "fnLogReplayCut", recurses := true, apart := false, narrowed := true }
def FnLogReplayCutUptoSaid : Prop := fnLogReplayCutUptoRow.holds Try.pinned (OpenSpec.upto fnLogReplayCutSpec)

/-- 'laws.FnLogReplayNone', WHERE WHAT IT READS IS OF BULK AT MOST 1048576: true; the input reads as it did. -/
def fnLogReplayNoneUptoRow : OpenClaim := { program := "ytgbgjljflgbcaaa", sum := "5bb8e04946be1daf5b49876d816cb81d034ff38abe561ee63defe1988deb7bd9", func := "loop.example/equerry/laws.FnLogReplayNone", spec := "fnLogReplayNone", recurses := true, apart := false, narrowed := true }
def FnLogReplayNoneUptoSaid : Prop := fnLogReplayNoneUptoRow.holds Try.pinned (OpenSpec.upto fnLogReplayNoneSpec)

/-- 'laws.FnLogReplayRead', WHERE WHAT IT READS IS OF BULK AT MOST 1048576: true; the input reads as it did. -/
def fnLogReplayReadUptoRow : OpenClaim := { program := "ytgbgjljflgbcaaa", sum := "5bb8e04946be1daf5b49876d816cb81d034ff38abe561ee63defe1988deb7bd9", func := "loop.example/equerry/laws.FnLogReplayRead", spec := "fnLogReplayRead", recurses := true, apart := false, narrowed := true }
def FnLogReplayReadUptoSaid : Prop := fnLogReplayReadUptoRow.holds Try.pinned (OpenSpec.upto fnLogReplayReadSpec)

/-- 'laws.FnExactSysNew', WHERE WHAT IT READS IS OF BULK AT MOST 1048576: true; the input reads as it did. -/
def fnExactSysNewUptoRow : OpenClaim := { program := "ytgbgjljflgbcaaa", sum := "5bb8e04946be1daf5b49876d816cb81d034ff38abe561ee63defe1988deb7bd9", func := "loop.example/equerry/laws.FnExactSysNew", spec := "fnExactSysNew", recurses := true, apart := false, narrowed := true }
def FnExactSysNewUptoSaid : Prop := fnExactSysNewUptoRow.holds Try.pinned (OpenSpec.upto fnExactSysNewSpec)

end Rows
end Go.Proofs.Ytgbgjljflgbcaaa
