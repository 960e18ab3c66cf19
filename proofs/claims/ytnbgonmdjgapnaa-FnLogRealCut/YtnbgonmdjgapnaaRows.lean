/-
  No cell of these rows narrows 'for every input' (looked for: loops, veiled, ifaces, maps, wideKeys, modest, calm, conditions, laid).
  DERIVED. THE GIVEN ROWS OF THIS SEAT. 14 by the template 'for every input the law returns true; each argument reads behind the call as it read before'; 0 by the template 'total and deterministic' (their statements: YtnbgonmdjgapnaaTotals.lean).
  GIVEN WITH THE SEED: the statements are not yours to turn. If you find one false, say at which input.
  Laid BY PROGRAM, IN A SANDBOX (cutbox-rows.mjs): the forced cells as the released guide's own fill.sh prints them over the translation 2e087d4f67a1adbf… (all of the seat's roots in one cut). By AI agents, Wed Nov 11 2026. No macro, syntax, notation, axiom, sorry.
-/
import Derived.Test.YtnbgonmdjgapnaaChecked
import GoSem.Claim
import GoSem.ClaimJoined
import GoSem.ClaimMapViews
import Derived.JoinedTies
import Derived.KernelRfl
namespace Go.Proofs.Ytnbgonmdjgapnaa
/- THE CELL 'sum', in the pinned program and in every row, IS THE sha256 OF THE DUMP (.gsa) THAT YtnbgonmdjgapnaaProg.lean LOADS. Nothing in Lean hashes anything: it is a label: what it is worth is what the hold of that sum in a sandbox is worth. -/
noncomputable def Try.pinned : Pinned := { name := "ytnbgonmdjgapnaa", sum := "2e087d4f67a1adbfeaae27d07252aa67f82c696dbdd4aa97b6022d30e32fa9ca", checked := Try.checked }
namespace Rows
def none {H : Type} : Left H := { results := [], args := [] }

/-- 'laws.FnSysNew': WHATEVER THE INPUT: true; the input reads as it did. -/
def fnSysNewSpec : ChangeSpec := { name := "fnSysNew", fn := fun _ => fun
  | [d] => { results := [.lit (.bool true)], args := [d] }
  | _ => none }
def fnSysNewRow : OpenClaim := { program := "ytnbgonmdjgapnaa", sum := "2e087d4f67a1adbfeaae27d07252aa67f82c696dbdd4aa97b6022d30e32fa9ca", func := "loop.example/equerry/laws.FnSysNew", spec := "fnSysNew", recurses := true, apart := false }
def FnSysNewSaid : Prop := fnSysNewRow.holds Try.pinned (OpenSpec.ofChange fnSysNewSpec)

/-- ITS FALSE NEIGHBOUR: 'it returns false'. Refute it at one input. -/
def fnSysNewWrong : ChangeSpec := { name := "fnSysNew", fn := fun _ => fun
  | [d] => { results := [.lit (.bool false)], args := [d] }
  | _ => none }
def FnSysNewWrongFalsely : Prop := fnSysNewRow.holds Try.pinned (OpenSpec.ofChange fnSysNewWrong)

/-- 'laws.FnSysNums': WHATEVER THE INPUT: true; the input reads as it did. -/
def fnSysNumsSpec : ChangeSpec := { name := "fnSysNums", fn := fun _ => fun
  | [d] => { results := [.lit (.bool true)], args := [d] }
  | _ => none }
def fnSysNumsRow : OpenClaim := { program := "ytnbgonmdjgapnaa", sum := "2e087d4f67a1adbfeaae27d07252aa67f82c696dbdd4aa97b6022d30e32fa9ca", func := "loop.example/equerry/laws.FnSysNums", spec := "fnSysNums", recurses := true, apart := false }
def FnSysNumsSaid : Prop := fnSysNumsRow.holds Try.pinned (OpenSpec.ofChange fnSysNumsSpec)

/-- ITS FALSE NEIGHBOUR: 'it returns false'. Refute it at one input. -/
def fnSysNumsWrong : ChangeSpec := { name := "fnSysNums", fn := fun _ => fun
  | [d] => { results := [.lit (.bool false)], args := [d] }
  | _ => none }
def FnSysNumsWrongFalsely : Prop := fnSysNumsRow.holds Try.pinned (OpenSpec.ofChange fnSysNumsWrong)

/-- 'laws.FnSysWays': WHATEVER THE INPUT: true; the input reads as it did. -/
def fnSysWaysSpec : ChangeSpec := { name := "fnSysWays", fn := fun _ => fun
  | [d] => { results := [.lit (.bool true)], args := [d] }
  | _ => none }
def fnSysWaysRow : OpenClaim := { program := "ytnbgonmdjgapnaa", sum := "2e087d4f67a1adbfeaae27d07252aa67f82c696dbdd4aa97b6022d30e32fa9ca", func := "loop.example/equerry/laws.FnSysWays", spec := "fnSysWays", unfollowed := true, recurses := true, apart := false }
def FnSysWaysSaid : Prop := fnSysWaysRow.holds Try.pinned (OpenSpec.ofChange fnSysWaysSpec)

/-- ITS FALSE NEIGHBOUR: 'it returns false'. Refute it at one input. -/
def fnSysWaysWrong : ChangeSpec := { name := "fnSysWays", fn := fun _ => fun
  | [d] => { results := [.lit (.bool false)], args := [d] }
  | _ => none }
def FnSysWaysWrongFalsely : Prop := fnSysWaysRow.holds Try.pinned (OpenSpec.ofChange fnSysWaysWrong)

/-- 'laws.FnSysOk': WHATEVER THE INPUT: true; the input reads as it did. -/
def fnSysOkSpec : ChangeSpec := { name := "fnSysOk", fn := fun _ => fun
  | [d] => { results := [.lit (.bool true)], args := [d] }
  | _ => none }
def fnSysOkRow : OpenClaim := { program := "ytnbgonmdjgapnaa", sum := "2e087d4f67a1adbfeaae27d07252aa67f82c696dbdd4aa97b6022d30e32fa9ca", func := "loop.example/equerry/laws.FnSysOk", spec := "fnSysOk", recurses := true, apart := false }
def FnSysOkSaid : Prop := fnSysOkRow.holds Try.pinned (OpenSpec.ofChange fnSysOkSpec)

/-- ITS FALSE NEIGHBOUR: 'it returns false'. Refute it at one input. -/
def fnSysOkWrong : ChangeSpec := { name := "fnSysOk", fn := fun _ => fun
  | [d] => { results := [.lit (.bool false)], args := [d] }
  | _ => none }
def FnSysOkWrongFalsely : Prop := fnSysOkRow.holds Try.pinned (OpenSpec.ofChange fnSysOkWrong)

/-- 'laws.FnLogReplayCut': WHATEVER THE INPUT: true; the input reads as it did. -/
def fnLogReplayCutSpec : ChangeSpec := { name := "fnLogReplayCut", fn := fun _ => fun
  | [d1, d2] => { results := [.lit (.bool true)], args := [d1, d2] }
  | _ => none }
def fnLogReplayCutRow : OpenClaim := { program := "ytnbgonmdjgapnaa", sum := "2e087d4f67a1adbfeaae27d07252aa67f82c696dbdd4aa97b6022d30e32fa9ca", func := "loop.example/equerry/laws.FnLogReplayCut", spec := "fnLogReplayCut", recurses := true, apart := false }
def FnLogReplayCutSaid : Prop := fnLogReplayCutRow.holds Try.pinned (OpenSpec.ofChange fnLogReplayCutSpec)

/-- ITS FALSE NEIGHBOUR: 'it returns false'. Refute it at one input. -/
def fnLogReplayCutWrong : ChangeSpec := { name := "fnLogReplayCut", fn := fun _ => fun
  | [d1, d2] => { results := [.lit (.bool false)], args := [d1, d2] }
  | _ => none }
def FnLogReplayCutWrongFalsely : Prop := fnLogReplayCutRow.holds Try.pinned (OpenSpec.ofChange fnLogReplayCutWrong)

/-- 'laws.FnLogReplayNone': WHATEVER THE INPUT: true; the input reads as it did. -/
def fnLogReplayNoneSpec : ChangeSpec := { name := "fnLogReplayNone", fn := fun _ => fun
  | [d] => { results := [.lit (.bool true)], args := [d] }
  | _ => none }
def fnLogReplayNoneRow : OpenClaim := { program := "ytnbgonmdjgapnaa", sum := "2e087d4f67a1adbfeaae27d07252aa67f82c696dbdd4aa97b6022d30e32fa9ca", func := "loop.example/equerry/laws.FnLogReplayNone", spec := "fnLogReplayNone", recurses := true, apart := false }
def FnLogReplayNoneSaid : Prop := fnLogReplayNoneRow.holds Try.pinned (OpenSpec.ofChange fnLogReplayNoneSpec)

/-- ITS FALSE NEIGHBOUR: 'it returns false'. Refute it at one input. -/
def fnLogReplayNoneWrong : ChangeSpec := { name := "fnLogReplayNone", fn := fun _ => fun
  | [d] => { results := [.lit (.bool false)], args := [d] }
  | _ => none }
def FnLogReplayNoneWrongFalsely : Prop := fnLogReplayNoneRow.holds Try.pinned (OpenSpec.ofChange fnLogReplayNoneWrong)

/-- 'laws.FnLogReplayRead': WHATEVER THE INPUT: true; the input reads as it did. -/
def fnLogReplayReadSpec : ChangeSpec := { name := "fnLogReplayRead", fn := fun _ => fun
  | [d] => { results := [.lit (.bool true)], args := [d] }
  | _ => none }
def fnLogReplayReadRow : OpenClaim := { program := "ytnbgonmdjgapnaa", sum := "2e087d4f67a1adbfeaae27d07252aa67f82c696dbdd4aa97b6022d30e32fa9ca", func := "loop.example/equerry/laws.FnLogReplayRead", spec := "fnLogReplayRead", recurses := true, apart := false }
def FnLogReplayReadSaid : Prop := fnLogReplayReadRow.holds Try.pinned (OpenSpec.ofChange fnLogReplayReadSpec)

/-- ITS FALSE NEIGHBOUR: 'it returns false'. Refute it at one input. -/
def fnLogReplayReadWrong : ChangeSpec := { name := "fnLogReplayRead", fn := fun _ => fun
  | [d] => { results := [.lit (.bool false)], args := [d] }
  | _ => none }
def FnLogReplayReadWrongFalsely : Prop := fnLogReplayReadRow.holds Try.pinned (OpenSpec.ofChange fnLogReplayReadWrong)

/-- 'laws.FnLogReal': WHATEVER THE INPUT: true; the input reads as it did. -/
def fnLogRealSpec : ChangeSpec := { name := "fnLogReal", fn := fun _ => fun
  | [d] => { results := [.lit (.bool true)], args := [d] }
  | _ => none }
def fnLogRealRow : OpenClaim := { program := "ytnbgonmdjgapnaa", sum := "2e087d4f67a1adbfeaae27d07252aa67f82c696dbdd4aa97b6022d30e32fa9ca", func := "loop.example/equerry/laws.FnLogReal", spec := "fnLogReal", recurses := true, apart := false }
def FnLogRealSaid : Prop := fnLogRealRow.holds Try.pinned (OpenSpec.ofChange fnLogRealSpec)

/-- ITS FALSE NEIGHBOUR: 'it returns false'. Refute it at one input. -/
def fnLogRealWrong : ChangeSpec := { name := "fnLogReal", fn := fun _ => fun
  | [d] => { results := [.lit (.bool false)], args := [d] }
  | _ => none }
def FnLogRealWrongFalsely : Prop := fnLogRealRow.holds Try.pinned (OpenSpec.ofChange fnLogRealWrong)

/-- 'laws.FnLogRealCut': WHATEVER THE INPUT: true; the input reads as it did. -/
def fnLogRealCutSpec : ChangeSpec := { name := "fnLogRealCut", fn := fun _ => fun
  | [d1, d2] => { results := [.lit (.bool true)], args := [d1, d2] }
  | _ => none }
def fnLogRealCutRow : OpenClaim := { program := "ytnbgonmdjgapnaa", sum := "2e087d4f67a1adbfeaae27d07252aa67f82c696dbdd4aa97b6022d30e32fa9ca", func := "loop.example/equerry/laws.FnLogRealCut", spec := "fnLogRealCut", recurses := true, apart := false }
def FnLogRealCutSaid : Prop := fnLogRealCutRow.holds Try.pinned (OpenSpec.ofChange fnLogRealCutSpec)

/-- ITS FALSE NEIGHBOUR: 'it returns false'. Refute it at one input. -/
def fnLogRealCutWrong : ChangeSpec := { name := "fnLogRealCut", fn := fun _ => fun
  | [d1, d2] => { results := [.lit (.bool false)], args := [d1, d2] }
  | _ => none }
def FnLogRealCutWrongFalsely : Prop := fnLogRealCutRow.holds Try.pinned (OpenSpec.ofChange fnLogRealCutWrong)

/-- 'laws.FnTreeUnder': WHATEVER THE INPUT: true; the input reads as it did. -/
def fnTreeUnderSpec : ChangeSpec := { name := "fnTreeUnder", fn := fun _ => fun
  | [d] => { results := [.lit (.bool true)], args := [d] }
  | _ => none }
def fnTreeUnderRow : OpenClaim := { program := "ytnbgonmdjgapnaa", sum := "2e087d4f67a1adbfeaae27d07252aa67f82c696dbdd4aa97b6022d30e32fa9ca", func := "loop.example/equerry/laws.FnTreeUnder", spec := "fnTreeUnder", unfollowed := true, recurses := true, apart := false }
def FnTreeUnderSaid : Prop := fnTreeUnderRow.holds Try.pinned (OpenSpec.ofChange fnTreeUnderSpec)

/-- ITS FALSE NEIGHBOUR: 'it returns false'. Refute it at one input. -/
def fnTreeUnderWrong : ChangeSpec := { name := "fnTreeUnder", fn := fun _ => fun
  | [d] => { results := [.lit (.bool false)], args := [d] }
  | _ => none }
def FnTreeUnderWrongFalsely : Prop := fnTreeUnderRow.holds Try.pinned (OpenSpec.ofChange fnTreeUnderWrong)

/-- 'laws.FnTreeUnderOn': WHATEVER THE INPUT: true; the input reads as it did. -/
def fnTreeUnderOnSpec : ChangeSpec := { name := "fnTreeUnderOn", fn := fun _ => fun
  | [d1, d2] => { results := [.lit (.bool true)], args := [d1, d2] }
  | _ => none }
def fnTreeUnderOnRow : OpenClaim := { program := "ytnbgonmdjgapnaa", sum := "2e087d4f67a1adbfeaae27d07252aa67f82c696dbdd4aa97b6022d30e32fa9ca", func := "loop.example/equerry/laws.FnTreeUnderOn", spec := "fnTreeUnderOn", unfollowed := true, recurses := true, apart := false }
def FnTreeUnderOnSaid : Prop := fnTreeUnderOnRow.holds Try.pinned (OpenSpec.ofChange fnTreeUnderOnSpec)

/-- ITS FALSE NEIGHBOUR: 'it returns false'. Refute it at one input. -/
def fnTreeUnderOnWrong : ChangeSpec := { name := "fnTreeUnderOn", fn := fun _ => fun
  | [d1, d2] => { results := [.lit (.bool false)], args := [d1, d2] }
  | _ => none }
def FnTreeUnderOnWrongFalsely : Prop := fnTreeUnderOnRow.holds Try.pinned (OpenSpec.ofChange fnTreeUnderOnWrong)

/-- 'laws.FnTreeLive': WHATEVER THE INPUT: true; the input reads as it did. -/
def fnTreeLiveSpec : ChangeSpec := { name := "fnTreeLive", fn := fun _ => fun
  | [d] => { results := [.lit (.bool true)], args := [d] }
  | _ => none }
def fnTreeLiveRow : OpenClaim := { program := "ytnbgonmdjgapnaa", sum := "2e087d4f67a1adbfeaae27d07252aa67f82c696dbdd4aa97b6022d30e32fa9ca", func := "loop.example/equerry/laws.FnTreeLive", spec := "fnTreeLive", unfollowed := true, recurses := true, apart := false }
def FnTreeLiveSaid : Prop := fnTreeLiveRow.holds Try.pinned (OpenSpec.ofChange fnTreeLiveSpec)

/-- ITS FALSE NEIGHBOUR: 'it returns false'. Refute it at one input. -/
def fnTreeLiveWrong : ChangeSpec := { name := "fnTreeLive", fn := fun _ => fun
  | [d] => { results := [.lit (.bool false)], args := [d] }
  | _ => none }
def FnTreeLiveWrongFalsely : Prop := fnTreeLiveRow.holds Try.pinned (OpenSpec.ofChange fnTreeLiveWrong)

/-- 'laws.FnTreeOk': WHATEVER THE INPUT: true; the input reads as it did. -/
def fnTreeOkSpec : ChangeSpec := { name := "fnTreeOk", fn := fun _ => fun
  | [d] => { results := [.lit (.bool true)], args := [d] }
  | _ => none }
def fnTreeOkRow : OpenClaim := { program := "ytnbgonmdjgapnaa", sum := "2e087d4f67a1adbfeaae27d07252aa67f82c696dbdd4aa97b6022d30e32fa9ca", func := "loop.example/equerry/laws.FnTreeOk", spec := "fnTreeOk", unfollowed := true, recurses := true, apart := false }
def FnTreeOkSaid : Prop := fnTreeOkRow.holds Try.pinned (OpenSpec.ofChange fnTreeOkSpec)

/-- ITS FALSE NEIGHBOUR: 'it returns false'. Refute it at one input. -/
def fnTreeOkWrong : ChangeSpec := { name := "fnTreeOk", fn := fun _ => fun
  | [d] => { results := [.lit (.bool false)], args := [d] }
  | _ => none }
def FnTreeOkWrongFalsely : Prop := fnTreeOkRow.holds Try.pinned (OpenSpec.ofChange fnTreeOkWrong)

/-- 'laws.FnExactSysNew': WHATEVER THE INPUT: true; the input reads as it did. -/
def fnExactSysNewSpec : ChangeSpec := { name := "fnExactSysNew", fn := fun _ => fun
  | [d] => { results := [.lit (.bool true)], args := [d] }
  | _ => none }
def fnExactSysNewRow : OpenClaim := { program := "ytnbgonmdjgapnaa", sum := "2e087d4f67a1adbfeaae27d07252aa67f82c696dbdd4aa97b6022d30e32fa9ca", func := "loop.example/equerry/laws.FnExactSysNew", spec := "fnExactSysNew", recurses := true, apart := false }
def FnExactSysNewSaid : Prop := fnExactSysNewRow.holds Try.pinned (OpenSpec.ofChange fnExactSysNewSpec)

/-- ITS FALSE NEIGHBOUR: 'it returns false'. Refute it at one input. -/
def fnExactSysNewWrong : ChangeSpec := { name := "fnExactSysNew", fn := fun _ => fun
  | [d] => { results := [.lit (.bool false)], args := [d] }
  | _ => none }
def FnExactSysNewWrongFalsely : Prop := fnExactSysNewRow.holds Try.pinned (OpenSpec.ofChange fnExactSysNewWrong)

/- THE SECOND FORM. 'bulk': how many values and letters a reading holds, each counted each time it is reached (what is shared counts as often as it is met; a slice's spare places count too). A statement '..UptoSaid' is the law's where the arguments, and the package variables that the reading takes, are together of bulk at most 1048576: NARROWER than '..Said'. Prove '..Said' where nothing that the law and all that it calls make is longer than what came in: it says more and counts as full. Else prove '..UptoSaid'. A law counts once. -/
mutual
def uptoBulk {H : Type} : DataW H → Nat
  | .lit (.string bytes) => bytes.length + 1
  | .lit _ => 1
  | .nil => 1
  | .ptr d => uptoBulk d + 1
  | .slice elems spare => uptoBulkAll elems + uptoBulkAll spare + 1
  | .agg parts => uptoBulkAll parts + 1
  | .iface _ d => uptoBulk d + 1
  | .map entries => uptoBulkEntries entries + 1
  | .held _ => 1
def uptoBulkAll {H : Type} : List (DataW H) → Nat
  | [] => 0
  | d :: r => uptoBulk d + uptoBulkAll r
def uptoBulkEntries {H : Type} : List (Lit × DataW H) → Nat
  | [] => 0
  | x :: r => uptoBulkEntry x + uptoBulkEntries r
def uptoBulkEntry {H : Type} : Lit × DataW H → Nat
  | (.string bytes, d) => bytes.length + uptoBulk d + 1
  | (_, d) => uptoBulk d + 1
 end
def uptoSmall : (H : Type) → List (DataW H) → Bool := fun _ ds => decide (uptoBulkAll ds ≤ 1048576)
def OpenSpec.upto (s : _root_.Go.ChangeSpec) : _root_.Go.OpenSpec := { _root_.Go.OpenSpec.ofChange s with cond := some uptoSmall }

/-- 'laws.FnSysNew', WHERE WHAT IT READS IS OF BULK AT MOST 1048576: true; the input reads as it did. -/
def fnSysNewUptoRow : OpenClaim := { program := "ytnbgonmdjgapnaa", sum := "2e087d4f67a1adbfeaae27d07252aa67f82c696dbdd4aa97b6022d30e32fa9ca", func := "loop.example/equerry/laws.FnSysNew", spec := "fnSysNew", recurses := true, apart := false, narrowed := true }
def FnSysNewUptoSaid : Prop := fnSysNewUptoRow.holds Try.pinned (OpenSpec.upto fnSysNewSpec)

/-- 'laws.FnSysNums', WHERE WHAT IT READS IS OF BULK AT MOST 1048576: true; the input reads as it did. -/
def fnSysNumsUptoRow : OpenClaim := { program := "ytnbgonmdjgapnaa", sum := "2e087d4f67a1adbfeaae27d07252aa67f82c696dbdd4aa97b6022d30e32fa9ca", func := "loop.example/equerry/laws.FnSysNums", spec := "fnSysNums", recurses := true, apart := false, narrowed := true }
def FnSysNumsUptoSaid : Prop := fnSysNumsUptoRow.holds Try.pinned (OpenSpec.upto fnSysNumsSpec)

/-- 'laws.FnSysWays', WHERE WHAT IT READS IS OF BULK AT MOST 1048576: true; the input reads as it did. -/
def fnSysWaysUptoRow : OpenClaim := { program := "ytnbgonmdjgapnaa", sum := "2e087d4f67a1adbfeaae27d07252aa67f82c696dbdd4aa97b6022d30e32fa9ca", func := "loop.example/equerry/laws.FnSysWays", spec := "fnSysWays", unfollowed := true, recurses := true, apart := false, narrowed := true }
def FnSysWaysUptoSaid : Prop := fnSysWaysUptoRow.holds Try.pinned (OpenSpec.upto fnSysWaysSpec)

/-- 'laws.FnSysOk', WHERE WHAT IT READS IS OF BULK AT MOST 1048576: true; the input reads as it did. -/
def fnSysOkUptoRow : OpenClaim := { program := "ytnbgonmdjgapnaa", sum := "2e087d4f67a1adbfeaae27d07252aa67f82c696dbdd4aa97b6022d30e32fa9ca", func := "loop.example/equerry/laws.FnSysOk", spec := "fnSysOk", recurses := true, apart := false, narrowed := true }
def FnSysOkUptoSaid : Prop := fnSysOkUptoRow.holds Try.pinned (OpenSpec.upto fnSysOkSpec)

/-- 'laws.FnLogReplayCut', WHERE WHAT IT READS IS OF BULK AT MOST 1048576: true; the input reads as it did. -/
def fnLogReplayCutUptoRow : OpenClaim := { program := "ytnbgonmdjgapnaa", sum := "2e087d4f67a1adbfeaae27d07252aa67f82c696dbdd4aa97b6022d30e32fa9ca", func := "loop.example/equerry/laws.FnLogReplayCut", spec := "fnLogReplayCut", recurses := true, apart := false, narrowed := true }
def FnLogReplayCutUptoSaid : Prop := fnLogReplayCutUptoRow.holds Try.pinned (OpenSpec.upto fnLogReplayCutSpec)

/-- 'laws.FnLogReplayNone', WHERE WHAT IT READS IS OF BULK AT MOST 1048576: true; the input reads as it did. -/
def fnLogReplayNoneUptoRow : OpenClaim := { program := "ytnbgonmdjgapnaa", sum := "2e087d4f67a1adbfeaae27d07252aa67f82c696dbdd4aa97b6022d30e32fa9ca", func := "loop.example/equerry/laws.FnLogReplayNone", spec := "fnLogReplayNone", recurses := true, apart := false, narrowed := true }
def FnLogReplayNoneUptoSaid : Prop := fnLogReplayNoneUptoRow.holds Try.pinned (OpenSpec.upto fnLogReplayNoneSpec)

/-- 'laws.FnLogReplayRead', WHERE WHAT IT READS IS OF BULK AT MOST 1048576: true; the input reads as it did. -/
def fnLogReplayReadUptoRow : OpenClaim := { program := "ytnbgonmdjgapnaa", sum := "2e087d4f67a1adbfeaae27d07252aa67f82c696dbdd4aa97b6022d30e32fa9ca", func := "loop.example/equerry/laws.FnLogReplayRead", spec := "fnLogReplayRead", recurses := true, apart := false, narrowed := true }
def FnLogReplayReadUptoSaid : Prop := fnLogReplayReadUptoRow.holds Try.pinned (OpenSpec.upto fnLogReplayReadSpec)

/-- 'laws.FnLogReal', WHERE WHAT IT READS IS OF BULK AT MOST 1048576: true; the input reads as it did. -/
def fnLogRealUptoRow : OpenClaim := { program := "ytnbgonmdjgapnaa", sum := "2e087d4f67a1adbfeaae27d07252aa67f82c696dbdd4aa97b6022d30e32fa9ca", func := "loop.example/equerry/laws.FnLogReal", spec := "fnLogReal", recurses := true, apart := false, narrowed := true }
def FnLogRealUptoSaid : Prop := fnLogRealUptoRow.holds Try.pinned (OpenSpec.upto fnLogRealSpec)

/-- 'laws.FnLogRealCut', WHERE WHAT IT READS IS OF BULK AT MOST 1048576: true; the input reads as it did. -/
def fnLogRealCutUptoRow : OpenClaim := { program := "ytnbgonmdjgapnaa", sum := "2e087d4f67a1adbfeaae27d07252aa67f82c696dbdd4aa97b6022d30e32fa9ca", func := "loop.example/equerry/laws.FnLogRealCut", spec := "fnLogRealCut", recurses := true, apart := false, narrowed := true }
def FnLogRealCutUptoSaid : Prop := fnLogRealCutUptoRow.holds Try.pinned (OpenSpec.upto fnLogRealCutSpec)

/-- 'laws.FnTreeUnder', WHERE WHAT IT READS IS OF BULK AT MOST 1048576: true; the input reads as it did. -/
def fnTreeUnderUptoRow : OpenClaim := { program := "ytnbgonmdjgapnaa", sum := "2e087d4f67a1adbfeaae27d07252aa67f82c696dbdd4aa97b6022d30e32fa9ca", func := "loop.example/equerry/laws.FnTreeUnder", spec := "fnTreeUnder", unfollowed := true, recurses := true, apart := false, narrowed := true }
def FnTreeUnderUptoSaid : Prop := fnTreeUnderUptoRow.holds Try.pinned (OpenSpec.upto fnTreeUnderSpec)

/-- 'laws.FnTreeUnderOn', WHERE WHAT IT READS IS OF BULK AT MOST 1048576: true; the input reads as it did. -/
def fnTreeUnderOnUptoRow : OpenClaim := { program := "ytnbgonmdjgapnaa", sum := "2e087d4f67a1adbfeaae27d07252aa67f82c696dbdd4aa97b6022d30e32fa9ca", func := "loop.example/equerry/laws.FnTreeUnderOn", spec := "fnTreeUnderOn", unfollowed := true, recurses := true, apart := false, narrowed := true }
def FnTreeUnderOnUptoSaid : Prop := fnTreeUnderOnUptoRow.holds Try.pinned (OpenSpec.upto fnTreeUnderOnSpec)

/-- 'laws.FnTreeLive', WHERE WHAT IT READS IS OF BULK AT MOST 1048576: true; the input reads as it did. -/
def fnTreeLiveUptoRow : OpenClaim := { program := "ytnbgonmdjgapnaa", sum := "2e087d4f67a1adbfeaae27d07252aa67f82c696dbdd4aa97b6022d30e32fa9ca", func := "loop.example/equerry/laws.FnTreeLive", spec := "fnTreeLive", unfollowed := true, recurses := true, apart := false, narrowed := true }
def FnTreeLiveUptoSaid : Prop := fnTreeLiveUptoRow.holds Try.pinned (OpenSpec.upto fnTreeLiveSpec)

/-- 'laws.FnTreeOk', WHERE WHAT IT READS IS OF BULK AT MOST 1048576: true; the input reads as it did. -/
def fnTreeOkUptoRow : OpenClaim := { program := "ytnbgonmdjgapnaa", sum := "2e087d4f67a1adbfeaae27d07252aa67f82c696dbdd4aa97b6022d30e32fa9ca", func := "loop.example/equerry/laws.FnTreeOk", spec := "fnTreeOk", unfollowed := true, recurses := true, apart := false, narrowed := true }
def FnTreeOkUptoSaid : Prop := fnTreeOkUptoRow.holds Try.pinned (OpenSpec.upto fnTreeOkSpec)

/-- 'laws.FnExactSysNew', WHERE WHAT IT READS IS OF BULK AT MOST 1048576: true; the input reads as it did. -/
def fnExactSysNewUptoRow : OpenClaim := { program := "ytnbgonmdjgapnaa", sum := "2e087d4f67a1adbfeaae27d07252aa67f82c696dbdd4aa97b6022d30e32fa9ca", func := "loop.example/equerry/laws.FnExactSysNew", spec := "fnExactSysNew", recurses := true, apart := false, narrowed := true }
def FnExactSysNewUptoSaid : Prop := fnExactSysNewUptoRow.holds Try.pinned (OpenSpec.upto fnExactSysNewSpec)

end Rows
end Go.Proofs.Ytnbgonmdjgapnaa
