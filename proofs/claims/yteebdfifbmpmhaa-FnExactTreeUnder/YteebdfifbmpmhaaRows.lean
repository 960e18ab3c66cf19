/-
  No cell of these rows narrows 'for every input' (looked for: loops, veiled, ifaces, maps, wideKeys, modest, calm, conditions, laid).
  DERIVED. THE GIVEN ROWS OF THIS SEAT. 5 by the template 'for every input the law returns true; each argument reads behind the call as it read before'; 0 by the template 'total and deterministic' (their statements: YteebdfifbmpmhaaTotals.lean).
  GIVEN WITH THE SEED: the statements are not yours to turn. If you find one false, say at which input.
  Laid BY PROGRAM, IN A SANDBOX (cutbox-rows.mjs): the forced cells as the released guide's own fill.sh prints them over the translation bea5c4b97ad8e76d… (all of the seat's roots in one cut). By AI agents, Wed Nov 11 2026. No macro, syntax, notation, axiom, sorry.
-/
import Derived.Test.YteebdfifbmpmhaaChecked
import GoSem.Claim
import GoSem.ClaimJoined
import GoSem.ClaimMapViews
import Derived.JoinedTies
import Derived.KernelRfl
namespace Go.Proofs.Yteebdfifbmpmhaa
/- THE CELL 'sum', in the pinned program and in every row, IS THE sha256 OF THE DUMP (.gsa) THAT YteebdfifbmpmhaaProg.lean LOADS. Nothing in Lean hashes anything: it is a label: what it is worth is what the hold of that sum in a sandbox is worth. -/
noncomputable def Try.pinned : Pinned := { name := "yteebdfifbmpmhaa", sum := "bea5c4b97ad8e76d4d243100f0ebc9273eab6b7ac692ebfd8b66d7ac24cacf9c", checked := Try.checked }
namespace Rows
def none {H : Type} : Left H := { results := [], args := [] }

/-- 'laws.FnExactSysNew': WHATEVER THE INPUT: true; the input reads as it did. -/
def fnExactSysNewSpec : ChangeSpec := { name := "fnExactSysNew", fn := fun _ => fun
  | [d] => { results := [.lit (.bool true)], args := [d] }
  | _ => none }
def fnExactSysNewRow : OpenClaim := { program := "yteebdfifbmpmhaa", sum := "bea5c4b97ad8e76d4d243100f0ebc9273eab6b7ac692ebfd8b66d7ac24cacf9c", func := "loop.example/equerry/laws.FnExactSysNew", spec := "fnExactSysNew", recurses := true, apart := false }
def FnExactSysNewSaid : Prop := fnExactSysNewRow.holds Try.pinned (OpenSpec.ofChange fnExactSysNewSpec)

/-- ITS FALSE NEIGHBOUR: 'it returns false'. Refute it at one input. -/
def fnExactSysNewWrong : ChangeSpec := { name := "fnExactSysNew", fn := fun _ => fun
  | [d] => { results := [.lit (.bool false)], args := [d] }
  | _ => none }
def FnExactSysNewWrongFalsely : Prop := fnExactSysNewRow.holds Try.pinned (OpenSpec.ofChange fnExactSysNewWrong)

/-- 'laws.FnExactTreeUnder': WHATEVER THE INPUT: true; the input reads as it did. -/
def fnExactTreeUnderSpec : ChangeSpec := { name := "fnExactTreeUnder", fn := fun _ => fun
  | [d1, d2, d3] => { results := [.lit (.bool true)], args := [d1, d2, d3] }
  | _ => none }
def fnExactTreeUnderRow : OpenClaim := { program := "yteebdfifbmpmhaa", sum := "bea5c4b97ad8e76d4d243100f0ebc9273eab6b7ac692ebfd8b66d7ac24cacf9c", func := "loop.example/equerry/laws.FnExactTreeUnder", spec := "fnExactTreeUnder", unfollowed := true, recurses := true, apart := false }
def FnExactTreeUnderSaid : Prop := fnExactTreeUnderRow.holds Try.pinned (OpenSpec.ofChange fnExactTreeUnderSpec)

/-- ITS FALSE NEIGHBOUR: 'it returns false'. Refute it at one input. -/
def fnExactTreeUnderWrong : ChangeSpec := { name := "fnExactTreeUnder", fn := fun _ => fun
  | [d1, d2, d3] => { results := [.lit (.bool false)], args := [d1, d2, d3] }
  | _ => none }
def FnExactTreeUnderWrongFalsely : Prop := fnExactTreeUnderRow.holds Try.pinned (OpenSpec.ofChange fnExactTreeUnderWrong)

/-- 'laws.FnExactTreeLive': WHATEVER THE INPUT: true; the input reads as it did. -/
def fnExactTreeLiveSpec : ChangeSpec := { name := "fnExactTreeLive", fn := fun _ => fun
  | [d] => { results := [.lit (.bool true)], args := [d] }
  | _ => none }
def fnExactTreeLiveRow : OpenClaim := { program := "yteebdfifbmpmhaa", sum := "bea5c4b97ad8e76d4d243100f0ebc9273eab6b7ac692ebfd8b66d7ac24cacf9c", func := "loop.example/equerry/laws.FnExactTreeLive", spec := "fnExactTreeLive", unfollowed := true, recurses := true, apart := false }
def FnExactTreeLiveSaid : Prop := fnExactTreeLiveRow.holds Try.pinned (OpenSpec.ofChange fnExactTreeLiveSpec)

/-- ITS FALSE NEIGHBOUR: 'it returns false'. Refute it at one input. -/
def fnExactTreeLiveWrong : ChangeSpec := { name := "fnExactTreeLive", fn := fun _ => fun
  | [d] => { results := [.lit (.bool false)], args := [d] }
  | _ => none }
def FnExactTreeLiveWrongFalsely : Prop := fnExactTreeLiveRow.holds Try.pinned (OpenSpec.ofChange fnExactTreeLiveWrong)

/-- 'laws.FnExactTreeOk': WHATEVER THE INPUT: true; the input reads as it did. -/
def fnExactTreeOkSpec : ChangeSpec := { name := "fnExactTreeOk", fn := fun _ => fun
  | [d] => { results := [.lit (.bool true)], args := [d] }
  | _ => none }
def fnExactTreeOkRow : OpenClaim := { program := "yteebdfifbmpmhaa", sum := "bea5c4b97ad8e76d4d243100f0ebc9273eab6b7ac692ebfd8b66d7ac24cacf9c", func := "loop.example/equerry/laws.FnExactTreeOk", spec := "fnExactTreeOk", apart := false }
def FnExactTreeOkSaid : Prop := fnExactTreeOkRow.holds Try.pinned (OpenSpec.ofChange fnExactTreeOkSpec)

/-- ITS FALSE NEIGHBOUR: 'it returns false'. Refute it at one input. -/
def fnExactTreeOkWrong : ChangeSpec := { name := "fnExactTreeOk", fn := fun _ => fun
  | [d] => { results := [.lit (.bool false)], args := [d] }
  | _ => none }
def FnExactTreeOkWrongFalsely : Prop := fnExactTreeOkRow.holds Try.pinned (OpenSpec.ofChange fnExactTreeOkWrong)

/-- 'laws.FnExactTreeWalk': WHATEVER THE INPUT: true; the input reads as it did. -/
def fnExactTreeWalkSpec : ChangeSpec := { name := "fnExactTreeWalk", fn := fun _ => fun
  | [d] => { results := [.lit (.bool true)], args := [d] }
  | _ => none }
def fnExactTreeWalkRow : OpenClaim := { program := "yteebdfifbmpmhaa", sum := "bea5c4b97ad8e76d4d243100f0ebc9273eab6b7ac692ebfd8b66d7ac24cacf9c", func := "loop.example/equerry/laws.FnExactTreeWalk", spec := "fnExactTreeWalk", unfollowed := true, recurses := true, apart := false }
def FnExactTreeWalkSaid : Prop := fnExactTreeWalkRow.holds Try.pinned (OpenSpec.ofChange fnExactTreeWalkSpec)

/-- ITS FALSE NEIGHBOUR: 'it returns false'. Refute it at one input. -/
def fnExactTreeWalkWrong : ChangeSpec := { name := "fnExactTreeWalk", fn := fun _ => fun
  | [d] => { results := [.lit (.bool false)], args := [d] }
  | _ => none }
def FnExactTreeWalkWrongFalsely : Prop := fnExactTreeWalkRow.holds Try.pinned (OpenSpec.ofChange fnExactTreeWalkWrong)

/- THE SECOND FORM. 'bulk': how many values and letters a reading holds, each counted each time it is reached (what is shared counts as often as it is met; a slice's spare places count too). A statement '..UptoSaid' is the law's where the arguments, and the package variables that the reading takes, are together of bulk at most 1048576: NARROWER than '..Said'. Prove '..Said' where nothing that the law and all that it calls make is longer than what came in: it says more and counts as full. Else prove '..UptoSaid'. A law counts once. -/
mutual
def uptoBulk {H : Type} : DataW H → Nat
  | .lit (.string bytes) => bytes.length + 1
  | .lit _ => 1
  | .nil => 1
  | .ptr d => uptoBulk d + 1
  | .slice elems spare => uptoBulkAll elems + uptoBulkAll spare + 1
  | .agg parts => uptoBulkAll parts + 1
  | .iface _ d => uptoBulk d + 1
  | .map entries => uptoBulkEntries entries + 1
  | .held _ => 1
def uptoBulkAll {H : Type} : List (DataW H) → Nat
  | [] => 0
  | d :: r => uptoBulk d + uptoBulkAll r
def uptoBulkEntries {H : Type} : List (Lit × DataW H) → Nat
  | [] => 0
  | x :: r => uptoBulkEntry x + uptoBulkEntries r
def uptoBulkEntry {H : Type} : Lit × DataW H → Nat
  | (.string bytes, d) => bytes.length + uptoBulk d + 1
  | (_, d) => uptoBulk d + 1
 end
def uptoSmall : (H : Type) → List (DataW H) → Bool := fun _ ds => decide (uptoBulkAll ds ≤ 1048576)
def OpenSpec.upto (s : _root_.Go.ChangeSpec) : _root_.Go.OpenSpec := { _root_.Go.OpenSpec.ofChange s with cond := some uptoSmall }

/-- 'laws.FnExactSysNew', WHERE WHAT IT READS IS OF BULK AT MOST 1048576: true; the input reads as it did. -/
def fnExactSysNewUptoRow : OpenClaim := { program := "yteebdfifbmpmhaa", sum := "bea5c4b97ad8e76d4d243100f0ebc9273eab6b7ac692ebfd8b66d7ac24cacf9c", func := "loop.example/equerry/laws.FnExactSysNew", spec := "fnExactSysNew", recurses := true, apart := false, narrowed := true }
def FnExactSysNewUptoSaid : Prop := fnExactSysNewUptoRow.holds Try.pinned (OpenSpec.upto fnExactSysNewSpec)

/-- 'laws.FnExactTreeUnder', WHERE WHAT IT READS IS OF BULK AT MOST 1048576: true; the input reads as it did. -/
def fnExactTreeUnderUptoRow : OpenClaim := { program := "yteebdfifbmpmhaa", sum := "bea5c4b97ad8e76d4d243100f0ebc9273eab6b7ac692ebfd8b66d7ac24cacf9c", func := "loop.example/equerry/laws.FnExactTreeUnder", spec := "fnExactTreeUnder", unfollowed := true, recurses := true, apart := false, narrowed := true }
def FnExactTreeUnderUptoSaid : Prop := fnExactTreeUnderUptoRow.holds Try.pinned (OpenSpec.upto fnExactTreeUnderSpec)

/-- 'laws.FnExactTreeLive', WHERE WHAT IT READS IS OF BULK AT MOST 1048576: true; the input reads as it did. -/
def fnExactTreeLiveUptoRow : OpenClaim := { program := "yteebdfifbmpmhaa", sum := "bea5c4b97ad8e76d4d243100f0ebc9273eab6b7ac692ebfd8b66d7ac24cacf9c", func := "loop.example/equerry/laws.FnExactTreeLive", spec := "fnExactTreeLive", unfollowed := true, recurses := true, apart := false, narrowed := true }
def FnExactTreeLiveUptoSaid : Prop := fnExactTreeLiveUptoRow.holds Try.pinned (OpenSpec.upto fnExactTreeLiveSpec)

/-- 'laws.FnExactTreeOk', WHERE WHAT IT READS IS OF BULK AT MOST 1048576: true; the input reads as it did. -/
def fnExactTreeOkUptoRow : OpenClaim := { program := "yteebdfifbmpmhaa", sum := "bea5c4b97ad8e76d4d243100f0ebc9273eab6b7ac692ebfd8b66d7ac24cacf9c", func := "loop.example/equerry/laws.FnExactTreeOk", spec := "fnExactTreeOk", apart := false, narrowed := true }
def FnExactTreeOkUptoSaid : Prop := fnExactTreeOkUptoRow.holds Try.pinned (OpenSpec.upto fnExactTreeOkSpec)

/-- 'laws.FnExactTreeWalk', WHERE WHAT IT READS IS OF BULK AT MOST 1048576: true; the input reads as it did. -/
def fnExactTreeWalkUptoRow : OpenClaim := { program := "yteebdfifbmpmhaa", sum := "bea5c4b97ad8e76d4d243100f0ebc9273eab6b7ac692ebfd8b66d7ac24cacf9c", func := "loop.example/equerry/laws.FnExactTreeWalk", spec := "fnExactTreeWalk", unfollowed := true, recurses := true, apart := false, narrowed := true }
def FnExactTreeWalkUptoSaid : Prop := fnExactTreeWalkUptoRow.holds Try.pinned (OpenSpec.upto fnExactTreeWalkSpec)

end Rows
end Go.Proofs.Yteebdfifbmpmhaa
