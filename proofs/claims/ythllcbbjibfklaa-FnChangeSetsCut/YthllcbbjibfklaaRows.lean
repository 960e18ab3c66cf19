/-
  No cell of these rows narrows 'for every input' (looked for: loops, veiled, ifaces, maps, wideKeys, modest, calm, conditions, laid).
  DERIVED. THE GIVEN ROWS OF THIS SEAT. 6 by the template 'for every input the law returns true; each argument reads behind the call as it read before'; 0 by the template 'total and deterministic' (their statements: YthllcbbjibfklaaTotals.lean).
  GIVEN WITH THE SEED: the statements are not yours to turn. If you find one false, say at which input.
  Laid BY PROGRAM, IN A SANDBOX (cutbox-rows.mjs): the forced cells as the released guide's own fill.sh prints them over the translation 0d83a01b0c680a71… (all of the seat's roots in one cut). By AI agents, Wed Nov 11 2026. No macro, syntax, notation, axiom, sorry.
-/
import Derived.Test.YthllcbbjibfklaaChecked
import GoSem.Claim
import GoSem.ClaimJoined
import GoSem.ClaimMapViews
import Derived.JoinedTies
import Derived.KernelRfl
namespace Go.Proofs.Ythllcbbjibfklaa
/- THE CELL 'sum', in the pinned program and in every row, IS THE sha256 OF THE DUMP (.gsa) THAT YthllcbbjibfklaaProg.lean LOADS. Nothing in Lean hashes anything: it is a label: what it is worth is what the hold of that sum in a sandbox is worth. -/
noncomputable def Try.pinned : Pinned := { name := "ythllcbbjibfklaa", sum := "0d83a01b0c680a71b7642b68385559dc8b3faa98be57470cc6a56aa8a457616f", checked := Try.checked }
namespace Rows
def none {H : Type} : Left H := { results := [], args := [] }

/-- 'laws.FnChangeDo': WHATEVER THE INPUT: true; the input reads as it did. -/
def fnChangeDoSpec : ChangeSpec := { name := "fnChangeDo", fn := fun _ => fun
  | [d] => { results := [.lit (.bool true)], args := [d] }
  | _ => none }
def fnChangeDoRow : OpenClaim := { program := "ythllcbbjibfklaa", sum := "0d83a01b0c680a71b7642b68385559dc8b3faa98be57470cc6a56aa8a457616f", func := "loop.example/equerry/laws.FnChangeDo", spec := "fnChangeDo", inPlace := ["slices.overlaps[int]"], unfollowed := true, recurses := true, apart := false }
def FnChangeDoSaid : Prop := fnChangeDoRow.holds Try.pinned (OpenSpec.ofChange fnChangeDoSpec)

/-- ITS FALSE NEIGHBOUR: 'it returns false'. Refute it at one input. -/
def fnChangeDoWrong : ChangeSpec := { name := "fnChangeDo", fn := fun _ => fun
  | [d] => { results := [.lit (.bool false)], args := [d] }
  | _ => none }
def FnChangeDoWrongFalsely : Prop := fnChangeDoRow.holds Try.pinned (OpenSpec.ofChange fnChangeDoWrong)

/-- 'laws.FnChangeReads': WHATEVER THE INPUT: true; the input reads as it did. -/
def fnChangeReadsSpec : ChangeSpec := { name := "fnChangeReads", fn := fun _ => fun
  | [d] => { results := [.lit (.bool true)], args := [d] }
  | _ => none }
def fnChangeReadsRow : OpenClaim := { program := "ythllcbbjibfklaa", sum := "0d83a01b0c680a71b7642b68385559dc8b3faa98be57470cc6a56aa8a457616f", func := "loop.example/equerry/laws.FnChangeReads", spec := "fnChangeReads", inPlace := ["slices.overlaps[int]"], unfollowed := true, recurses := true, apart := false }
def FnChangeReadsSaid : Prop := fnChangeReadsRow.holds Try.pinned (OpenSpec.ofChange fnChangeReadsSpec)

/-- ITS FALSE NEIGHBOUR: 'it returns false'. Refute it at one input. -/
def fnChangeReadsWrong : ChangeSpec := { name := "fnChangeReads", fn := fun _ => fun
  | [d] => { results := [.lit (.bool false)], args := [d] }
  | _ => none }
def FnChangeReadsWrongFalsely : Prop := fnChangeReadsRow.holds Try.pinned (OpenSpec.ofChange fnChangeReadsWrong)

/-- 'laws.FnChangeSets': WHATEVER THE INPUT: true; the input reads as it did. -/
def fnChangeSetsSpec : ChangeSpec := { name := "fnChangeSets", fn := fun _ => fun
  | [d] => { results := [.lit (.bool true)], args := [d] }
  | _ => none }
def fnChangeSetsRow : OpenClaim := { program := "ythllcbbjibfklaa", sum := "0d83a01b0c680a71b7642b68385559dc8b3faa98be57470cc6a56aa8a457616f", func := "loop.example/equerry/laws.FnChangeSets", spec := "fnChangeSets", inPlace := ["slices.overlaps[int]"], apart := false }
def FnChangeSetsSaid : Prop := fnChangeSetsRow.holds Try.pinned (OpenSpec.ofChange fnChangeSetsSpec)

/-- ITS FALSE NEIGHBOUR: 'it returns false'. Refute it at one input. -/
def fnChangeSetsWrong : ChangeSpec := { name := "fnChangeSets", fn := fun _ => fun
  | [d] => { results := [.lit (.bool false)], args := [d] }
  | _ => none }
def FnChangeSetsWrongFalsely : Prop := fnChangeSetsRow.holds Try.pinned (OpenSpec.ofChange fnChangeSetsWrong)

/-- 'laws.FnChangeSetsCut': WHATEVER THE INPUT: true; the input reads as it did. -/
def fnChangeSetsCutSpec : ChangeSpec := { name := "fnChangeSetsCut", fn := fun _ => fun
  | [d1, d2] => { results := [.lit (.bool true)], args := [d1, d2] }
  | _ => none }
def fnChangeSetsCutRow : OpenClaim := { program := "ythllcbbjibfklaa", sum := "0d83a01b0c680a71b7642b68385559dc8b3faa98be57470cc6a56aa8a457616f", func := "loop.example/equerry/laws.FnChangeSetsCut", spec := "fnChangeSetsCut", inPlace := ["slices.overlaps[int]"], apart := false }
def FnChangeSetsCutSaid : Prop := fnChangeSetsCutRow.holds Try.pinned (OpenSpec.ofChange fnChangeSetsCutSpec)

/-- ITS FALSE NEIGHBOUR: 'it returns false'. Refute it at one input. -/
def fnChangeSetsCutWrong : ChangeSpec := { name := "fnChangeSetsCut", fn := fun _ => fun
  | [d1, d2] => { results := [.lit (.bool false)], args := [d1, d2] }
  | _ => none }
def FnChangeSetsCutWrongFalsely : Prop := fnChangeSetsCutRow.holds Try.pinned (OpenSpec.ofChange fnChangeSetsCutWrong)

/-- 'laws.FnExactChangeReads': WHATEVER THE INPUT: true; the input reads as it did. -/
def fnExactChangeReadsSpec : ChangeSpec := { name := "fnExactChangeReads", fn := fun _ => fun
  | [d] => { results := [.lit (.bool true)], args := [d] }
  | _ => none }
def fnExactChangeReadsRow : OpenClaim := { program := "ythllcbbjibfklaa", sum := "0d83a01b0c680a71b7642b68385559dc8b3faa98be57470cc6a56aa8a457616f", func := "loop.example/equerry/laws.FnExactChangeReads", spec := "fnExactChangeReads", inPlace := ["slices.overlaps[int]"], apart := false }
def FnExactChangeReadsSaid : Prop := fnExactChangeReadsRow.holds Try.pinned (OpenSpec.ofChange fnExactChangeReadsSpec)

/-- ITS FALSE NEIGHBOUR: 'it returns false'. Refute it at one input. -/
def fnExactChangeReadsWrong : ChangeSpec := { name := "fnExactChangeReads", fn := fun _ => fun
  | [d] => { results := [.lit (.bool false)], args := [d] }
  | _ => none }
def FnExactChangeReadsWrongFalsely : Prop := fnExactChangeReadsRow.holds Try.pinned (OpenSpec.ofChange fnExactChangeReadsWrong)

/-- 'laws.FnExactChangeWrites': WHATEVER THE INPUT: true; the input reads as it did. -/
def fnExactChangeWritesSpec : ChangeSpec := { name := "fnExactChangeWrites", fn := fun _ => fun
  | [d] => { results := [.lit (.bool true)], args := [d] }
  | _ => none }
def fnExactChangeWritesRow : OpenClaim := { program := "ythllcbbjibfklaa", sum := "0d83a01b0c680a71b7642b68385559dc8b3faa98be57470cc6a56aa8a457616f", func := "loop.example/equerry/laws.FnExactChangeWrites", spec := "fnExactChangeWrites", inPlace := ["slices.overlaps[int]"], apart := false }
def FnExactChangeWritesSaid : Prop := fnExactChangeWritesRow.holds Try.pinned (OpenSpec.ofChange fnExactChangeWritesSpec)

/-- ITS FALSE NEIGHBOUR: 'it returns false'. Refute it at one input. -/
def fnExactChangeWritesWrong : ChangeSpec := { name := "fnExactChangeWrites", fn := fun _ => fun
  | [d] => { results := [.lit (.bool false)], args := [d] }
  | _ => none }
def FnExactChangeWritesWrongFalsely : Prop := fnExactChangeWritesRow.holds Try.pinned (OpenSpec.ofChange fnExactChangeWritesWrong)

/- THE SECOND FORM. 'bulk': how many values and letters a reading holds, each counted each time it is reached (what is shared counts as often as it is met; a slice's spare places count too). A statement '..UptoSaid' is the law's where the arguments, and the package variables that the reading takes, are together of bulk at most 1048576: NARROWER than '..Said'. Prove '..Said' where nothing that the law and all that it calls make is longer than what came in: it says more and counts as full. Else prove '..UptoSaid'. A law counts once. -/
mutual
def uptoBulk {H : Type} : DataW H → Nat
  | .lit (.string bytes) => bytes.length + 1
  | .lit _ => 1
  | .nil => 1
  | .ptr d => uptoBulk d + 1
  | .slice elems spare => uptoBulkAll elems + uptoBulkAll spare + 1
  | .agg parts => uptoBulkAll parts + 1
  | .iface _ d => uptoBulk d + 1
  | .map entries => uptoBulkEntries entries + 1
  | .held _ => 1
def uptoBulkAll {H : Type} : List (DataW H) → Nat
  | [] => 0
  | d :: r => uptoBulk d + uptoBulkAll r
def uptoBulkEntries {H : Type} : List (Lit × DataW H) → Nat
  | [] => 0
  | x :: r => uptoBulkEntry x + uptoBulkEntries r
def uptoBulkEntry {H : Type} : Lit × DataW H → Nat
  | (.string bytes, d) => bytes.length + uptoBulk d + 1
  | (_, d) => uptoBulk d + 1
 end
def uptoSmall : (H : Type) → List (DataW H) → Bool := fun _ ds => decide (uptoBulkAll ds ≤ 1048576)
def OpenSpec.upto (s : _root_.Go.ChangeSpec) : _root_.Go.OpenSpec := { _root_.Go.OpenSpec.ofChange s with cond := some uptoSmall }

/-- 'laws.FnChangeDo', WHERE WHAT IT READS IS OF BULK AT MOST 1048576: true; the input reads as it did. -/
def fnChangeDoUptoRow : OpenClaim := { program := "ythllcbbjibfklaa", sum := "0d83a01b0c680a71b7642b68385559dc8b3faa98be57470cc6a56aa8a457616f", func := "loop.example/equerry/laws.FnChangeDo", spec := "fnChangeDo", inPlace := ["slices.overlaps[int]"], unfollowed := true, recurses := true, apart := false, narrowed := true }
def FnChangeDoUptoSaid : Prop := fnChangeDoUptoRow.holds Try.pinned (OpenSpec.upto fnChangeDoSpec)

/-- 'laws.FnChangeReads', WHERE WHAT IT READS IS OF BULK AT MOST 1048576: true; the input reads as it did. -/
def fnChangeReadsUptoRow : OpenClaim := { program := "ythllcbbjibfklaa", sum := "0d83a01b0c680a71b7642b68385559dc8b3faa98be57470cc6a56aa8a457616f", func := "loop.example/equerry/laws.FnChangeReads", spec := "fnChangeReads", inPlace := ["slices.overlaps[int]"], unfollowed := true, recurses := true, apart := false, narrowed := true }
def FnChangeReadsUptoSaid : Prop := fnChangeReadsUptoRow.holds Try.pinned (OpenSpec.upto fnChangeReadsSpec)

/-- 'laws.FnChangeSets', WHERE WHAT IT READS IS OF BULK AT MOST 1048576: true; the input reads as it did. -/
def fnChangeSetsUptoRow : OpenClaim := { program := "ythllcbbjibfklaa", sum := "0d83a01b0c680a71b7642b68385559dc8b3faa98be57470cc6a56aa8a457616f", func := "loop.example/equerry/laws.FnChangeSets", spec := "fnChangeSets", inPlace := ["slices.overlaps[int]"], apart := false, narrowed := true }
def FnChangeSetsUptoSaid : Prop := fnChangeSetsUptoRow.holds Try.pinned (OpenSpec.upto fnChangeSetsSpec)

/-- 'laws.FnChangeSetsCut', WHERE WHAT IT READS IS OF BULK AT MOST 1048576: true; the input reads as it did. -/
def fnChangeSetsCutUptoRow : OpenClaim := { program := "ythllcbbjibfklaa", sum := "0d83a01b0c680a71b7642b68385559dc8b3faa98be57470cc6a56aa8a457616f", func := "loop.example/equerry/laws.FnChangeSetsCut", spec := "fnChangeSetsCut", inPlace := ["slices.overlaps[int]"], apart := false, narrowed := true }
def FnChangeSetsCutUptoSaid : Prop := fnChangeSetsCutUptoRow.holds Try.pinned (OpenSpec.upto fnChangeSetsCutSpec)

/-- 'laws.FnExactChangeReads', WHERE WHAT IT READS IS OF BULK AT MOST 1048576: true; the input reads as it did. -/
def fnExactChangeReadsUptoRow : OpenClaim := { program := "ythllcbbjibfklaa", sum := "0d83a01b0c680a71b7642b68385559dc8b3faa98be57470cc6a56aa8a457616f", func := "loop.example/equerry/laws.FnExactChangeReads", spec := "fnExactChangeReads", inPlace := ["slices.overlaps[int]"], apart := false, narrowed := true }
def FnExactChangeReadsUptoSaid : Prop := fnExactChangeReadsUptoRow.holds Try.pinned (OpenSpec.upto fnExactChangeReadsSpec)

/-- 'laws.FnExactChangeWrites', WHERE WHAT IT READS IS OF BULK AT MOST 1048576: true; the input reads as it did. -/
def fnExactChangeWritesUptoRow : OpenClaim := { program := "ythllcbbjibfklaa", sum := "0d83a01b0c680a71b7642b68385559dc8b3faa98be57470cc6a56aa8a457616f", func := "loop.example/equerry/laws.FnExactChangeWrites", spec := "fnExactChangeWrites", inPlace := ["slices.overlaps[int]"], apart := false, narrowed := true }
def FnExactChangeWritesUptoSaid : Prop := fnExactChangeWritesUptoRow.holds Try.pinned (OpenSpec.upto fnExactChangeWritesSpec)

end Rows
end Go.Proofs.Ythllcbbjibfklaa
