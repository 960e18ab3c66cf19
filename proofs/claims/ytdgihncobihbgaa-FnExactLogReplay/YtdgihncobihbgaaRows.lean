/-
  No cell of these rows narrows 'for every input' (looked for: loops, veiled, ifaces, maps, wideKeys, modest, calm, conditions, laid).
  DERIVED. THE GIVEN ROWS OF THIS SEAT. 5 by the template 'for every input the law returns true; each argument reads behind the call as it read before'; 0 by the template 'total and deterministic' (their statements: YtdgihncobihbgaaTotals.lean).
  GIVEN WITH THE SEED: the statements are not yours to turn. If you find one false, say at which input.
  Laid BY PROGRAM, IN A SANDBOX (cutbox-rows.mjs): the forced cells as the released guide's own fill.sh prints them over the translation 4dffa24e9d69fb9a… (all of the seat's roots in one cut). By AI agents, Wed Nov 11 2026. No macro, syntax, notation, axiom, sorry.
-/
import Derived.Test.YtdgihncobihbgaaChecked
import GoSem.Claim
import GoSem.ClaimJoined
import GoSem.ClaimMapViews
import Derived.JoinedTies
import Derived.KernelRfl
namespace Go.Proofs.Ytdgihncobihbgaa
/- THE CELL 'sum', in the pinned program and in every row, IS THE sha256 OF THE DUMP (.gsa) THAT YtdgihncobihbgaaProg.lean LOADS. Nothing in Lean hashes anything: it is a label: what it is worth is what the hold of that sum in a sandbox is worth. -/
noncomputable def Try.pinned : Pinned := { name := "ytdgihncobihbgaa", sum := "4dffa24e9d69fb9a7d42981d29b98e5372d23cb967d615f3edabca8fb37ae3a6", checked := Try.checked }
namespace Rows
def none {H : Type} : Left H := { results := [], args := [] }

/-- 'laws.FnExactSysNew': WHATEVER THE INPUT: true; the input reads as it did. -/
def fnExactSysNewSpec : ChangeSpec := { name := "fnExactSysNew", fn := fun _ => fun
  | [d] => { results := [.lit (.bool true)], args := [d] }
  | _ => none }
def fnExactSysNewRow : OpenClaim := { program := "ytdgihncobihbgaa", sum := "4dffa24e9d69fb9a7d42981d29b98e5372d23cb967d615f3edabca8fb37ae3a6", func := "loop.example/equerry/laws.FnExactSysNew", spec := "fnExactSysNew", recurses := true, apart := false }
def FnExactSysNewSaid : Prop := fnExactSysNewRow.holds Try.pinned (OpenSpec.ofChange fnExactSysNewSpec)

/-- ITS FALSE NEIGHBOUR: 'it returns false'. Refute it at one input. -/
def fnExactSysNewWrong : ChangeSpec := { name := "fnExactSysNew", fn := fun _ => fun
  | [d] => { results := [.lit (.bool false)], args := [d] }
  | _ => none }
def FnExactSysNewWrongFalsely : Prop := fnExactSysNewRow.holds Try.pinned (OpenSpec.ofChange fnExactSysNewWrong)

/-- 'laws.FnExactLogOrder': WHATEVER THE INPUT: true; the input reads as it did. -/
def fnExactLogOrderSpec : ChangeSpec := { name := "fnExactLogOrder", fn := fun _ => fun
  | [d] => { results := [.lit (.bool true)], args := [d] }
  | _ => none }
def fnExactLogOrderRow : OpenClaim := { program := "ytdgihncobihbgaa", sum := "4dffa24e9d69fb9a7d42981d29b98e5372d23cb967d615f3edabca8fb37ae3a6", func := "loop.example/equerry/laws.FnExactLogOrder", spec := "fnExactLogOrder", unfollowed := true, recurses := true, apart := false }
def FnExactLogOrderSaid : Prop := fnExactLogOrderRow.holds Try.pinned (OpenSpec.ofChange fnExactLogOrderSpec)

/-- ITS FALSE NEIGHBOUR: 'it returns false'. Refute it at one input. -/
def fnExactLogOrderWrong : ChangeSpec := { name := "fnExactLogOrder", fn := fun _ => fun
  | [d] => { results := [.lit (.bool false)], args := [d] }
  | _ => none }
def FnExactLogOrderWrongFalsely : Prop := fnExactLogOrderRow.holds Try.pinned (OpenSpec.ofChange fnExactLogOrderWrong)

/-- 'laws.FnExactLogReplay': WHATEVER THE INPUT: true; the input reads as it did. -/
def fnExactLogReplaySpec : ChangeSpec := { name := "fnExactLogReplay", fn := fun _ => fun
  | [d1, d2] => { results := [.lit (.bool true)], args := [d1, d2] }
  | _ => none }
def fnExactLogReplayRow : OpenClaim := { program := "ytdgihncobihbgaa", sum := "4dffa24e9d69fb9a7d42981d29b98e5372d23cb967d615f3edabca8fb37ae3a6", func := "loop.example/equerry/laws.FnExactLogReplay", spec := "fnExactLogReplay", apart := false }
def FnExactLogReplaySaid : Prop := fnExactLogReplayRow.holds Try.pinned (OpenSpec.ofChange fnExactLogReplaySpec)

/-- ITS FALSE NEIGHBOUR: 'it returns false'. Refute it at one input. -/
def fnExactLogReplayWrong : ChangeSpec := { name := "fnExactLogReplay", fn := fun _ => fun
  | [d1, d2] => { results := [.lit (.bool false)], args := [d1, d2] }
  | _ => none }
def FnExactLogReplayWrongFalsely : Prop := fnExactLogReplayRow.holds Try.pinned (OpenSpec.ofChange fnExactLogReplayWrong)

/-- 'laws.FnExactLogReal': WHATEVER THE INPUT: true; the input reads as it did. -/
def fnExactLogRealSpec : ChangeSpec := { name := "fnExactLogReal", fn := fun _ => fun
  | [d] => { results := [.lit (.bool true)], args := [d] }
  | _ => none }
def fnExactLogRealRow : OpenClaim := { program := "ytdgihncobihbgaa", sum := "4dffa24e9d69fb9a7d42981d29b98e5372d23cb967d615f3edabca8fb37ae3a6", func := "loop.example/equerry/laws.FnExactLogReal", spec := "fnExactLogReal", apart := false }
def FnExactLogRealSaid : Prop := fnExactLogRealRow.holds Try.pinned (OpenSpec.ofChange fnExactLogRealSpec)

/-- ITS FALSE NEIGHBOUR: 'it returns false'. Refute it at one input. -/
def fnExactLogRealWrong : ChangeSpec := { name := "fnExactLogReal", fn := fun _ => fun
  | [d] => { results := [.lit (.bool false)], args := [d] }
  | _ => none }
def FnExactLogRealWrongFalsely : Prop := fnExactLogRealRow.holds Try.pinned (OpenSpec.ofChange fnExactLogRealWrong)

/-- 'laws.FnExactLogSeen': WHATEVER THE INPUT: true; the input reads as it did. -/
def fnExactLogSeenSpec : ChangeSpec := { name := "fnExactLogSeen", fn := fun _ => fun
  | [d1, d2, d3] => { results := [.lit (.bool true)], args := [d1, d2, d3] }
  | _ => none }
def fnExactLogSeenRow : OpenClaim := { program := "ytdgihncobihbgaa", sum := "4dffa24e9d69fb9a7d42981d29b98e5372d23cb967d615f3edabca8fb37ae3a6", func := "loop.example/equerry/laws.FnExactLogSeen", spec := "fnExactLogSeen", unfollowed := true, recurses := true, apart := false }
def FnExactLogSeenSaid : Prop := fnExactLogSeenRow.holds Try.pinned (OpenSpec.ofChange fnExactLogSeenSpec)

/-- ITS FALSE NEIGHBOUR: 'it returns false'. Refute it at one input. -/
def fnExactLogSeenWrong : ChangeSpec := { name := "fnExactLogSeen", fn := fun _ => fun
  | [d1, d2, d3] => { results := [.lit (.bool false)], args := [d1, d2, d3] }
  | _ => none }
def FnExactLogSeenWrongFalsely : Prop := fnExactLogSeenRow.holds Try.pinned (OpenSpec.ofChange fnExactLogSeenWrong)

/- THE SECOND FORM. 'bulk': how many values and letters a reading holds, each counted each time it is reached (what is shared counts as often as it is met; a slice's spare places count too). A statement '..UptoSaid' is the law's where the arguments, and the package variables that the reading takes, are together of bulk at most 1048576: NARROWER than '..Said'. Prove '..Said' where nothing that the law and all that it calls make is longer than what came in: it says more and counts as full. Else prove '..UptoSaid'. A law counts once. -/
mutual
def uptoBulk {H : Type} : DataW H → Nat
  | .lit (.string bytes) => bytes.length + 1
  | .lit _ => 1
  | .nil => 1
  | .ptr d => uptoBulk d + 1
  | .slice elems spare => uptoBulkAll elems + uptoBulkAll spare + 1
  | .agg parts => uptoBulkAll parts + 1
  | .iface _ d => uptoBulk d + 1
  | .map entries => uptoBulkEntries entries + 1
  | .held _ => 1
def uptoBulkAll {H : Type} : List (DataW H) → Nat
  | [] => 0
  | d :: r => uptoBulk d + uptoBulkAll r
def uptoBulkEntries {H : Type} : List (Lit × DataW H) → Nat
  | [] => 0
  | x :: r => uptoBulkEntry x + uptoBulkEntries r
def uptoBulkEntry {H : Type} : Lit × DataW H → Nat
  | (.string bytes, d) => bytes.length + uptoBulk d + 1
  | (_, d) => uptoBulk d + 1
 end
def uptoSmall : (H : Type) → List (DataW H) → Bool := fun _ ds => decide (uptoBulkAll ds ≤ 1048576)
def OpenSpec.upto (s : _root_.Go.ChangeSpec) : _root_.Go.OpenSpec := { _root_.Go.OpenSpec.ofChange s with cond := some uptoSmall }

/-- 'laws.FnExactSysNew', WHERE WHAT IT READS IS OF BULK AT MOST 1048576: true; the input reads as it did. -/
def fnExactSysNewUptoRow : OpenClaim := { program := "ytdgihncobihbgaa", sum := "4dffa24e9d69fb9a7d42981d29b98e5372d23cb967d615f3edabca8fb37ae3a6", func := "loop.example/equerry/laws.FnExactSysNew", spec := "fnExactSysNew", recurses := true, apart := false, narrowed := true }
def FnExactSysNewUptoSaid : Prop := fnExactSysNewUptoRow.holds Try.pinned (OpenSpec.upto fnExactSysNewSpec)

/-- 'laws.FnExactLogOrder', WHERE WHAT IT READS IS OF BULK AT MOST 1048576: true; the input reads as it did. -/
def fnExactLogOrderUptoRow : OpenClaim := { program := "ytdgihncobihbgaa", sum := "4dffa24e9d69fb9a7d42981d29b98e5372d23cb967d615f3edabca8fb37ae3a6", func := "loop.example/equerry/laws.FnExactLogOrder", spec := "fnExactLogOrder", unfollowed := true, recurses := true, apart := false, narrowed := true }
def FnExactLogOrderUptoSaid : Prop := fnExactLogOrderUptoRow.holds Try.pinned (OpenSpec.upto fnExactLogOrderSpec)

/-- 'laws.FnExactLogReplay', WHERE WHAT IT READS IS OF BULK AT MOST 1048576: true; the input reads as it did. -/
def fnExactLogReplayUptoRow : OpenClaim := { program := "ytdgihncobihbgaa", sum := "4dffa24e9d69fb9a7d42981d29b98e5372d23cb967d615f3edabca8fb37ae3a6", func := "loop.example/equerry/laws.FnExactLogReplay", spec := "fnExactLogReplay", apart := false, narrowed := true }
def FnExactLogReplayUptoSaid : Prop := fnExactLogReplayUptoRow.holds Try.pinned (OpenSpec.upto fnExactLogReplaySpec)

/-- 'laws.FnExactLogReal', WHERE WHAT IT READS IS OF BULK AT MOST 1048576: true; the input reads as it did. -/
def fnExactLogRealUptoRow : OpenClaim := { program := "ytdgihncobihbgaa", sum := "4dffa24e9d69fb9a7d42981d29b98e5372d23cb967d615f3edabca8fb37ae3a6", func := "loop.example/equerry/laws.FnExactLogReal", spec := "fnExactLogReal", apart := false, narrowed := true }
def FnExactLogRealUptoSaid : Prop := fnExactLogRealUptoRow.holds Try.pinned (OpenSpec.upto fnExactLogRealSpec)

/-- 'laws.FnExactLogSeen', WHERE WHAT IT READS IS OF BULK AT MOST 1048576: true; the input reads as it did. -/
def fnExactLogSeenUptoRow : OpenClaim := { program := "ytdgihncobihbgaa", sum := "4dffa24e9d69fb9a7d42981d29b98e5372d23cb967d615f3edabca8fb37ae3a6", func := "loop.example/equerry/laws.FnExactLogSeen", spec := "fnExactLogSeen", unfollowed := true, recurses := true, apart := false, narrowed := true }
def FnExactLogSeenUptoSaid : Prop := fnExactLogSeenUptoRow.holds Try.pinned (OpenSpec.upto fnExactLogSeenSpec)

end Rows
end Go.Proofs.Ytdgihncobihbgaa
