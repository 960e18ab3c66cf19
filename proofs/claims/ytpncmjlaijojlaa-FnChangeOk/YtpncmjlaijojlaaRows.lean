/-
  No cell of these rows narrows 'for every input' (looked for: loops, veiled, ifaces, maps, wideKeys, modest, calm, conditions, laid).
  DERIVED. THE GIVEN ROWS OF THIS SEAT. 7 by the template 'for every input the law returns true; each argument reads behind the call as it read before'; 0 by the template 'total and deterministic' (their statements: YtpncmjlaijojlaaTotals.lean).
  GIVEN WITH THE SEED: the statements are not yours to turn. If you find one false, say at which input.
  Laid BY PROGRAM, IN A SANDBOX (cutbox-rows.mjs): the forced cells as the released guide's own fill.sh prints them over the translation 0287c6fb779ac93c… (all of the seat's roots in one cut). By AI agents, Wed Nov 11 2026. No macro, syntax, notation, axiom, sorry.
-/
import Derived.Test.YtpncmjlaijojlaaChecked
import GoSem.Claim
import GoSem.ClaimJoined
import GoSem.ClaimMapViews
import Derived.JoinedTies
import Derived.KernelRfl
namespace Go.Proofs.Ytpncmjlaijojlaa
/- THE CELL 'sum', in the pinned program and in every row, IS THE sha256 OF THE DUMP (.gsa) THAT YtpncmjlaijojlaaProg.lean LOADS. Nothing in Lean hashes anything: it is a label: what it is worth is what the hold of that sum in a sandbox is worth. -/
noncomputable def Try.pinned : Pinned := { name := "ytpncmjlaijojlaa", sum := "0287c6fb779ac93ce09695970f4dc491fab570a38f71262500dea483b245c6e1", checked := Try.checked }
namespace Rows
def none {H : Type} : Left H := { results := [], args := [] }

/-- 'laws.FnChangeOk': WHATEVER THE INPUT: true; the input reads as it did. -/
def fnChangeOkSpec : ChangeSpec := { name := "fnChangeOk", fn := fun _ => fun
  | [d1, d2] => { results := [.lit (.bool true)], args := [d1, d2] }
  | _ => none }
def fnChangeOkRow : OpenClaim := { program := "ytpncmjlaijojlaa", sum := "0287c6fb779ac93ce09695970f4dc491fab570a38f71262500dea483b245c6e1", func := "loop.example/equerry/laws.FnChangeOk", spec := "fnChangeOk", apart := false }
def FnChangeOkSaid : Prop := fnChangeOkRow.holds Try.pinned (OpenSpec.ofChange fnChangeOkSpec)

/-- ITS FALSE NEIGHBOUR: 'it returns false'. Refute it at one input. -/
def fnChangeOkWrong : ChangeSpec := { name := "fnChangeOk", fn := fun _ => fun
  | [d1, d2] => { results := [.lit (.bool false)], args := [d1, d2] }
  | _ => none }
def FnChangeOkWrongFalsely : Prop := fnChangeOkRow.holds Try.pinned (OpenSpec.ofChange fnChangeOkWrong)

/-- 'laws.FnChangeCut': WHATEVER THE INPUT: true; the input reads as it did. -/
def fnChangeCutSpec : ChangeSpec := { name := "fnChangeCut", fn := fun _ => fun
  | [d1, d2] => { results := [.lit (.bool true)], args := [d1, d2] }
  | _ => none }
def fnChangeCutRow : OpenClaim := { program := "ytpncmjlaijojlaa", sum := "0287c6fb779ac93ce09695970f4dc491fab570a38f71262500dea483b245c6e1", func := "loop.example/equerry/laws.FnChangeCut", spec := "fnChangeCut", unfollowed := true, recurses := true, apart := false }
def FnChangeCutSaid : Prop := fnChangeCutRow.holds Try.pinned (OpenSpec.ofChange fnChangeCutSpec)

/-- ITS FALSE NEIGHBOUR: 'it returns false'. Refute it at one input. -/
def fnChangeCutWrong : ChangeSpec := { name := "fnChangeCut", fn := fun _ => fun
  | [d1, d2] => { results := [.lit (.bool false)], args := [d1, d2] }
  | _ => none }
def FnChangeCutWrongFalsely : Prop := fnChangeCutRow.holds Try.pinned (OpenSpec.ofChange fnChangeCutWrong)

/-- 'laws.FnChangeNeed': WHATEVER THE INPUT: true; the input reads as it did. -/
def fnChangeNeedSpec : ChangeSpec := { name := "fnChangeNeed", fn := fun _ => fun
  | [d1, d2] => { results := [.lit (.bool true)], args := [d1, d2] }
  | _ => none }
def fnChangeNeedRow : OpenClaim := { program := "ytpncmjlaijojlaa", sum := "0287c6fb779ac93ce09695970f4dc491fab570a38f71262500dea483b245c6e1", func := "loop.example/equerry/laws.FnChangeNeed", spec := "fnChangeNeed", unfollowed := true, recurses := true, apart := false }
def FnChangeNeedSaid : Prop := fnChangeNeedRow.holds Try.pinned (OpenSpec.ofChange fnChangeNeedSpec)

/-- ITS FALSE NEIGHBOUR: 'it returns false'. Refute it at one input. -/
def fnChangeNeedWrong : ChangeSpec := { name := "fnChangeNeed", fn := fun _ => fun
  | [d1, d2] => { results := [.lit (.bool false)], args := [d1, d2] }
  | _ => none }
def FnChangeNeedWrongFalsely : Prop := fnChangeNeedRow.holds Try.pinned (OpenSpec.ofChange fnChangeNeedWrong)

/-- 'laws.FnChangeEmpty': WHATEVER THE INPUT: true; the input reads as it did. -/
def fnChangeEmptySpec : ChangeSpec := { name := "fnChangeEmpty", fn := fun _ => fun
  | [d] => { results := [.lit (.bool true)], args := [d] }
  | _ => none }
def fnChangeEmptyRow : OpenClaim := { program := "ytpncmjlaijojlaa", sum := "0287c6fb779ac93ce09695970f4dc491fab570a38f71262500dea483b245c6e1", func := "loop.example/equerry/laws.FnChangeEmpty", spec := "fnChangeEmpty", unfollowed := true, recurses := true, apart := false }
def FnChangeEmptySaid : Prop := fnChangeEmptyRow.holds Try.pinned (OpenSpec.ofChange fnChangeEmptySpec)

/-- ITS FALSE NEIGHBOUR: 'it returns false'. Refute it at one input. -/
def fnChangeEmptyWrong : ChangeSpec := { name := "fnChangeEmpty", fn := fun _ => fun
  | [d] => { results := [.lit (.bool false)], args := [d] }
  | _ => none }
def FnChangeEmptyWrongFalsely : Prop := fnChangeEmptyRow.holds Try.pinned (OpenSpec.ofChange fnChangeEmptyWrong)

/-- 'laws.FnChangeRegs': WHATEVER THE INPUT: true; the input reads as it did. -/
def fnChangeRegsSpec : ChangeSpec := { name := "fnChangeRegs", fn := fun _ => fun
  | [d] => { results := [.lit (.bool true)], args := [d] }
  | _ => none }
def fnChangeRegsRow : OpenClaim := { program := "ytpncmjlaijojlaa", sum := "0287c6fb779ac93ce09695970f4dc491fab570a38f71262500dea483b245c6e1", func := "loop.example/equerry/laws.FnChangeRegs", spec := "fnChangeRegs", unfollowed := true, recurses := true, apart := false }
def FnChangeRegsSaid : Prop := fnChangeRegsRow.holds Try.pinned (OpenSpec.ofChange fnChangeRegsSpec)

/-- ITS FALSE NEIGHBOUR: 'it returns false'. Refute it at one input. -/
def fnChangeRegsWrong : ChangeSpec := { name := "fnChangeRegs", fn := fun _ => fun
  | [d] => { results := [.lit (.bool false)], args := [d] }
  | _ => none }
def FnChangeRegsWrongFalsely : Prop := fnChangeRegsRow.holds Try.pinned (OpenSpec.ofChange fnChangeRegsWrong)

/-- 'laws.FnExactChangeDo': WHATEVER THE INPUT: true; the input reads as it did. -/
def fnExactChangeDoSpec : ChangeSpec := { name := "fnExactChangeDo", fn := fun _ => fun
  | [d1, d2, d3] => { results := [.lit (.bool true)], args := [d1, d2, d3] }
  | _ => none }
def fnExactChangeDoRow : OpenClaim := { program := "ytpncmjlaijojlaa", sum := "0287c6fb779ac93ce09695970f4dc491fab570a38f71262500dea483b245c6e1", func := "loop.example/equerry/laws.FnExactChangeDo", spec := "fnExactChangeDo", unfollowed := true, recurses := true, apart := false }
def FnExactChangeDoSaid : Prop := fnExactChangeDoRow.holds Try.pinned (OpenSpec.ofChange fnExactChangeDoSpec)

/-- ITS FALSE NEIGHBOUR: 'it returns false'. Refute it at one input. -/
def fnExactChangeDoWrong : ChangeSpec := { name := "fnExactChangeDo", fn := fun _ => fun
  | [d1, d2, d3] => { results := [.lit (.bool false)], args := [d1, d2, d3] }
  | _ => none }
def FnExactChangeDoWrongFalsely : Prop := fnExactChangeDoRow.holds Try.pinned (OpenSpec.ofChange fnExactChangeDoWrong)

/-- 'laws.FnExactChangeOk': WHATEVER THE INPUT: true; the input reads as it did. -/
def fnExactChangeOkSpec : ChangeSpec := { name := "fnExactChangeOk", fn := fun _ => fun
  | [d1, d2] => { results := [.lit (.bool true)], args := [d1, d2] }
  | _ => none }
def fnExactChangeOkRow : OpenClaim := { program := "ytpncmjlaijojlaa", sum := "0287c6fb779ac93ce09695970f4dc491fab570a38f71262500dea483b245c6e1", func := "loop.example/equerry/laws.FnExactChangeOk", spec := "fnExactChangeOk", apart := false }
def FnExactChangeOkSaid : Prop := fnExactChangeOkRow.holds Try.pinned (OpenSpec.ofChange fnExactChangeOkSpec)

/-- ITS FALSE NEIGHBOUR: 'it returns false'. Refute it at one input. -/
def fnExactChangeOkWrong : ChangeSpec := { name := "fnExactChangeOk", fn := fun _ => fun
  | [d1, d2] => { results := [.lit (.bool false)], args := [d1, d2] }
  | _ => none }
def FnExactChangeOkWrongFalsely : Prop := fnExactChangeOkRow.holds Try.pinned (OpenSpec.ofChange fnExactChangeOkWrong)

/- THE SECOND FORM. 'bulk': how many values and letters a reading holds, each counted each time it is reached (what is shared counts as often as it is met; a slice's spare places count too). A statement '..UptoSaid' is the law's where the arguments, and the package variables that the reading takes, are together of bulk at most 1048576: NARROWER than '..Said'. Prove '..Said' where nothing that the law and all that it calls make is longer than what came in: it says more and counts as full. Else prove '..UptoSaid'. A law counts once. -/
mutual
def uptoBulk {H : Type} : DataW H → Nat
  | .lit (.string bytes) => bytes.length + 1
  | .lit _ => 1
  | .nil => 1
  | .ptr d => uptoBulk d + 1
  | .slice elems spare => uptoBulkAll elems + uptoBulkAll spare + 1
  | .agg parts => uptoBulkAll parts + 1
  | .iface _ d => uptoBulk d + 1
  | .map entries => uptoBulkEntries entries + 1
  | .held _ => 1
def uptoBulkAll {H : Type} : List (DataW H) → Nat
  | [] => 0
  | d :: r => uptoBulk d + uptoBulkAll r
def uptoBulkEntries {H : Type} : List (Lit × DataW H) → Nat
  | [] => 0
  | x :: r => uptoBulkEntry x + uptoBulkEntries r
def uptoBulkEntry {H : Type} : Lit × DataW H → Nat
  | (.string bytes, d) => bytes.length + uptoBulk d + 1
  | (_, d) => uptoBulk d + 1
 end
def uptoSmall : (H : Type) → List (DataW H) → Bool := fun _ ds => decide (uptoBulkAll ds ≤ 1048576)
def OpenSpec.upto (s : _root_.Go.ChangeSpec) : _root_.Go.OpenSpec := { _root_.Go.OpenSpec.ofChange s with cond := some uptoSmall }

/-- 'laws.FnChangeOk', WHERE WHAT IT READS IS OF BULK AT MOST 1048576: true; the input reads as it did. -/
def fnChangeOkUptoRow : OpenClaim := { program := "ytpncmjlaijojlaa", sum := "0287c6fb779ac93ce09695970f4dc491fab570a38f71262500dea483b245c6e1", func := "loop.example/equerry/laws.FnChangeOk", spec := "fnChangeOk", apart := false, narrowed := true }
def FnChangeOkUptoSaid : Prop := fnChangeOkUptoRow.holds Try.pinned (OpenSpec.upto fnChangeOkSpec)

/-- 'laws.FnChangeCut', WHERE WHAT IT READS IS OF BULK AT MOST 1048576: true; the input reads as it did. -/
def fnChangeCutUptoRow : OpenClaim := { program := "ytpncmjlaijojlaa", sum := "0287c6fb779ac93ce09695970f4dc491fab570a38f71262500dea483b245c6e1", func := "loop.example/equerry/laws.FnChangeCut", spec := "fnChangeCut", unfollowed := true, recurses := true, apart := false, narrowed := true }
def FnChangeCutUptoSaid : Prop := fnChangeCutUptoRow.holds Try.pinned (OpenSpec.upto fnChangeCutSpec)

/-- 'laws.FnChangeNeed', WHERE WHAT IT READS IS OF BULK AT MOST 1048576: true; the input reads as it did. -/
def fnChangeNeedUptoRow : OpenClaim := { program := "ytpncmjlaijojlaa", sum := "0287c6fb779ac93ce09695970f4dc491fab570a38f71262500dea483b245c6e1", func := "loop.example/equerry/laws.FnChangeNeed", spec := "fnChangeNeed", unfollowed := true, recurses := true, apart := false, narrowed := true }
def FnChangeNeedUptoSaid : Prop := fnChangeNeedUptoRow.holds Try.pinned (OpenSpec.upto fnChangeNeedSpec)

/-- 'laws.FnChangeEmpty', WHERE WHAT IT READS IS OF BULK AT MOST 1048576: true; the input reads as it did. -/
def fnChangeEmptyUptoRow : OpenClaim := { program := "ytpncmjlaijojlaa", sum := "0287c6fb779ac93ce09695970f4dc491fab570a38f71262500dea483b245c6e1", func := "loop.example/equerry/laws.FnChangeEmpty", spec := "fnChangeEmpty", unfollowed := true, recurses := true, apart := false, narrowed := true }
def FnChangeEmptyUptoSaid : Prop := fnChangeEmptyUptoRow.holds Try.pinned (OpenSpec.upto fnChangeEmptySpec)

/-- 'laws.FnChangeRegs', WHERE WHAT IT READS IS OF BULK AT MOST 1048576: true; the input reads as it did. -/
def fnChangeRegsUptoRow : OpenClaim := { program := "ytpncmjlaijojlaa", sum := "0287c6fb779ac93ce09695970f4dc491fab570a38f71262500dea483b245c6e1", func := "loop.example/equerry/laws.FnChangeRegs", spec := "fnChangeRegs", unfollowed := true, recurses := true, apart := false, narrowed := true }
def FnChangeRegsUptoSaid : Prop := fnChangeRegsUptoRow.holds Try.pinned (OpenSpec.upto fnChangeRegsSpec)

/-- 'laws.FnExactChangeDo', WHERE WHAT IT READS IS OF BULK AT MOST 1048576: true; the input reads as it did. -/
def fnExactChangeDoUptoRow : OpenClaim := { program := "ytpncmjlaijojlaa", sum := "0287c6fb779ac93ce09695970f4dc491fab570a38f71262500dea483b245c6e1", func := "loop.example/equerry/laws.FnExactChangeDo", spec := "fnExactChangeDo", unfollowed := true, recurses := true, apart := false, narrowed := true }
def FnExactChangeDoUptoSaid : Prop := fnExactChangeDoUptoRow.holds Try.pinned (OpenSpec.upto fnExactChangeDoSpec)

/-- 'laws.FnExactChangeOk', WHERE WHAT IT READS IS OF BULK AT MOST 1048576: true; the input reads as it did. -/
def fnExactChangeOkUptoRow : OpenClaim := { program := "ytpncmjlaijojlaa", sum := "0287c6fb779ac93ce09695970f4dc491fab570a38f71262500dea483b245c6e1", func := "loop.example/equerry/laws.FnExactChangeOk", spec := "fnExactChangeOk", apart := false, narrowed := true }
def FnExactChangeOkUptoSaid : Prop := fnExactChangeOkUptoRow.holds Try.pinned (OpenSpec.upto fnExactChangeOkSpec)

end Rows
end Go.Proofs.Ytpncmjlaijojlaa
