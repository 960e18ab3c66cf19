/- The closed facts of this law's row, one by one. -/
import Derived.Test.YtnbgonmdjgapnaaRows
import Derived.WalkKit
import Derived.ProofKit
import Derived.ChangeOld
namespace Go.Proofs.Ytnbgonmdjgapnaa.fnTreeUnderOn
open Go.ChangeShapes Go.WideShapes Go.ChangeAt Go.RowKit

set_option maxHeartbeats 100000000 in
theorem facts : joinedFacts Try.pinned.checked.prog 13 Try.f13 Rows.fnTreeUnderOnSpec Rows.fnTreeUnderOnRow = true := by
  unfold joinedFacts
  simp only [Bool.and_eq_true]
  repeat' apply And.intro
  all_goals as_aux_lemma => kernel_rfl

end Go.Proofs.Ytnbgonmdjgapnaa.fnTreeUnderOn
