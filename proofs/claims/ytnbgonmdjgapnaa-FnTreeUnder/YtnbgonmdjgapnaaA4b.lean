import Derived.Test.YtnbgonmdjgapnaaA4
namespace Go.Proofs.Ytnbgonmdjgapnaa
open Go.RowKit
set_option linter.unusedSimpArgs false
set_option linter.unusedVariables false
set_option maxRecDepth 20000
theorem inB_pl (n : Int) (e : Nat) : inB n 0 ((e : Int) - 1) = plB n e := by
  unfold inB plB
  congr 1
  apply propext
  omega
end Go.Proofs.Ytnbgonmdjgapnaa
