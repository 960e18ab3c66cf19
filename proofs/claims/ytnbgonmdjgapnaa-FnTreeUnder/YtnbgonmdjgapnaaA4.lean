import Derived.Test.YtnbgonmdjgapnaaBase04
import Derived.Test.YtnbgonmdjgapnaaBase33
import Derived.Laws.EntriesVeiled
import Derived.Deep.RegionWith
import Derived.Deep.QuietTactic
import Derived.BigQuiet
namespace Go.Proofs.Ytnbgonmdjgapnaa
open Go.RowKit
set_option linter.unusedSimpArgs false
set_option linter.unusedVariables false
set_option maxRecDepth 20000
theorem plc_is {n e : Int} {b : Bool} (h : plB n e = b) (w : World) : Calls Try.prog 72 #[.int .i64 n, .int .i64 e] w fun r w' => r = .returned (.bool b) ∧ w' = w := by subst h; exact isPlace_any n e w
theorem lin_is {n lo hi : Int} {b : Bool} (h : inB n lo hi = b) (w : World) : Calls Try.prog 81 #[.int .i64 n, .int .i64 lo, .int .i64 hi] w fun r w' => r = .returned (.bool b) ∧ w' = w := by subst h; exact l6In_any n lo hi w
theorem plB_nat {n : Int} {e : Nat} (h : plB n e = true) : ∃ j : Nat, n = (j : Int) ∧ j < e := by
  have : 0 ≤ n ∧ n < (e : Int) := by simpa [plB] using h
  exact ⟨n.toNat, by omega, by omega⟩
end Go.Proofs.Ytnbgonmdjgapnaa
