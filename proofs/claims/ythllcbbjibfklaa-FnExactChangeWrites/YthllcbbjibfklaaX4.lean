import Derived.Test.YthllcbbjibfklaaX2
namespace Go.Proofs.Ythllcbbjibfklaa
open Go.RowKit
set_option linter.unusedSimpArgs false
set_option linter.unusedVariables false

set_option maxHeartbeats 400000 in
theorem szDeedS_any (a : Option Addr) (n cap : Nat) (l : Int) (w : World) (hn : n ≤ 9223372036854775807) (h0 : 0 ≤ l) (h1 : l ≤ 1048576) :
    Calls Try.prog 22 #[.slice a n cap, .int .i64 l] w fun r w' => ∃ q : Int, r = .returned (.int .i64 q) ∧ -1 ≤ q ∧ q ≤ 1048576 ∧ (0 ≤ q → n ≤ 1048576) ∧ w' = w := by
  by_cases h : l - n < 0
  · go_enter Try.func22, Try.ntmps22
    go_wp2_with fail
    go_ret
    exact ⟨_, rfl, by omega, by omega, by omega, rfl⟩
  · go_enter Try.func22, Try.ntmps22
    go_wp2_with fail
    go_ret
    exact ⟨_, rfl, by omega, by omega, by omega, rfl⟩

end Go.Proofs.Ythllcbbjibfklaa
