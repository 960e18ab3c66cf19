import Derived.Test.YtgbgjljflgbcaaaXn01
namespace Go.Proofs.Ytgbgjljflgbcaaa
open Go.RowKit
set_option maxHeartbeats 400000 in
theorem isPlace_any (n e : Int) (w : World) :
    Calls Try.prog 45 #[.int .i64 n, .int .i64 e] w fun r w' => r = .returned (.bool (plB n e)) ∧ w' = w := by
  by_cases h1 : 0 ≤ n
  · go_enter Try.func45, Try.ntmps45
    go_wp2
    go_ret
    exact ⟨by simp [plB]; try omega, rfl⟩
  · have h2 : decide (0 ≤ n) = false := by simpa using h1
    go_enter Try.func45, Try.ntmps45
    go_wp2
    go_ret
    exact ⟨by simp [plB]; try omega, rfl⟩
set_option maxHeartbeats 400000 in
theorem l6In_any (n lo hi : Int) (w : World) :
    Calls Try.prog 52 #[.int .i64 n, .int .i64 lo, .int .i64 hi] w fun r w' => r = .returned (.bool (inB n lo hi)) ∧ w' = w := by
  by_cases h1 : lo ≤ n
  · go_enter Try.func52, Try.ntmps52
    go_wp2
    go_ret
    exact ⟨by simp [inB]; try omega, rfl⟩
  · have h2 : decide (lo ≤ n) = false := by simpa using h1
    go_enter Try.func52, Try.ntmps52
    go_wp2
    go_ret
    exact ⟨by simp [inB]; try omega, rfl⟩
end Go.Proofs.Ytgbgjljflgbcaaa
