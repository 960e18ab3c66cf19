import Derived.Test.YtpehlekjfnkhoaaDoorT0
namespace Go.Proofs.YtpehlekjfnkhoaaDoor
open Go.RowKit


set_option maxHeartbeats 400000 in
theorem isPlace_any (n e : Int) (w : World) :
    Calls Tryd.prog 65 #[.int .i64 n, .int .i64 e] w fun r w' => r = .returned (.bool (plB n e)) ∧ w' = w := by
  by_cases h1 : 0 ≤ n
  · go_enter Tryd.func65, Tryd.ntmps65
    go_wp2
    go_ret
    exact ⟨by simp [plB]; try omega, rfl⟩
  · have h2 : decide (0 ≤ n) = false := by simpa using h1
    go_enter Tryd.func65, Tryd.ntmps65
    go_wp2
    go_ret
    exact ⟨by simp [plB]; try omega, rfl⟩

set_option maxHeartbeats 400000 in
theorem l6In_any (n lo hi : Int) (w : World) :
    Calls Tryd.prog 49 #[.int .i64 n, .int .i64 lo, .int .i64 hi] w fun r w' => r = .returned (.bool (inB n lo hi)) ∧ w' = w := by
  by_cases h1 : lo ≤ n
  · go_enter Tryd.func49, Tryd.ntmps49
    go_wp2
    go_ret
    exact ⟨by simp [inB]; try omega, rfl⟩
  · have h2 : decide (lo ≤ n) = false := by simpa using h1
    go_enter Tryd.func49, Tryd.ntmps49
    go_wp2
    go_ret
    exact ⟨by simp [inB]; try omega, rfl⟩

end Go.Proofs.YtpehlekjfnkhoaaDoor
