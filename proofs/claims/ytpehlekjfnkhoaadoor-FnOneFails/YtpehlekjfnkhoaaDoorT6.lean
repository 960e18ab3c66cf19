import Derived.Test.YtpehlekjfnkhoaaDoorT5
import Derived.Deep.QuietTactic
import Derived.BigQuiet
import Derived.Deep.Light
namespace Go.Proofs.YtpehlekjfnkhoaaDoor
open Go.RowKit

def acV (a : Ac) (dv kv : Value) : Value :=
  if a.k = 1 ∧ a.ks.length = 0 ∧ a.r = 0 then .iface 77 (.agg #[dv])
  else if a.k = 2 ∧ a.ds.length = 0 ∧ a.r = 0 then .iface 81 (.agg #[kv])
  else if a.k = 3 ∧ a.ds.length = 0 ∧ a.ks.length = 0 ∧ a.r = 0 then .iface 85 (.agg #[])
  else if a.k = 4 ∧ a.ds.length = 0 ∧ a.ks.length = 0 then .iface 83 (.agg #[.int .i64 a.r])
  else .iface 107 (.agg #[])

set_option maxHeartbeats 400000 in
theorem actPart_any (x : Ac) (dv kv : Value) (w : World) (hd : DeedsAt w dv x.ds) (hk : IntsAt w kv x.ks) :
    Calls Tryd.prog 39 #[.agg #[.int .i64 x.k, dv, kv, .int .i64 x.r]] w fun r w' => r = .returned (acV x dv kv) ∧ Below w.heap.size w w' := by
  obtain ⟨a, cap, rfl, hm, -⟩ := hd
  obtain ⟨a', cap', rfl, hm', -⟩ := hk
  obtain ⟨k, ds, ks, r⟩ := x
  dsimp only at *
  go_enter Tryd.func39, Tryd.ntmps39
  go_wp2
  go_quiet (fail)
  go_wp2
  all_goals
    go_ret
    refine ⟨?_, below_drewN ((Below.refl _ _).alloc (Nat.le_refl _) _) _⟩
    go_light
    simp [acV, *] <;> simp_all

end Go.Proofs.YtpehlekjfnkhoaaDoor
