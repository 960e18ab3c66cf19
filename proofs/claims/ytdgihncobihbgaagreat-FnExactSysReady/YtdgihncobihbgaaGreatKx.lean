/-
  SysOk of the program, in the model's words (by mkk11.py).
-/
import Derived.Test.YtdgihncobihbgaaGreatK5e
import Derived.Test.YtdgihncobihbgaaGreatK7
import Derived.Test.YtdgihncobihbgaaGreatK8
namespace Go.Proofs.YtdgihncobihbgaaGreat
open Go.RowKit
set_option linter.unusedSimpArgs false
set_option linter.unusedVariables false
set_option maxRecDepth 20000

theorem sysOk_c (p : Pr) (pa0 pa1 : Option Addr) (pc0 pc1 : Nat) (s : Sy) (sa0 sa1 sa3 : Option Addr) (sc0 sc1 sc3 : Nat) (w : World) (hp : PrAt w (.slice pa0 p.cells.length pc0) (.slice pa1 p.bodies.length pc1) p) (hS : SyAt w (.slice sa0 s.cells.length sc0) (.slice sa1 s.tasks.length sc1) (.slice sa3 s.log.length sc3) s) (hsm : SmSy s) (hsp : SmallP p) :
    Calls Tryz.prog 11 #[.agg #[.slice pa0 p.cells.length pc0, .slice pa1 p.bodies.length pc1], .agg #[.slice sa0 s.cells.length sc0, .slice sa1 s.tasks.length sc1, .int .i64 s.clock, .slice sa3 s.log.length sc3]] w fun r w' => r = .returned (.bool (mSoB p s)) ∧ Below w.heap.size w w' := by
  rw [← so_eq]; exact sysOk_any p pa0 pa1 pc0 pc1 s sa0 sa1 sa3 sc0 sc1 sc3 w hp hS hsm hsp.1

end Go.Proofs.YtdgihncobihbgaaGreat
