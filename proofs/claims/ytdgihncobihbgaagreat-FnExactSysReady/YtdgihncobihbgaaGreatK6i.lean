/-
  Tasks in form: the model: l12Act (by mky.py).
-/
import Derived.Test.YtdgihncobihbgaaGreatK6g
import Derived.Test.YtdgihncobihbgaaGreatK6h
namespace Go.Proofs.YtdgihncobihbgaaGreat
open Go.RowKit
set_option linter.unusedSimpArgs false
set_option linter.unusedVariables false
set_option maxRecDepth 20000

theorem l12Act_any (p : Pr) (pa0 pa1 : Option Addr) (pc0 pc1 : Nat) (s : Sy) (sa0 sa1 sa3 : Option Addr) (sc0 sc1 sc3 : Nat) (i bn pn : Nat) (w : World) (hp : PrAt w (.slice pa0 p.cells.length pc0) (.slice pa1 p.bodies.length pc1) p) (hT : TasAt w (.slice sa1 s.tasks.length sc1) s.tasks) (hi : i < s.tasks.length) (hb : (nth Ta.z s.tasks i).body = (bn : Int)) (hbn : bn < p.bodies.length) (hpc : (nth Ta.z s.tasks i).pc = (pn : Int)) (hpn : pn ≤ (nth [] p.bodies bn).length) (hn7 : s.tasks.length ≤ 7)
    (hs : (nth Ta.z s.tasks i).stage = 0 ∨ (nth Ta.z s.tasks i).stage = 1 ∨ (nth Ta.z s.tasks i).stage = 2 ∨ (nth Ta.z s.tasks i).stage = 3 ∨ (nth Ta.z s.tasks i).stage = 4 ∨ (nth Ta.z s.tasks i).stage = 5) (nr : (nth Ta.z s.tasks i).reads.length ≤ 1048576) (nu : (nth Ta.z s.tasks i).puts.length ≤ 1048576) :
    Calls Tryz.prog 63 #[.agg #[.slice pa0 p.cells.length pc0, .slice pa1 p.bodies.length pc1], .agg #[.slice sa0 s.cells.length sc0, .slice sa1 s.tasks.length sc1, .int .i64 s.clock, .slice sa3 s.log.length sc3], .int .i64 (i : Int)] w fun r w' => r = .returned (.bool (mActB p s i)) ∧ Below w.heap.size w w' := by
  by_cases h0 : (nth Ta.z s.tasks i).way = 0
  · exact l12Act_runs p pa0 pa1 pc0 pc1 s sa0 sa1 sa3 sc0 sc1 sc3 i bn pn w hp hT hi hb hbn hpc hpn h0 hs nr nu
  by_cases h1 : (nth Ta.z s.tasks i).way = 1
  · exact l12Act_waits p pa0 pa1 pc0 pc1 s sa0 sa1 sa3 sc0 sc1 sc3 i bn pn w hp hT hi hb hbn hpc hpn h1 hn7
  exact l12Act_rest p pa0 pa1 pc0 pc1 s sa0 sa1 sa3 sc0 sc1 sc3 i bn pn w hp hT hi hb hbn hpc hpn h0 h1

theorem l12Times_bp (t : Ta) {x y z u v : Int} (a3 a8 a9 a10 : Option Addr) (c3 c8 c9 c10 : Nat) (s : Sy) (sa0 sa1 sa3 : Option Addr) (sc0 sc1 sc3 : Nat) (w : World) (hs : t.stage = 0 ∨ t.stage = 1 ∨ t.stage = 2 ∨ t.stage = 3 ∨ t.stage = 4 ∨ t.stage = 5) (h0 : 0 ≤ s.clock) (h200 : s.clock ≤ 200) (hll : s.log.length ≤ 1048576) (hx : t.body = x) (hy : t.pc = y) (hz : t.way = z) (hu : t.stage = u) (hv : t.at_ = v) :
    Calls Tryz.prog 61 #[.agg #[.int .i64 x, .int .i64 y, .int .i64 t.up, .slice a3 t.regs.length c3, .int .i64 z, .int .i64 u, .int .i64 v, .int .i64 t.since, .slice a8 t.old.length c8, .slice a9 t.reads.length c9, .slice a10 t.puts.length c10, .int .i64 t.when_, .int .i64 t.from_], .agg #[.slice sa0 s.cells.length sc0, .slice sa1 s.tasks.length sc1, .int .i64 s.clock, .slice sa3 s.log.length sc3]] w fun r w' => r = .returned (.bool (mWhB t s)) ∧ Below w.heap.size w w' := by
  subst hx hy hz hu hv; exact l12Times_any t a3 a8 a9 a10 c3 c8 c9 c10 s sa0 sa1 sa3 sc0 sc1 sc3 w hs h0 h200 hll

end Go.Proofs.YtdgihncobihbgaaGreat
