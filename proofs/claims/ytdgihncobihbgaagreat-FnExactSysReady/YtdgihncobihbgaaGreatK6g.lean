/-
  Tasks in form: the model: l12Act, of one that runs (by mky.py).
-/
import Derived.Test.YtdgihncobihbgaaGreatK6f
namespace Go.Proofs.YtdgihncobihbgaaGreat
open Go.RowKit
set_option linter.unusedSimpArgs false
set_option linter.unusedVariables false
set_option maxRecDepth 20000

theorem lAt_bp (t : Ta) {bb : Bool} {x y : Int} (hx : t.body = x) (hy : t.pc = y) (a3 a8 a9 a10 : Option Addr) (c3 c8 c9 c10 : Nat) (n : Nat) (w : World) (hs : t.stage = 0 ∨ t.stage = 1 ∨ t.stage = 2 ∨ t.stage = 3 ∨ t.stage = 4 ∨ t.stage = 5) (nr : t.reads.length ≤ 1048576) (nu : t.puts.length ≤ 1048576) (h : mAtB t n = bb) : Calls Tryz.prog 90 #[.agg #[.int .i64 x, .int .i64 y, .int .i64 t.up, .slice a3 t.regs.length c3, .int .i64 t.way, .int .i64 t.stage, .int .i64 t.at_, .int .i64 t.since, .slice a8 t.old.length c8, .slice a9 t.reads.length c9, .slice a10 t.puts.length c10, .int .i64 t.when_, .int .i64 t.from_], .int .i64 (n : Int)] w fun r w' => r = .returned (.bool bb) ∧ Below w.heap.size w w' := by
  subst hx hy; exact lAt_b t a3 a8 a9 a10 c3 c8 c9 c10 n w hs nr nu h
set_option maxHeartbeats 8000000 in
theorem l12Act_runs (p : Pr) (pa0 pa1 : Option Addr) (pc0 pc1 : Nat) (s : Sy) (sa0 sa1 sa3 : Option Addr) (sc0 sc1 sc3 : Nat) (i bn pn : Nat) (w : World) (hp : PrAt w (.slice pa0 p.cells.length pc0) (.slice pa1 p.bodies.length pc1) p) (hT : TasAt w (.slice sa1 s.tasks.length sc1) s.tasks) (hi : i < s.tasks.length) (hb : (nth Ta.z s.tasks i).body = (bn : Int)) (hbn : bn < p.bodies.length) (hpc : (nth Ta.z s.tasks i).pc = (pn : Int)) (hpn : pn ≤ (nth [] p.bodies bn).length) (hw0 : (nth Ta.z s.tasks i).way = 0)
    (hs : (nth Ta.z s.tasks i).stage = 0 ∨ (nth Ta.z s.tasks i).stage = 1 ∨ (nth Ta.z s.tasks i).stage = 2 ∨ (nth Ta.z s.tasks i).stage = 3 ∨ (nth Ta.z s.tasks i).stage = 4 ∨ (nth Ta.z s.tasks i).stage = 5) (nr : (nth Ta.z s.tasks i).reads.length ≤ 1048576) (nu : (nth Ta.z s.tasks i).puts.length ≤ 1048576) :
    Calls Tryz.prog 63 #[.agg #[.slice pa0 p.cells.length pc0, .slice pa1 p.bodies.length pc1], .agg #[.slice sa0 s.cells.length sc0, .slice sa1 s.tasks.length sc1, .int .i64 s.clock, .slice sa3 s.log.length sc3], .int .i64 (i : Int)] w fun r w' => r = .returned (.bool (mActB p s i)) ∧ Below w.heap.size w w' := by
  obtain ⟨a, cap, e, hm, hc⟩ := id hT
  injection e with e1 e2 e3
  subst e1 e3
  have hi' : (i : Int) < (s.tasks.length : Int) := by omega
  obtain ⟨b, off, v3, v8, v9, v10, rfl, hbw, c0, c1, c2, c3, c4, c5, c6, c7, c8, c9, c10, c11, c12, h3, h8, h9, h10⟩ := hc i hi
  obtain ⟨a3, e3, rfl, _⟩ := h3.shape
  obtain ⟨a8, e8, rfl, _⟩ := h8.shape
  obtain ⟨a9, e9, rfl, _⟩ := h9.shape
  obtain ⟨a10, e10, rfl, _⟩ := h10.shape
  have HT := (show Hid (TasAt _ _ _) from hT)
  clear h3 h8 h9 h10 hc hT
  have hbw1 : b < w.heap.size + 1 := by omega
  have hbw2 : b < w.heap.size + 1 + 1 := by omega
  obtain ⟨pa, pcap, pe, phm, phc⟩ := hp.2
  injection pe with pe1 pe2 pe3
  subst pe1 pe3
  obtain ⟨b2, off2, av, rfl, hbx, d0, ha⟩ := phc bn hbn
  obtain ⟨aa, ac, rfl, hma, hac⟩ := ha
  have hbx1 : b2 < w.heap.size + 1 := by omega
  have hbx2 : b2 < w.heap.size + 1 + 1 := by omega
  have hbx3 : b2 < w.heap.size + 1 + 1 + 1 := by omega
  have hbw3 : b < w.heap.size + 1 + 1 + 1 := by omega
  have hbl : (bn : Int) < (p.bodies.length : Int) := by omega
  have hA : acts p (nth Ta.z s.tasks i) = nth [] p.bodies bn := by unfold acts; rw [hb]; rfl
  have q0 : ((nth Ta.z s.tasks i).way == 0) = true := by simp [hw0]
  have HW0 := (show Hid (_ = _) from hw0)
  have HS := (show Hid ((nth Ta.z s.tasks i).stage = 0 ∨ _) from hs)
  have HFF : Hid (mActB p s i = (decide ((nth Ta.z s.tasks i).stage = 0) || (decide (pn < (nth [] p.bodies bn).length) && decide ((nth Ac.z (nth [] p.bodies bn) pn).k = 1) && mAtB (nth Ta.z s.tasks i) (nth Ac.z (nth [] p.bodies bn) pn).ds.length))) := by
    unfold Hid mActB tkN; rw [if_pos hw0, hA, hpc, Int.toNat_natCast]
    congr 3
    exact decide_eq_decide.2 (by omega)
  clear phc hA hp HT hw0 hs
  by_cases q1 : (nth Ta.z s.tasks i).stage = 0
  · have q1' : ((nth Ta.z s.tasks i).stage == 0) = true := by simp [q1]
    have HF : Hid (mActB p s i = true) := by unfold Hid; rw [HFF.out, decide_eq_true q1]; rfl
    have Q1 := (show Hid (_ = _) from q1)
    clear q1 hac
    go_enter Tryz.func63, Tryz.ntmps63
    go_wp2_with fail
    go_quiet (fail)
    go_wp2_with fail
    go_ret
    exact ⟨by rw [HF.out]; rfl, (by repeat (first | with_reducible exact Below.refl _ _ | (with_reducible refine Below.setCell ?_ ?hs _; case hs => ((try simp); try omega)) | (with_reducible refine Below.alloc ?_ ?hs _; case hs => ((try simp); try omega)) | with_reducible refine Below.drew ?_ | with_reducible refine below_drewN ?_ _))⟩
  have q1' : ((nth Ta.z s.tasks i).stage == 0) = false := by simp [q1]
  have Q1 : Hid (decide ((nth Ta.z s.tasks i).stage = 0) = false) := decide_eq_false q1
  clear q1
  by_cases q2 : pn < (nth [] p.bodies bn).length
  case neg =>
    have q2' : ¬ (pn : Int) < ((nth [] p.bodies bn).length : Int) := by omega
    have q2'' : decide (pn < (nth [] p.bodies bn).length) = false := decide_eq_false q2
    have HF : Hid (mActB p s i = false) := by unfold Hid; rw [HFF.out, Q1.out, q2'']; rfl
    clear hac
    go_enter Tryz.func63, Tryz.ntmps63
    go_wp2_with fail
    go_quiet (fail)
    go_wp2_with fail
    go_ret
    exact ⟨by rw [HF.out]; rfl, (by repeat (first | with_reducible exact Below.refl _ _ | (with_reducible refine Below.setCell ?_ ?hs _; case hs => ((try simp); try omega)) | (with_reducible refine Below.alloc ?_ ?hs _; case hs => ((try simp); try omega)) | with_reducible refine Below.drew ?_ | with_reducible refine below_drewN ?_ _))⟩
  have q2' : (pn : Int) < ((nth [] p.bodies bn).length : Int) := by omega
  have q2'' : decide (pn < (nth [] p.bodies bn).length) = true := decide_eq_true q2
  obtain ⟨b4, off4, dv, kv, rfl, hb4, f0, f1, f2, f3, hd, hk⟩ := hac pn q2
  obtain ⟨ad, cd, rfl, _⟩ := hd.shape
  obtain ⟨ak, ck, rfl, _⟩ := hk.shape
  have hb41 : b4 < w.heap.size + 1 := by omega
  have hb42 : b4 < w.heap.size + 1 + 1 := by omega
  have hb43 : b4 < w.heap.size + 1 + 1 + 1 := by omega
  clear hac hd hk
  by_cases q3 : (nth Ac.z (nth [] p.bodies bn) pn).k = 1
  case neg =>
    have q3' : ((nth Ac.z (nth [] p.bodies bn) pn).k == 1) = false := by simp [q3]
    have HF : Hid (mActB p s i = false) := by unfold Hid; rw [HFF.out, Q1.out, decide_eq_false q3]; simp
    go_enter Tryz.func63, Tryz.ntmps63
    go_wp2_with fail
    go_quiet (fail)
    go_wp2_with fail
    go_ret
    exact ⟨by rw [HF.out]; rfl, (by repeat (first | with_reducible exact Below.refl _ _ | (with_reducible refine Below.setCell ?_ ?hs _; case hs => ((try simp); try omega)) | (with_reducible refine Below.alloc ?_ ?hs _; case hs => ((try simp); try omega)) | with_reducible refine Below.drew ?_ | with_reducible refine below_drewN ?_ _))⟩
  have q3' : ((nth Ac.z (nth [] p.bodies bn) pn).k == 1) = true := by simp [q3]
  have HF : Hid (mActB p s i = mAtB (nth Ta.z s.tasks i) (nth Ac.z (nth [] p.bodies bn) pn).ds.length) := by unfold Hid; rw [HFF.out, Q1.out, q2'', decide_eq_true q3]; rfl
  clear HFF Q1
  go_enter Tryz.func63, Tryz.ntmps63
  go_wp2_with fail
  go_region_with (go_at_call 90; refine (lAt_bp (nth Ta.z s.tasks i) hb hpc _ _ _ _ _ _ _ _ (nth Ac.z (nth [] p.bodies bn) pn).ds.length _ HS.out nr nu rfl).mono ?_; rintro e w2 ⟨rfl, hb2⟩)
  all_goals
    have HB2 : Hid (Below w.heap.size w w2) := below_then (by repeat (first | with_reducible exact Below.refl _ _ | (with_reducible refine Below.setCell ?_ ?hs _; case hs => ((try simp); try omega)) | (with_reducible refine Below.alloc ?_ ?hs _; case hs => ((try simp); try omega)) | with_reducible refine Below.drew ?_ | with_reducible refine below_drewN ?_ _)) (by (try simp); try omega) hb2
    clear hb2
    go_wp2_with fail
    go_ret
    exact ⟨by rw [HF.out]; rfl, HB2.out⟩

end Go.Proofs.YtdgihncobihbgaaGreat
