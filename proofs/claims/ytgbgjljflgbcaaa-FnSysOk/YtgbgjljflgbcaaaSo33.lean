import Derived.Test.YtgbgjljflgbcaaaSo06
import Derived.Test.YtgbgjljflgbcaaaSo01
namespace Go.Proofs.Ytgbgjljflgbcaaa
set_option maxHeartbeats 8000000
open Go.RowKit
set_option linter.unusedSimpArgs false
set_option linter.unusedVariables false
set_option maxRecDepth 20000
theorem l12Task_num (p : Pr) (pa0 pa1 : Option Addr) (pc0 pc1 : Nat) (s : Sy) (sa0 sa1 sa3 : Option Addr) (sc0 sc1 sc3 : Nat) (i : Nat) (w : World) (hp : PrAt w (.slice pa0 p.cells.length pc0) (.slice pa1 p.bodies.length pc1) p) (hT : TasAt w (.slice sa1 s.tasks.length sc1) s.tasks) (hi : i < s.tasks.length) (hn7 : s.tasks.length <= 7) (hcl : s.cells.length <= 1048576) (hbl0 : p.bodies.length <= 1048576) (h0 : 0 <= s.clock) (h200 : s.clock <= 200) (hll : s.log.length <= 1048576) (nr : (nth Ta.z s.tasks i).reads.length <= 1048576) (nu : (nth Ta.z s.tasks i).puts.length <= 1048576) (hN : mNumB p (nth Ta.z s.tasks i) = false) :
   Calls Try.prog 53 #[.agg #[.slice pa0 p.cells.length pc0, .slice pa1 p.bodies.length pc1], .agg #[.slice sa0 s.cells.length sc0, .slice sa1 s.tasks.length sc1, .int .i64 s.clock, .slice sa3 s.log.length sc3], .int .i64 (i : Int)] w fun r w' => r = .returned (.bool (mTkB p s i)) /\ Below w.heap.size w w' := by
 obtain ⟨a, cap, e, hm, hc⟩ := id hT
 injection e with e1 e2 e3
 subst e1 e3
 have hi' : (i : Int) < (s.tasks.length : Int) := by omega
 obtain ⟨b, off, v3, v8, v9, v10, rfl, hbw, c0, c1, c2, c3, c4, c5, c6, c7, c8, c9, c10, c11, c12, h3, h8, h9, h10⟩ := hc i hi
 obtain ⟨a3, e3, rfl, _⟩ := h3.shape
 obtain ⟨a8, e8, rfl, _⟩ := h8.shape
 obtain ⟨a9, e9, rfl, _⟩ := h9.shape
 obtain ⟨a10, e10, rfl, _⟩ := h10.shape
 have HT := (show Hid (TasAt _ _ _) from hT)
 clear h3 h8 h9 h10 hc hT
 have hbw1 : b < w.heap.size + 1 := by omega
 have hbw2 : b < w.heap.size + 1 + 1 := by omega
 have hwb : IntKind.i64.wrap ((p.bodies.length : Int) - 1) = (p.bodies.length : Int) - 1 := by rw [IntKind.wrap_i64]; omega
 have HF : Hid (mTkB p s i = false) := by unfold Hid mTkB tkN; rw [hN]; rfl
 have HN := (show Hid (_ = _) from hN)
 have HP := (show Hid (PrAt _ _ _ _) from hp)
 clear hN hp HT
 cases g1 : inB (nth Ta.z s.tasks i).body 0 ((p.bodies.length : Int) - 1)
 . have G1 := (show Hid (_ = _) from g1)
   clear g1
   go_enter Try.func53, Try.ntmps53
   go_wp2_with fail
   go_quiet ((go_at_call 52; first | with_reducible exact Calls.quiet_of_same (l6In_b G1.out _)))
   go_wp2_with fail
   go_ret
   exact ⟨by rw [HF.out]; rfl, bq0⟩
 have hpl : plB (nth Ta.z s.tasks i).body p.bodies.length = true := by rw [<- in_pl]; exact g1
 obtain ⟨bn, hb, hbn⟩ : ∃ bn : Nat, (nth Ta.z s.tasks i).body = (bn : Int) /\ bn < p.bodies.length := by
   have : 0 <= (nth Ta.z s.tasks i).body /\ (nth Ta.z s.tasks i).body < (p.bodies.length : Int) := by simpa [plB] using hpl
   exact ⟨(nth Ta.z s.tasks i).body.toNat, by omega, by omega⟩
 rw [hb] at g1
 have G1 := (show Hid (_ = _) from g1)
 clear g1
 have hp := HP.out
 obtain ⟨pa, pcap, pe, phm, phc⟩ := hp.2
 injection pe with pe1 pe2 pe3
 subst pe1 pe3
 obtain ⟨b2, off2, av, rfl, hbx, d0, ha⟩ := phc bn hbn
 obtain ⟨aa, ac, rfl, hma, hac⟩ := ha
 have hbx1 : b2 < w.heap.size + 1 := by omega
 have hbx2 : b2 < w.heap.size + 1 + 1 := by omega
 have hbx3 : b2 < w.heap.size + 1 + 1 + 1 := by omega
 have hbw3 : b < w.heap.size + 1 + 1 + 1 := by omega
 have hbl : (bn : Int) < (p.bodies.length : Int) := by omega
 have hA : acts p (nth Ta.z s.tasks i) = nth [] p.bodies bn := by unfold acts; rw [hb]; rfl
 have HNN : Hid ((inB (nth Ta.z s.tasks i).pc 0 (nth [] p.bodies bn).length && inB (nth Ta.z s.tasks i).way 0 4 && inB (nth Ta.z s.tasks i).stage 0 5) = false) := by
   have := HN.out; unfold mNumB at this; rw [hpl, hA] at this; unfold Hid; simpa [Bool.and_assoc] using this
 clear hp HP hA phc hac hpl HN
 cases g2 : inB (nth Ta.z s.tasks i).pc 0 (nth [] p.bodies bn).length
 . have G2 := (show Hid (_ = _) from g2)
   clear g2 HNN
   go_enter Try.func53, Try.ntmps53
   go_wp2_with fail
   go_quiet ((go_at_call 52; first | with_reducible exact Calls.quiet_of_same (l6In_b G1.out _) | with_reducible exact Calls.quiet_of_same (l6In_b G2.out _)))
   go_wp2_with fail
   go_ret
   exact ⟨by rw [HF.out]; rfl, bq0⟩
 have G2 := (show Hid (_ = _) from g2)
 cases g3 : inB (nth Ta.z s.tasks i).way 0 4
 . have G3 := (show Hid (_ = _) from g3)
   clear g2 g3 HNN
   go_enter Try.func53, Try.ntmps53
   go_wp2_with fail
   go_quiet ((go_at_call 52; first | with_reducible exact Calls.quiet_of_same (l6In_b G1.out _) | with_reducible exact Calls.quiet_of_same (l6In_b G2.out _) | with_reducible exact Calls.quiet_of_same (l6In_b G3.out _)))
   go_wp2_with fail
   go_ret
   exact ⟨by rw [HF.out]; rfl, bq0⟩
 have G3 := (show Hid (_ = _) from g3)
 have g4 : inB (nth Ta.z s.tasks i).stage 0 5 = false := by have := HNN.out; rw [g2, g3] at this; simpa using this
 have G4 := (show Hid (_ = _) from g4)
 clear g2 g3 g4 HNN
 . go_enter Try.func53, Try.ntmps53
   go_wp2_with fail
   go_quiet ((go_at_call 52; first | with_reducible exact Calls.quiet_of_same (l6In_b G1.out _) | with_reducible exact Calls.quiet_of_same (l6In_b G2.out _) | with_reducible exact Calls.quiet_of_same (l6In_b G3.out _) | with_reducible exact Calls.quiet_of_same (l6In_b G4.out _)))
   go_wp2_with fail
   go_ret
   exact ⟨by rw [HF.out]; rfl, bq0⟩

set_option maxRecDepth 20000
theorem lAt_b (t : Ta) {bb : Bool} (a3 a8 a9 a10 : Option Addr) (c3 c8 c9 c10 : Nat) (n : Nat) (w : World) (hs : t.stage = 0 \/ t.stage = 1 \/ t.stage = 2 \/ t.stage = 3 \/ t.stage = 4 \/ t.stage = 5) (nr : t.reads.length <= 1048576) (nu : t.puts.length <= 1048576) (h : mAtB t n = bb) : Calls Try.prog 134 #[.agg #[.int .i64 t.body, .int .i64 t.pc, .int .i64 t.up, .slice a3 t.regs.length c3, .int .i64 t.way, .int .i64 t.stage, .int .i64 t.at_, .int .i64 t.since, .slice a8 t.old.length c8, .slice a9 t.reads.length c9, .slice a10 t.puts.length c10, .int .i64 t.when_, .int .i64 t.from_], .int .i64 (n : Int)] w fun r w' => r = .returned (.bool bb) /\ Below w.heap.size w w' := by
 subst h; exact l12At_any t a3 a8 a9 a10 c3 c8 c9 c10 n w hs nr nu
theorem l12Act_rest (p : Pr) (pa0 pa1 : Option Addr) (pc0 pc1 : Nat) (s : Sy) (sa0 sa1 sa3 : Option Addr) (sc0 sc1 sc3 : Nat) (i bn pn : Nat) (w : World) (hp : PrAt w (.slice pa0 p.cells.length pc0) (.slice pa1 p.bodies.length pc1) p) (hT : TasAt w (.slice sa1 s.tasks.length sc1) s.tasks) (hi : i < s.tasks.length) (hb : (nth Ta.z s.tasks i).body = (bn : Int)) (hbn : bn < p.bodies.length) (hpc : (nth Ta.z s.tasks i).pc = (pn : Int)) (hpn : pn <= (nth [] p.bodies bn).length) (hw0 : ¬ (nth Ta.z s.tasks i).way = 0) (hw1 : ¬ (nth Ta.z s.tasks i).way = 1) :
   Calls Try.prog 104 #[.agg #[.slice pa0 p.cells.length pc0, .slice pa1 p.bodies.length pc1], .agg #[.slice sa0 s.cells.length sc0, .slice sa1 s.tasks.length sc1, .int .i64 s.clock, .slice sa3 s.log.length sc3], .int .i64 (i : Int)] w fun r w' => r = .returned (.bool (mActB p s i)) /\ Below w.heap.size w w' := by
 obtain ⟨a, cap, e, hm, hc⟩ := id hT
 injection e with e1 e2 e3
 subst e1 e3
 have hi' : (i : Int) < (s.tasks.length : Int) := by omega
 obtain ⟨b, off, v3, v8, v9, v10, rfl, hbw, c0, c1, c2, c3, c4, c5, c6, c7, c8, c9, c10, c11, c12, h3, h8, h9, h10⟩ := hc i hi
 obtain ⟨a3, e3, rfl, _⟩ := h3.shape
 obtain ⟨a8, e8, rfl, _⟩ := h8.shape
 obtain ⟨a9, e9, rfl, _⟩ := h9.shape
 obtain ⟨a10, e10, rfl, _⟩ := h10.shape
 have HT := (show Hid (TasAt _ _ _) from hT)
 clear h3 h8 h9 h10 hc hT
 have hbw1 : b < w.heap.size + 1 := by omega
 have hbw2 : b < w.heap.size + 1 + 1 := by omega
 obtain ⟨pa, pcap, pe, phm, phc⟩ := hp.2
 injection pe with pe1 pe2 pe3
 subst pe1 pe3
 obtain ⟨b2, off2, av, rfl, hbx, d0, ha⟩ := phc bn hbn
 obtain ⟨aa, ac, rfl, hma, _⟩ := ha
 have hbx1 : b2 < w.heap.size + 1 := by omega
 have hbx2 : b2 < w.heap.size + 1 + 1 := by omega
 have hbl : (bn : Int) < (p.bodies.length : Int) := by omega
 have hA : acts p (nth Ta.z s.tasks i) = nth [] p.bodies bn := by unfold acts; rw [hb]; rfl
 have q0 : ((nth Ta.z s.tasks i).way == 0) = false := by simp [hw0]
 have q1 : ((nth Ta.z s.tasks i).way == 1) = false := by simp [hw1]
 by_cases q2 : (nth Ta.z s.tasks i).way = 2
 . have q2' : ((nth Ta.z s.tasks i).way == 2) = true := by simp [q2]
   have HF : Hid (mActB p s i = ((pn : Int) == ((nth [] p.bodies bn).length : Int))) := by
     unfold Hid mActB tkN; rw [if_neg hw0, if_neg hw1, if_pos q2, hA, hpc]; rfl
   clear phc hA hp HT hw0 hw1
   go_enter Try.func104, Try.ntmps104
   go_wp2_with fail
   go_ret
   exact ⟨by rw [HF.out]; rfl, bq0⟩
 . have q2' : ((nth Ta.z s.tasks i).way == 2) = false := by simp [q2]
   have HF : Hid (mActB p s i = true) := by unfold Hid mActB tkN; rw [if_neg hw0, if_neg hw1, if_neg q2]
   clear phc hA hp HT
   go_enter Try.func104, Try.ntmps104
   go_wp2_with fail
   go_ret
   exact ⟨by rw [HF.out]; rfl, bq0⟩

set_option maxRecDepth 20000
theorem lAt_bp (t : Ta) {bb : Bool} {x y : Int} (hx : t.body = x) (hy : t.pc = y) (a3 a8 a9 a10 : Option Addr) (c3 c8 c9 c10 : Nat) (n : Nat) (w : World) (hs : t.stage = 0 \/ t.stage = 1 \/ t.stage = 2 \/ t.stage = 3 \/ t.stage = 4 \/ t.stage = 5) (nr : t.reads.length <= 1048576) (nu : t.puts.length <= 1048576) (h : mAtB t n = bb) : Calls Try.prog 134 #[.agg #[.int .i64 x, .int .i64 y, .int .i64 t.up, .slice a3 t.regs.length c3, .int .i64 t.way, .int .i64 t.stage, .int .i64 t.at_, .int .i64 t.since, .slice a8 t.old.length c8, .slice a9 t.reads.length c9, .slice a10 t.puts.length c10, .int .i64 t.when_, .int .i64 t.from_], .int .i64 (n : Int)] w fun r w' => r = .returned (.bool bb) /\ Below w.heap.size w w' := by
 subst hx hy; exact lAt_b t a3 a8 a9 a10 c3 c8 c9 c10 n w hs nr nu h
theorem l12Act_runs (p : Pr) (pa0 pa1 : Option Addr) (pc0 pc1 : Nat) (s : Sy) (sa0 sa1 sa3 : Option Addr) (sc0 sc1 sc3 : Nat) (i bn pn : Nat) (w : World) (hp : PrAt w (.slice pa0 p.cells.length pc0) (.slice pa1 p.bodies.length pc1) p) (hT : TasAt w (.slice sa1 s.tasks.length sc1) s.tasks) (hi : i < s.tasks.length) (hb : (nth Ta.z s.tasks i).body = (bn : Int)) (hbn : bn < p.bodies.length) (hpc : (nth Ta.z s.tasks i).pc = (pn : Int)) (hpn : pn <= (nth [] p.bodies bn).length) (hw0 : (nth Ta.z s.tasks i).way = 0)
   (hs : (nth Ta.z s.tasks i).stage = 0 \/ (nth Ta.z s.tasks i).stage = 1 \/ (nth Ta.z s.tasks i).stage = 2 \/ (nth Ta.z s.tasks i).stage = 3 \/ (nth Ta.z s.tasks i).stage = 4 \/ (nth Ta.z s.tasks i).stage = 5) (nr : (nth Ta.z s.tasks i).reads.length <= 1048576) (nu : (nth Ta.z s.tasks i).puts.length <= 1048576) :
   Calls Try.prog 104 #[.agg #[.slice pa0 p.cells.length pc0, .slice pa1 p.bodies.length pc1], .agg #[.slice sa0 s.cells.length sc0, .slice sa1 s.tasks.length sc1, .int .i64 s.clock, .slice sa3 s.log.length sc3], .int .i64 (i : Int)] w fun r w' => r = .returned (.bool (mActB p s i)) /\ Below w.heap.size w w' := by
 obtain ⟨a, cap, e, hm, hc⟩ := id hT
 injection e with e1 e2 e3
 subst e1 e3
 have hi' : (i : Int) < (s.tasks.length : Int) := by omega
 obtain ⟨b, off, v3, v8, v9, v10, rfl, hbw, c0, c1, c2, c3, c4, c5, c6, c7, c8, c9, c10, c11, c12, h3, h8, h9, h10⟩ := hc i hi
 obtain ⟨a3, e3, rfl, _⟩ := h3.shape
 obtain ⟨a8, e8, rfl, _⟩ := h8.shape
 obtain ⟨a9, e9, rfl, _⟩ := h9.shape
 obtain ⟨a10, e10, rfl, _⟩ := h10.shape
 have HT := (show Hid (TasAt _ _ _) from hT)
 clear h3 h8 h9 h10 hc hT
 have hbw1 : b < w.heap.size + 1 := by omega
 have hbw2 : b < w.heap.size + 1 + 1 := by omega
 obtain ⟨pa, pcap, pe, phm, phc⟩ := hp.2
 injection pe with pe1 pe2 pe3
 subst pe1 pe3
 obtain ⟨b2, off2, av, rfl, hbx, d0, ha⟩ := phc bn hbn
 obtain ⟨aa, ac, rfl, hma, hac⟩ := ha
 have hbx1 : b2 < w.heap.size + 1 := by omega
 have hbx2 : b2 < w.heap.size + 1 + 1 := by omega
 have hbx3 : b2 < w.heap.size + 1 + 1 + 1 := by omega
 have hbw3 : b < w.heap.size + 1 + 1 + 1 := by omega
 have hbl : (bn : Int) < (p.bodies.length : Int) := by omega
 have hA : acts p (nth Ta.z s.tasks i) = nth [] p.bodies bn := by unfold acts; rw [hb]; rfl
 have q0 : ((nth Ta.z s.tasks i).way == 0) = true := by simp [hw0]
 have HW0 := (show Hid (_ = _) from hw0)
 have HS := (show Hid ((nth Ta.z s.tasks i).stage = 0 \/ _) from hs)
 have HFF : Hid (mActB p s i = (decide ((nth Ta.z s.tasks i).stage = 0) || (decide (pn < (nth [] p.bodies bn).length) && decide ((nth Ac.z (nth [] p.bodies bn) pn).k = 1) && mAtB (nth Ta.z s.tasks i) (nth Ac.z (nth [] p.bodies bn) pn).ds.length))) := by
   unfold Hid mActB tkN; rw [if_pos hw0, hA, hpc, Int.toNat_natCast]
   congr 3
   exact decide_eq_decide.2 (by omega)
 clear phc hA hp HT hw0 hs
 by_cases q1 : (nth Ta.z s.tasks i).stage = 0
 . have q1' : ((nth Ta.z s.tasks i).stage == 0) = true := by simp [q1]
   have HF : Hid (mActB p s i = true) := by unfold Hid; rw [HFF.out, decide_eq_true q1]; rfl
   have Q1 := (show Hid (_ = _) from q1)
   clear q1 hac
   go_enter Try.func104, Try.ntmps104
   go_wp2_with fail
   go_quiet (fail)
   go_wp2_with fail
   go_ret
   exact ⟨by rw [HF.out]; rfl, bq0⟩
 have q1' : ((nth Ta.z s.tasks i).stage == 0) = false := by simp [q1]
 have Q1 : Hid (decide ((nth Ta.z s.tasks i).stage = 0) = false) := decide_eq_false q1
 clear q1
 by_cases q2 : pn < (nth [] p.bodies bn).length
 case neg =>
   have q2' : ¬ (pn : Int) < ((nth [] p.bodies bn).length : Int) := by omega
   have q2'' : decide (pn < (nth [] p.bodies bn).length) = false := decide_eq_false q2
   have HF : Hid (mActB p s i = false) := by unfold Hid; rw [HFF.out, Q1.out, q2'']; rfl
   clear hac
   go_enter Try.func104, Try.ntmps104
   go_wp2_with fail
   go_quiet (fail)
   go_wp2_with fail
   go_ret
   exact ⟨by rw [HF.out]; rfl, bq0⟩
 have q2' : (pn : Int) < ((nth [] p.bodies bn).length : Int) := by omega
 have q2'' : decide (pn < (nth [] p.bodies bn).length) = true := decide_eq_true q2
 obtain ⟨b4, off4, dv, kv, rfl, hb4, f0, f1, f2, f3, hd, hk⟩ := hac pn q2
 obtain ⟨ad, cd, rfl, _⟩ := hd.shape
 obtain ⟨ak, ck, rfl, _⟩ := hk.shape
 have hb41 : b4 < w.heap.size + 1 := by omega
 have hb42 : b4 < w.heap.size + 1 + 1 := by omega
 have hb43 : b4 < w.heap.size + 1 + 1 + 1 := by omega
 clear hac hd hk
 by_cases q3 : (nth Ac.z (nth [] p.bodies bn) pn).k = 1
 case neg =>
   have q3' : ((nth Ac.z (nth [] p.bodies bn) pn).k == 1) = false := by simp [q3]
   have HF : Hid (mActB p s i = false) := by unfold Hid; rw [HFF.out, Q1.out, decide_eq_false q3]; simp
   go_enter Try.func104, Try.ntmps104
   go_wp2_with fail
   go_quiet (fail)
   go_wp2_with fail
   go_ret
   exact ⟨by rw [HF.out]; rfl, bq0⟩
 have q3' : ((nth Ac.z (nth [] p.bodies bn) pn).k == 1) = true := by simp [q3]
 have HF : Hid (mActB p s i = mAtB (nth Ta.z s.tasks i) (nth Ac.z (nth [] p.bodies bn) pn).ds.length) := by unfold Hid; rw [HFF.out, Q1.out, q2'', decide_eq_true q3]; rfl
 clear HFF Q1
 go_enter Try.func104, Try.ntmps104
 go_wp2_with fail
 go_region_with (go_at_call 134; refine (lAt_bp (nth Ta.z s.tasks i) hb hpc _ _ _ _ _ _ _ _ (nth Ac.z (nth [] p.bodies bn) pn).ds.length _ HS.out nr nu rfl).mono ?_; rintro e w2 ⟨rfl, hb2⟩)
 all_goals
   have HB2 : Hid (Below w.heap.size w w2) := below_then bq0 (by (try simp); try omega) hb2
   clear hb2
   go_wp2_with fail
   go_ret
   exact ⟨by rw [HF.out]; rfl, HB2.out⟩

set_option maxRecDepth 20000
theorem l12Act_waits (p : Pr) (pa0 pa1 : Option Addr) (pc0 pc1 : Nat) (s : Sy) (sa0 sa1 sa3 : Option Addr) (sc0 sc1 sc3 : Nat) (i bn pn : Nat) (w : World) (hp : PrAt w (.slice pa0 p.cells.length pc0) (.slice pa1 p.bodies.length pc1) p) (hT : TasAt w (.slice sa1 s.tasks.length sc1) s.tasks) (hi : i < s.tasks.length) (hb : (nth Ta.z s.tasks i).body = (bn : Int)) (hbn : bn < p.bodies.length) (hpc : (nth Ta.z s.tasks i).pc = (pn : Int)) (hpn : pn <= (nth [] p.bodies bn).length) (hw1 : (nth Ta.z s.tasks i).way = 1) (hn7 : s.tasks.length <= 7) :
  Calls Try.prog 104 #[.agg #[.slice pa0 p.cells.length pc0, .slice pa1 p.bodies.length pc1], .agg #[.slice sa0 s.cells.length sc0, .slice sa1 s.tasks.length sc1, .int .i64 s.clock, .slice sa3 s.log.length sc3], .int .i64 (i : Int)] w fun r w' => r = .returned (.bool (mActB p s i)) /\ Below w.heap.size w w' := by
 obtain ⟨a, cap, e, hm, hc⟩ := id hT
 injection e with e1 e2 e3
 subst e1 e3
 have hi' : (i : Int) < (s.tasks.length : Int) := by omega
 obtain ⟨b, off, v3, v8, v9, v10, rfl, hbw, c0, c1, c2, c3, c4, c5, c6, c7, c8, c9, c10, c11, c12, h3, h8, h9, h10⟩ := hc i hi
 obtain ⟨a3, e3, rfl, _⟩ := h3.shape
 obtain ⟨a8, e8, rfl, _⟩ := h8.shape
 obtain ⟨a9, e9, rfl, _⟩ := h9.shape
 obtain ⟨a10, e10, rfl, _⟩ := h10.shape
 have HT := (show Hid (TasAt _ _ _) from hT)
 clear h3 h8 h9 h10 hc hT
 have hbw1 : b < w.heap.size + 1 := by omega
 have hbw2 : b < w.heap.size + 1 + 1 := by omega
 obtain ⟨pa, pcap, pe, phm, phc⟩ := hp.2
 injection pe with pe1 pe2 pe3
 subst pe1 pe3
 obtain ⟨b2, off2, av, rfl, hbx, d0, ha⟩ := phc bn hbn
 obtain ⟨aa, ac, rfl, hma, hac⟩ := ha
 have hbx1 : b2 < w.heap.size + 1 := by omega
 have hbx2 : b2 < w.heap.size + 1 + 1 := by omega
 have hbx3 : b2 < w.heap.size + 1 + 1 + 1 := by omega
 have hbw3 : b < w.heap.size + 1 + 1 + 1 := by omega
 have hbl : (bn : Int) < (p.bodies.length : Int) := by omega
 have hA : acts p (nth Ta.z s.tasks i) = nth [] p.bodies bn := by unfold acts; rw [hb]; rfl
 have q0 : ((nth Ta.z s.tasks i).way == 0) = false := by simp [hw1]
 have q1 : ((nth Ta.z s.tasks i).way == 1) = true := by simp [hw1]
 have hw0 : ¬ (nth Ta.z s.tasks i).way = 0 := by omega
 have HFF : Hid (mActB p s i = (decide (pn < (nth [] p.bodies bn).length) && decide ((nth Ac.z (nth [] p.bodies bn) pn).k = 2) && decide ((nth Ac.z (nth [] p.bodies bn) pn).ks.length <= kin s.tasks i 0 + kin s.tasks i 1 + kin s.tasks i 2 + kin s.tasks i 3))) := by
  unfold Hid mActB tkN; rw [if_neg hw0, if_pos hw1, hA, hpc, Int.toNat_natCast]
  congr 2
  exact decide_eq_decide.2 (by omega)
 have K0 := kin_le s.tasks i 0
 have K1 := kin_le s.tasks i 1
 have K2 := kin_le s.tasks i 2
 have K3 := kin_le s.tasks i 3
 have W1 : IntKind.i64.wrap ((kin s.tasks i 0 : Int) + (kin s.tasks i 1 : Int)) = (kin s.tasks i 0 : Int) + (kin s.tasks i 1 : Int) := by rw [IntKind.wrap_i64]; omega
 have W2 : IntKind.i64.wrap ((kin s.tasks i 0 : Int) + (kin s.tasks i 1 : Int) + (kin s.tasks i 2 : Int)) = (kin s.tasks i 0 : Int) + (kin s.tasks i 1 : Int) + (kin s.tasks i 2 : Int) := by rw [IntKind.wrap_i64]; omega
 have W3 : IntKind.i64.wrap ((kin s.tasks i 0 : Int) + (kin s.tasks i 1 : Int) + (kin s.tasks i 2 : Int) + (kin s.tasks i 3 : Int)) = (kin s.tasks i 0 : Int) + (kin s.tasks i 1 : Int) + (kin s.tasks i 2 : Int) + (kin s.tasks i 3 : Int) := by rw [IntKind.wrap_i64]; omega
 have HW1 := (show Hid (_ = _) from hw1)
 clear phc hA hp hw0 hw1
 by_cases q2 : pn < (nth [] p.bodies bn).length
 case neg =>
  have q2' : ¬ (pn : Int) < ((nth [] p.bodies bn).length : Int) := by omega
  have HF : Hid (mActB p s i = false) := by unfold Hid; rw [HFF.out, decide_eq_false q2]; rfl
  clear hac K0 K1 K2 K3
  go_enter Try.func104, Try.ntmps104
  go_wp2_with fail
  refine (kids_any (w.heap.size + 1 + 1 + 1) s.tasks (some ⟨b, off, none⟩) sc1 _ _ _ ?h1 ?h2).mono ?_
  case h1 => first | (simp; done) | (simp [go_sem]; done)
  case h2 => exact TasAt.mono HT.out bq0
  rintro e w3 ⟨rfl, hw3⟩
  have hw3 := hw3.symm
  subst hw3
  go_wp2_with fail
  refine (kids_any (w.heap.size + 1 + 1 + 1) s.tasks (some ⟨b, off, none⟩) sc1 _ _ _ ?h1 ?h2).mono ?_
  case h1 => first | (simp; done) | (simp [go_sem]; done)
  case h2 => exact TasAt.mono HT.out bq0
  rintro e w3 ⟨rfl, hw3⟩
  have hw3 := hw3.symm
  subst hw3
  go_wp2_with fail
  refine (kids_any (w.heap.size + 1 + 1 + 1) s.tasks (some ⟨b, off, none⟩) sc1 _ _ _ ?h1 ?h2).mono ?_
  case h1 => first | (simp; done) | (simp [go_sem]; done)
  case h2 => exact TasAt.mono HT.out bq0
  rintro e w3 ⟨rfl, hw3⟩
  have hw3 := hw3.symm
  subst hw3
  go_wp2_with fail
  refine (kids_any (w.heap.size + 1 + 1 + 1) s.tasks (some ⟨b, off, none⟩) sc1 _ _ _ ?h1 ?h2).mono ?_
  case h1 => first | (simp; done) | (simp [go_sem]; done)
  case h2 => exact TasAt.mono HT.out bq0
  rintro e w3 ⟨rfl, hw3⟩
  have hw3 := hw3.symm
  subst hw3
  go_wp2_with fail
  (try go_quiet (fail))
  (try go_wp2_with fail)
  go_ret
  exact ⟨by rw [HF.out]; rfl, bq0⟩
 have q2' : (pn : Int) < ((nth [] p.bodies bn).length : Int) := by omega
 obtain ⟨b4, off4, dv, kv, rfl, hb4, f0, f1, f2, f3, hd, hk⟩ := hac pn q2
 obtain ⟨ad, cd, rfl, _⟩ := hd.shape
 obtain ⟨ak, ck, rfl, _⟩ := hk.shape
 have hb41 : b4 < w.heap.size + 1 := by omega
 have hb42 : b4 < w.heap.size + 1 + 1 := by omega
 have hb43 : b4 < w.heap.size + 1 + 1 + 1 := by omega
 clear hac hd hk
 by_cases q3 : (nth Ac.z (nth [] p.bodies bn) pn).k = 2
 case neg =>
  have q3' : ((nth Ac.z (nth [] p.bodies bn) pn).k == 2) = false := by simp [q3]
  have HF : Hid (mActB p s i = false) := by unfold Hid; rw [HFF.out, decide_eq_false q3]; simp
  clear K0 K1 K2 K3
  go_enter Try.func104, Try.ntmps104
  go_wp2_with fail
  refine (kids_any (w.heap.size + 1 + 1 + 1) s.tasks (some ⟨b, off, none⟩) sc1 _ _ _ ?h1 ?h2).mono ?_
  case h1 => first | (simp; done) | (simp [go_sem]; done)
  case h2 => exact TasAt.mono HT.out bq0
  rintro e w3 ⟨rfl, hw3⟩
  have hw3 := hw3.symm
  subst hw3
  go_wp2_with fail
  refine (kids_any (w.heap.size + 1 + 1 + 1) s.tasks (some ⟨b, off, none⟩) sc1 _ _ _ ?h1 ?h2).mono ?_
  case h1 => first | (simp; done) | (simp [go_sem]; done)
  case h2 => exact TasAt.mono HT.out bq0
  rintro e w3 ⟨rfl, hw3⟩
  have hw3 := hw3.symm
  subst hw3
  go_wp2_with fail
  refine (kids_any (w.heap.size + 1 + 1 + 1) s.tasks (some ⟨b, off, none⟩) sc1 _ _ _ ?h1 ?h2).mono ?_
  case h1 => first | (simp; done) | (simp [go_sem]; done)
  case h2 => exact TasAt.mono HT.out bq0
  rintro e w3 ⟨rfl, hw3⟩
  have hw3 := hw3.symm
  subst hw3
  go_wp2_with fail
  refine (kids_any (w.heap.size + 1 + 1 + 1) s.tasks (some ⟨b, off, none⟩) sc1 _ _ _ ?h1 ?h2).mono ?_
  case h1 => first | (simp; done) | (simp [go_sem]; done)
  case h2 => exact TasAt.mono HT.out bq0
  rintro e w3 ⟨rfl, hw3⟩
  have hw3 := hw3.symm
  subst hw3
  go_wp2_with fail
  (try go_quiet (fail))
  (try go_wp2_with fail)
  go_ret
  exact ⟨by rw [HF.out]; rfl, bq0⟩
 have q3' : ((nth Ac.z (nth [] p.bodies bn) pn).k == 2) = true := by simp [q3]
 have HF3 : Hid (mActB p s i = decide ((nth Ac.z (nth [] p.bodies bn) pn).ks.length <= kin s.tasks i 0 + kin s.tasks i 1 + kin s.tasks i 2 + kin s.tasks i 3)) := by unfold Hid; rw [HFF.out, decide_eq_true q2, decide_eq_true q3]; rfl
 have HF : Hid (mActB p s i = decide (((nth Ac.z (nth [] p.bodies bn) pn).ks.length : Int) <= (kin s.tasks i 0 : Int) + (kin s.tasks i 1 : Int) + (kin s.tasks i 2 : Int) + (kin s.tasks i 3 : Int))) := by
  unfold Hid; rw [HF3.out]; exact decide_eq_decide.2 (by omega)
 clear K0 K1 K2 K3 HF3 HFF
 go_enter Try.func104, Try.ntmps104
 go_wp2_with fail
 refine (kids_any (w.heap.size + 1 + 1 + 1) s.tasks (some ⟨b, off, none⟩) sc1 _ _ _ ?h1 ?h2).mono ?_
 case h1 => first | (simp; done) | (simp [go_sem]; done)
 case h2 => exact TasAt.mono HT.out bq0
 rintro e w3 ⟨rfl, hw3⟩
 have hw3 := hw3.symm
 subst hw3
 go_wp2_with fail
 refine (kids_any (w.heap.size + 1 + 1 + 1) s.tasks (some ⟨b, off, none⟩) sc1 _ _ _ ?h1 ?h2).mono ?_
 case h1 => first | (simp; done) | (simp [go_sem]; done)
 case h2 => exact TasAt.mono HT.out bq0
 rintro e w3 ⟨rfl, hw3⟩
 have hw3 := hw3.symm
 subst hw3
 go_wp2_with fail
 refine (kids_any (w.heap.size + 1 + 1 + 1) s.tasks (some ⟨b, off, none⟩) sc1 _ _ _ ?h1 ?h2).mono ?_
 case h1 => first | (simp; done) | (simp [go_sem]; done)
 case h2 => exact TasAt.mono HT.out bq0
 rintro e w3 ⟨rfl, hw3⟩
 have hw3 := hw3.symm
 subst hw3
 go_wp2_with fail
 refine (kids_any (w.heap.size + 1 + 1 + 1) s.tasks (some ⟨b, off, none⟩) sc1 _ _ _ ?h1 ?h2).mono ?_
 case h1 => first | (simp; done) | (simp [go_sem]; done)
 case h2 => exact TasAt.mono HT.out bq0
 rintro e w3 ⟨rfl, hw3⟩
 have hw3 := hw3.symm
 subst hw3
 go_wp2_with fail
 (try go_quiet (fail))
 (try go_wp2_with fail)
 go_ret
 exact ⟨by rw [HF.out]; rfl, bq0⟩

set_option maxRecDepth 20000
theorem l12Act_any (p : Pr) (pa0 pa1 : Option Addr) (pc0 pc1 : Nat) (s : Sy) (sa0 sa1 sa3 : Option Addr) (sc0 sc1 sc3 : Nat) (i bn pn : Nat) (w : World) (hp : PrAt w (.slice pa0 p.cells.length pc0) (.slice pa1 p.bodies.length pc1) p) (hT : TasAt w (.slice sa1 s.tasks.length sc1) s.tasks) (hi : i < s.tasks.length) (hb : (nth Ta.z s.tasks i).body = (bn : Int)) (hbn : bn < p.bodies.length) (hpc : (nth Ta.z s.tasks i).pc = (pn : Int)) (hpn : pn <= (nth [] p.bodies bn).length) (hn7 : s.tasks.length <= 7)
   (hs : (nth Ta.z s.tasks i).stage = 0 \/ (nth Ta.z s.tasks i).stage = 1 \/ (nth Ta.z s.tasks i).stage = 2 \/ (nth Ta.z s.tasks i).stage = 3 \/ (nth Ta.z s.tasks i).stage = 4 \/ (nth Ta.z s.tasks i).stage = 5) (nr : (nth Ta.z s.tasks i).reads.length <= 1048576) (nu : (nth Ta.z s.tasks i).puts.length <= 1048576) :
   Calls Try.prog 104 #[.agg #[.slice pa0 p.cells.length pc0, .slice pa1 p.bodies.length pc1], .agg #[.slice sa0 s.cells.length sc0, .slice sa1 s.tasks.length sc1, .int .i64 s.clock, .slice sa3 s.log.length sc3], .int .i64 (i : Int)] w fun r w' => r = .returned (.bool (mActB p s i)) /\ Below w.heap.size w w' := by
 by_cases h0 : (nth Ta.z s.tasks i).way = 0
 . exact l12Act_runs p pa0 pa1 pc0 pc1 s sa0 sa1 sa3 sc0 sc1 sc3 i bn pn w hp hT hi hb hbn hpc hpn h0 hs nr nu
 by_cases h1 : (nth Ta.z s.tasks i).way = 1
 . exact l12Act_waits p pa0 pa1 pc0 pc1 s sa0 sa1 sa3 sc0 sc1 sc3 i bn pn w hp hT hi hb hbn hpc hpn h1 hn7
 exact l12Act_rest p pa0 pa1 pc0 pc1 s sa0 sa1 sa3 sc0 sc1 sc3 i bn pn w hp hT hi hb hbn hpc hpn h0 h1
theorem l12Times_bp (t : Ta) {x y z u v : Int} (a3 a8 a9 a10 : Option Addr) (c3 c8 c9 c10 : Nat) (s : Sy) (sa0 sa1 sa3 : Option Addr) (sc0 sc1 sc3 : Nat) (w : World) (hs : t.stage = 0 \/ t.stage = 1 \/ t.stage = 2 \/ t.stage = 3 \/ t.stage = 4 \/ t.stage = 5) (h0 : 0 <= s.clock) (h200 : s.clock <= 200) (hll : s.log.length <= 1048576) (hx : t.body = x) (hy : t.pc = y) (hz : t.way = z) (hu : t.stage = u) (hv : t.at_ = v) :
  Calls Try.prog 102 #[.agg #[.int .i64 x, .int .i64 y, .int .i64 t.up, .slice a3 t.regs.length c3, .int .i64 z, .int .i64 u, .int .i64 v, .int .i64 t.since, .slice a8 t.old.length c8, .slice a9 t.reads.length c9, .slice a10 t.puts.length c10, .int .i64 t.when_, .int .i64 t.from_], .agg #[.slice sa0 s.cells.length sc0, .slice sa1 s.tasks.length sc1, .int .i64 s.clock, .slice sa3 s.log.length sc3]] w fun r w' => r = .returned (.bool (mWhB t s)) /\ Below w.heap.size w w' := by
 subst hx hy hz hu hv; exact l12Times_any t a3 a8 a9 a10 c3 c8 c9 c10 s sa0 sa1 sa3 sc0 sc1 sc3 w hs h0 h200 hll
end Go.Proofs.Ytgbgjljflgbcaaa
