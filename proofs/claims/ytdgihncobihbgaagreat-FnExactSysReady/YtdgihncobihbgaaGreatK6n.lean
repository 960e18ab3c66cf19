/-
  Tasks in form: the model: l12Task (D) (by mky.py).
-/
import Derived.Test.YtdgihncobihbgaaGreatK6i
namespace Go.Proofs.YtdgihncobihbgaaGreat
open Go.RowKit
set_option linter.unusedSimpArgs false
set_option linter.unusedVariables false
set_option maxRecDepth 20000

set_option maxHeartbeats 16000000 in
theorem l12Task_onD (p : Pr) (pa0 pa1 : Option Addr) (pc0 pc1 : Nat) (s : Sy) (sa0 sa1 sa3 : Option Addr) (sc0 sc1 sc3 : Nat) (i : Nat) (w : World) (hp : PrAt w (.slice pa0 p.cells.length pc0) (.slice pa1 p.bodies.length pc1) p) (hT : TasAt w (.slice sa1 s.tasks.length sc1) s.tasks) (hi : i < s.tasks.length) (hn7 : s.tasks.length ≤ 7) (hcl : s.cells.length ≤ 1048576) (hbl0 : p.bodies.length ≤ 1048576) (h0 : 0 ≤ s.clock) (h200 : s.clock ≤ 200) (hll : s.log.length ≤ 1048576) (nr : (nth Ta.z s.tasks i).reads.length ≤ 1048576) (nu : (nth Ta.z s.tasks i).puts.length ≤ 1048576) (bn pn : Nat) (hb : (nth Ta.z s.tasks i).body = (bn : Int)) (hbn : bn < p.bodies.length) (hpc : (nth Ta.z s.tasks i).pc = (pn : Int)) (hpn : pn ≤ (nth [] p.bodies bn).length) (g3 : inB (nth Ta.z s.tasks i).way 0 4 = true) (g4 : inB (nth Ta.z s.tasks i).stage 0 5 = true) (hw : ¬ (nth Ta.z s.tasks i).way = 0) (hst : ¬ (nth Ta.z s.tasks i).stage = 0) :
    Calls Tryz.prog 30 #[.agg #[.slice pa0 p.cells.length pc0, .slice pa1 p.bodies.length pc1], .agg #[.slice sa0 s.cells.length sc0, .slice sa1 s.tasks.length sc1, .int .i64 s.clock, .slice sa3 s.log.length sc3], .int .i64 (i : Int)] w fun r w' => r = .returned (.bool (mTkB p s i)) ∧ Below w.heap.size w w' := by
  have HS : Hid ((nth Ta.z s.tasks i).stage = 0 ∨ (nth Ta.z s.tasks i).stage = 1 ∨ (nth Ta.z s.tasks i).stage = 2 ∨ (nth Ta.z s.tasks i).stage = 3 ∨ (nth Ta.z s.tasks i).stage = 4 ∨ (nth Ta.z s.tasks i).stage = 5) := by
    have : 0 ≤ (nth Ta.z s.tasks i).stage ∧ (nth Ta.z s.tasks i).stage ≤ 5 := by simpa [inB] using g4
    unfold Hid; omega
  obtain ⟨a, cap, e, hm, hc⟩ := id hT
  injection e with e1 e2 e3
  subst e1 e3
  have hi' : (i : Int) < (s.tasks.length : Int) := by omega
  obtain ⟨b, off, v3, v8, v9, v10, rfl, hbw, c0, c1, c2, c3, c4, c5, c6, c7, c8, c9, c10, c11, c12, h3, h8, h9, h10⟩ := hc i hi
  obtain ⟨a3, e3, rfl, _⟩ := h3.shape
  obtain ⟨a8, e8, rfl, _⟩ := h8.shape
  obtain ⟨a9, e9, rfl, _⟩ := h9.shape
  obtain ⟨a10, e10, rfl, _⟩ := h10.shape
  have HT := (show Hid (TasAt _ _ _) from hT)
  have H3 := (show Hid (IntsAt _ _ _) from h3)
  have H8 := (show Hid (IntsAt _ _ _) from h8)
  have H9 := (show Hid (PusAt _ _ _) from h9)
  have H10 := (show Hid (PusAt _ _ _) from h10)
  clear h3 h8 h9 h10 hc hT
  have hbw1 : b < w.heap.size + 1 := by omega
  have hbw2 : b < w.heap.size + 1 + 1 := by omega
  have hwb : IntKind.i64.wrap ((p.bodies.length : Int) - 1) = (p.bodies.length : Int) - 1 := by rw [IntKind.wrap_i64]; omega
  have g1 : inB (bn : Int) 0 ((p.bodies.length : Int) - 1) = true := by simp [inB]; omega
  have g2 : inB (pn : Int) 0 (nth [] p.bodies bn).length = true := by simp [inB]; omega
  have G1 := (show Hid (_ = _) from g1)
  have G2 := (show Hid (_ = _) from g2)
  have G3 := (show Hid (_ = _) from g3)
  have G4 := (show Hid (_ = _) from g4)
  have HP := (show Hid (PrAt _ _ _ _) from hp)
  obtain ⟨pa, pcap, pe, phm, phc⟩ := hp.2
  injection pe with pe1 pe2 pe3
  subst pe1 pe3
  obtain ⟨b2, off2, av, rfl, hbx, d0, ha⟩ := phc bn hbn
  obtain ⟨aa, ac, rfl, hma, hac⟩ := ha
  have hbx1 : b2 < w.heap.size + 1 := by omega
  have hbx2 : b2 < w.heap.size + 1 + 1 := by omega
  have hbx3 : b2 < w.heap.size + 1 + 1 + 1 := by omega
  have hbw3 : b < w.heap.size + 1 + 1 + 1 := by omega
  have hbl : (bn : Int) < (p.bodies.length : Int) := by omega
  have hA : acts p (nth Ta.z s.tasks i) = nth [] p.bodies bn := by unfold acts; rw [hb]; rfl
  have HFF : Hid (mTkB p s i = (mLsB s (nth Ta.z s.tasks i) && (mNoB (nth Ta.z s.tasks i) && mWhB (nth Ta.z s.tasks i) s && upfB s i && mActB p s i))) := by
    have hN : mNumB p (nth Ta.z s.tasks i) = true := by
      unfold mNumB; rw [← in_pl, hb, g1, hA, hpc, g2, g3, g4]; rfl
    unfold Hid mTkB tkN; rw [hN]; rfl
  clear hp hA phc hac g1 g2 g3 g4

  have HF : Hid (mTkB p s i = false) := by unfold Hid; rw [HFF.out]; unfold mLsB; rw [decide_eq_false hw, decide_eq_false hst]; rfl
  clear HFF
  · go_enter Tryz.func30, Tryz.ntmps30
    go_wp2_with fail
    go_quiet ((go_at_call 29; first | with_reducible exact Calls.quiet_of_same (l6In_b G1.out _) | with_reducible exact Calls.quiet_of_same (l6In_b G2.out _) | with_reducible exact Calls.quiet_of_same (l6In_b G3.out _) | with_reducible exact Calls.quiet_of_same (l6In_b G4.out _)))
    go_wp2_with fail
    go_ret
    exact ⟨by rw [HF.out]; rfl, (by repeat (first | with_reducible exact Below.refl _ _ | (with_reducible refine Below.setCell ?_ ?hs _; case hs => ((try simp); try omega)) | (with_reducible refine Below.alloc ?_ ?hs _; case hs => ((try simp); try omega)) | with_reducible refine Below.drew ?_ | with_reducible refine below_drewN ?_ _))⟩

end Go.Proofs.YtdgihncobihbgaaGreat
