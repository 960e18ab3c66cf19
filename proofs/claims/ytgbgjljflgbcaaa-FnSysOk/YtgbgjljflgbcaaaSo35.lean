import Derived.Test.YtgbgjljflgbcaaaSo33
import Derived.Test.YtgbgjljflgbcaaaSo01
namespace Go.Proofs.Ytgbgjljflgbcaaa
set_option maxHeartbeats 8000000
open Go.RowKit
set_option linter.unusedSimpArgs false
set_option linter.unusedVariables false
set_option maxRecDepth 20000
theorem l12Task_onB (p : Pr) (pa0 pa1 : Option Addr) (pc0 pc1 : Nat) (s : Sy) (sa0 sa1 sa3 : Option Addr) (sc0 sc1 sc3 : Nat) (i : Nat) (w : World) (hp : PrAt w (.slice pa0 p.cells.length pc0) (.slice pa1 p.bodies.length pc1) p) (hT : TasAt w (.slice sa1 s.tasks.length sc1) s.tasks) (hi : i < s.tasks.length) (hn7 : s.tasks.length <= 7) (hcl : s.cells.length <= 1048576) (hbl0 : p.bodies.length <= 1048576) (h0 : 0 <= s.clock) (h200 : s.clock <= 200) (hll : s.log.length <= 1048576) (nr : (nth Ta.z s.tasks i).reads.length <= 1048576) (nu : (nth Ta.z s.tasks i).puts.length <= 1048576) (bn pn : Nat) (hb : (nth Ta.z s.tasks i).body = (bn : Int)) (hbn : bn < p.bodies.length) (hpc : (nth Ta.z s.tasks i).pc = (pn : Int)) (hpn : pn <= (nth [] p.bodies bn).length) (g3 : inB (nth Ta.z s.tasks i).way 0 4 = true) (g4 : inB (nth Ta.z s.tasks i).stage 0 5 = true) (hw : (nth Ta.z s.tasks i).way = 0) (hst : (nth Ta.z s.tasks i).stage = 0) :
   Calls Try.prog 53 #[.agg #[.slice pa0 p.cells.length pc0, .slice pa1 p.bodies.length pc1], .agg #[.slice sa0 s.cells.length sc0, .slice sa1 s.tasks.length sc1, .int .i64 s.clock, .slice sa3 s.log.length sc3], .int .i64 (i : Int)] w fun r w' => r = .returned (.bool (mTkB p s i)) /\ Below w.heap.size w w' := by
 have HS : Hid ((nth Ta.z s.tasks i).stage = 0 \/ (nth Ta.z s.tasks i).stage = 1 \/ (nth Ta.z s.tasks i).stage = 2 \/ (nth Ta.z s.tasks i).stage = 3 \/ (nth Ta.z s.tasks i).stage = 4 \/ (nth Ta.z s.tasks i).stage = 5) := by
   have : 0 <= (nth Ta.z s.tasks i).stage /\ (nth Ta.z s.tasks i).stage <= 5 := by simpa [inB] using g4
   unfold Hid; omega
 obtain ⟨a, cap, e, hm, hc⟩ := id hT
 injection e with e1 e2 e3
 subst e1 e3
 have hi' : (i : Int) < (s.tasks.length : Int) := by omega
 obtain ⟨b, off, v3, v8, v9, v10, rfl, hbw, c0, c1, c2, c3, c4, c5, c6, c7, c8, c9, c10, c11, c12, h3, h8, h9, h10⟩ := hc i hi
 obtain ⟨a3, e3, rfl, _⟩ := h3.shape
 obtain ⟨a8, e8, rfl, _⟩ := h8.shape
 obtain ⟨a9, e9, rfl, _⟩ := h9.shape
 obtain ⟨a10, e10, rfl, _⟩ := h10.shape
 have HT := (show Hid (TasAt _ _ _) from hT)
 have H3 := (show Hid (IntsAt _ _ _) from h3)
 have H8 := (show Hid (IntsAt _ _ _) from h8)
 have H9 := (show Hid (PusAt _ _ _) from h9)
 have H10 := (show Hid (PusAt _ _ _) from h10)
 clear h3 h8 h9 h10 hc hT
 have hbw1 : b < w.heap.size + 1 := by omega
 have hbw2 : b < w.heap.size + 1 + 1 := by omega
 have hwb : IntKind.i64.wrap ((p.bodies.length : Int) - 1) = (p.bodies.length : Int) - 1 := by rw [IntKind.wrap_i64]; omega
 have g1 : inB (bn : Int) 0 ((p.bodies.length : Int) - 1) = true := by simp [inB]; omega
 have g2 : inB (pn : Int) 0 (nth [] p.bodies bn).length = true := by simp [inB]; omega
 have G1 := (show Hid (_ = _) from g1)
 have G2 := (show Hid (_ = _) from g2)
 have G3 := (show Hid (_ = _) from g3)
 have G4 := (show Hid (_ = _) from g4)
 have HP := (show Hid (PrAt _ _ _ _) from hp)
 obtain ⟨pa, pcap, pe, phm, phc⟩ := hp.2
 injection pe with pe1 pe2 pe3
 subst pe1 pe3
 obtain ⟨b2, off2, av, rfl, hbx, d0, ha⟩ := phc bn hbn
 obtain ⟨aa, ac, rfl, hma, hac⟩ := ha
 have hbx1 : b2 < w.heap.size + 1 := by omega
 have hbx2 : b2 < w.heap.size + 1 + 1 := by omega
 have hbx3 : b2 < w.heap.size + 1 + 1 + 1 := by omega
 have hbw3 : b < w.heap.size + 1 + 1 + 1 := by omega
 have hbl : (bn : Int) < (p.bodies.length : Int) := by omega
 have hA : acts p (nth Ta.z s.tasks i) = nth [] p.bodies bn := by unfold acts; rw [hb]; rfl
 have HFF : Hid (mTkB p s i = (mLsB s (nth Ta.z s.tasks i) && (mNoB (nth Ta.z s.tasks i) && mWhB (nth Ta.z s.tasks i) s && upfB s i && mActB p s i))) := by
   have hN : mNumB p (nth Ta.z s.tasks i) = true := by
     unfold mNumB; rw [<- in_pl, hb, g1, hA, hpc, g2, g3, g4]; rfl
   unfold Hid mTkB tkN; rw [hN]; rfl
 clear hp hA phc hac g1 g2 g3 g4
 rw [hw] at G3
 rw [hst] at G4
 have HL : Hid (mLsB s (nth Ta.z s.tasks i) = (rgB (nth Ta.z s.tasks i).regs && (rgB (nth Ta.z s.tasks i).old && (puB (nth Ta.z s.tasks i).reads s.cells.length && puB (nth Ta.z s.tasks i).puts s.cells.length)))) := by
   unfold Hid mLsB; rw [decide_eq_true hw]; simp only [Bool.and_assoc]; simp
 have hwS : IntKind.i64.wrap (((nth Ta.z s.tasks i).reads.length : Int) + ((nth Ta.z s.tasks i).puts.length : Int)) = ((nth Ta.z s.tasks i).reads.length : Int) + ((nth Ta.z s.tasks i).puts.length : Int) := by rw [IntKind.wrap_i64]; omega
 go_enter Try.func53, Try.ntmps53
 go_wp2_with fail
 go_quiet ((go_at_call 52; first | with_reducible exact Calls.quiet_of_same (l6In_b G1.out _) | with_reducible exact Calls.quiet_of_same (l6In_b G2.out _) | with_reducible exact Calls.quiet_of_same (l6In_b G3.out _) | with_reducible exact Calls.quiet_of_same (l6In_b G4.out _)))
 go_wp2_with fail
 refine (l2Nums_rg _ (nth Ta.z s.tasks i).regs _ (IntsAt.mono H3.out bq0)).mono ?_
 rintro e w0 ⟨rfl, hw0⟩
 have hw0 := hw0.symm
 subst hw0
 cases r0 : rgB (nth Ta.z s.tasks i).regs
 . have HF : Hid (mTkB p s i = false) := by unfold Hid; rw [HFF.out, HL.out, r0]; simp
   clear r0
   go_wp2_with fail
   go_ret
   exact ⟨by rw [HF.out]; rfl, bq0⟩
 have R0 := (show Hid (_ = _) from r0)
 clear r0
 go_wp2_with fail
 refine (l2Nums_rg _ (nth Ta.z s.tasks i).old _ (IntsAt.mono H8.out bq0)).mono ?_
 rintro e w0 ⟨rfl, hw0⟩
 have hw0 := hw0.symm
 subst hw0
 cases r1 : rgB (nth Ta.z s.tasks i).old
 . have HF : Hid (mTkB p s i = false) := by unfold Hid; rw [HFF.out, HL.out, R0.out, r1]; simp
   clear r1
   go_wp2_with fail
   go_ret
   exact ⟨by rw [HF.out]; rfl, bq0⟩
 have R1 := (show Hid (_ = _) from r1)
 clear r1
 go_wp2_with fail
 refine (l12List_any _ (nth Ta.z s.tasks i).reads s.cells.length _ (PusAt.mono H9.out bq0) hcl).mono ?_
 rintro e w1 ⟨rfl, hb1⟩
 have x0_1 : w1.cell? ⟨w.heap.size, 0, none⟩ = some (.slice pa0 p.cells.length pc0) := by rw [hb1.cell (p := ⟨w.heap.size, 0, none⟩) (by (try simp); try omega)]; simp [go_sem]
 have x1_1 : w1.cell? ⟨w.heap.size, 1, none⟩ = some (.slice (some ⟨b2, off2, none⟩) p.bodies.length pc1) := by rw [hb1.cell (p := ⟨w.heap.size, 1, none⟩) (by (try simp); try omega)]; simp [go_sem]
 have x2_1 : w1.cell? ⟨w.heap.size + 1, 0, none⟩ = some (.slice sa0 s.cells.length sc0) := by rw [hb1.cell (p := ⟨w.heap.size + 1, 0, none⟩) (by (try simp); try omega)]; simp [go_sem]
 have x3_1 : w1.cell? ⟨w.heap.size + 1, 1, none⟩ = some (.slice (some ⟨b, off, none⟩) s.tasks.length sc1) := by rw [hb1.cell (p := ⟨w.heap.size + 1, 1, none⟩) (by (try simp); try omega)]; simp [go_sem]
 have x4_1 : w1.cell? ⟨w.heap.size + 1, 2, none⟩ = some (.int .i64 s.clock) := by rw [hb1.cell (p := ⟨w.heap.size + 1, 2, none⟩) (by (try simp); try omega)]; simp [go_sem]
 have x5_1 : w1.cell? ⟨w.heap.size + 1, 3, none⟩ = some (.slice sa3 s.log.length sc3) := by rw [hb1.cell (p := ⟨w.heap.size + 1, 3, none⟩) (by (try simp); try omega)]; simp [go_sem]
 have x6_1 : w1.cell? ⟨w.heap.size + 1 + 1, 0, none⟩ = some (.int .i64 (bn : Int)) := by rw [hb1.cell (p := ⟨w.heap.size + 1 + 1, 0, none⟩) (by (try simp); try omega)]; simp [go_sem]
 have x7_1 : w1.cell? ⟨w.heap.size + 1 + 1, 1, none⟩ = some (.int .i64 (pn : Int)) := by rw [hb1.cell (p := ⟨w.heap.size + 1 + 1, 1, none⟩) (by (try simp); try omega)]; simp [go_sem]
 have x8_1 : w1.cell? ⟨w.heap.size + 1 + 1, 2, none⟩ = some (.int .i64 (nth Ta.z s.tasks i).up) := by rw [hb1.cell (p := ⟨w.heap.size + 1 + 1, 2, none⟩) (by (try simp); try omega)]; simp [go_sem]
 have x9_1 : w1.cell? ⟨w.heap.size + 1 + 1, 3, none⟩ = some (.slice a3 (nth Ta.z s.tasks i).regs.length e3) := by rw [hb1.cell (p := ⟨w.heap.size + 1 + 1, 3, none⟩) (by (try simp); try omega)]; simp [go_sem]
 have x10_1 : w1.cell? ⟨w.heap.size + 1 + 1, 4, none⟩ = some (.int .i64 0) := by rw [hb1.cell (p := ⟨w.heap.size + 1 + 1, 4, none⟩) (by (try simp); try omega)]; simp [go_sem]
 have x11_1 : w1.cell? ⟨w.heap.size + 1 + 1, 5, none⟩ = some (.int .i64 0) := by rw [hb1.cell (p := ⟨w.heap.size + 1 + 1, 5, none⟩) (by (try simp); try omega)]; simp [go_sem]
 have x12_1 : w1.cell? ⟨w.heap.size + 1 + 1, 6, none⟩ = some (.int .i64 (nth Ta.z s.tasks i).at_) := by rw [hb1.cell (p := ⟨w.heap.size + 1 + 1, 6, none⟩) (by (try simp); try omega)]; simp [go_sem]
 have x13_1 : w1.cell? ⟨w.heap.size + 1 + 1, 7, none⟩ = some (.int .i64 (nth Ta.z s.tasks i).since) := by rw [hb1.cell (p := ⟨w.heap.size + 1 + 1, 7, none⟩) (by (try simp); try omega)]; simp [go_sem]
 have x14_1 : w1.cell? ⟨w.heap.size + 1 + 1, 8, none⟩ = some (.slice a8 (nth Ta.z s.tasks i).old.length e8) := by rw [hb1.cell (p := ⟨w.heap.size + 1 + 1, 8, none⟩) (by (try simp); try omega)]; simp [go_sem]
 have x15_1 : w1.cell? ⟨w.heap.size + 1 + 1, 9, none⟩ = some (.slice a9 (nth Ta.z s.tasks i).reads.length e9) := by rw [hb1.cell (p := ⟨w.heap.size + 1 + 1, 9, none⟩) (by (try simp); try omega)]; simp [go_sem]
 have x16_1 : w1.cell? ⟨w.heap.size + 1 + 1, 10, none⟩ = some (.slice a10 (nth Ta.z s.tasks i).puts.length e10) := by rw [hb1.cell (p := ⟨w.heap.size + 1 + 1, 10, none⟩) (by (try simp); try omega)]; simp [go_sem]
 have x17_1 : w1.cell? ⟨w.heap.size + 1 + 1, 11, none⟩ = some (.int .i64 (nth Ta.z s.tasks i).when_) := by rw [hb1.cell (p := ⟨w.heap.size + 1 + 1, 11, none⟩) (by (try simp); try omega)]; simp [go_sem]
 have x18_1 : w1.cell? ⟨w.heap.size + 1 + 1, 12, none⟩ = some (.int .i64 (nth Ta.z s.tasks i).from_) := by rw [hb1.cell (p := ⟨w.heap.size + 1 + 1, 12, none⟩) (by (try simp); try omega)]; simp [go_sem]
 have z0_1 : w.heap.size < w1.heap.size := by have := hb1.size; (try simp at this); omega
 have z1_1 : w.heap.size + 1 < w1.heap.size := by have := hb1.size; (try simp at this); omega
 have z2_1 : w.heap.size + 1 + 1 < w1.heap.size := by have := hb1.size; (try simp at this); omega
 have HB1 : Hid (Below w.heap.size w w1) := below_then bq0 (by (try simp); try omega) hb1
 clear hb1
 cases l0 : puB (nth Ta.z s.tasks i).reads s.cells.length
 . have HF : Hid (mTkB p s i = false) := by unfold Hid; rw [HFF.out, HL.out, R0.out, R1.out, l0]; simp
   clear l0
   go_wp2_with fail
   go_ret
   exact ⟨by rw [HF.out]; rfl, HB1.out⟩
 have L0 := (show Hid (_ = _) from l0)
 clear l0
 go_wp2_with fail
 refine (l12List_any _ (nth Ta.z s.tasks i).puts s.cells.length _ (PusAt.mono H10.out HB1.out) hcl).mono ?_
 rintro e w2 ⟨rfl, hb2⟩
 have x0_2 : w2.cell? ⟨w.heap.size, 0, none⟩ = some (.slice pa0 p.cells.length pc0) := by rw [hb2.cell (p := ⟨w.heap.size, 0, none⟩) (by (try simp); try omega)]; exact x0_1
 have x1_2 : w2.cell? ⟨w.heap.size, 1, none⟩ = some (.slice (some ⟨b2, off2, none⟩) p.bodies.length pc1) := by rw [hb2.cell (p := ⟨w.heap.size, 1, none⟩) (by (try simp); try omega)]; exact x1_1
 have x2_2 : w2.cell? ⟨w.heap.size + 1, 0, none⟩ = some (.slice sa0 s.cells.length sc0) := by rw [hb2.cell (p := ⟨w.heap.size + 1, 0, none⟩) (by (try simp); try omega)]; exact x2_1
 have x3_2 : w2.cell? ⟨w.heap.size + 1, 1, none⟩ = some (.slice (some ⟨b, off, none⟩) s.tasks.length sc1) := by rw [hb2.cell (p := ⟨w.heap.size + 1, 1, none⟩) (by (try simp); try omega)]; exact x3_1
 have x4_2 : w2.cell? ⟨w.heap.size + 1, 2, none⟩ = some (.int .i64 s.clock) := by rw [hb2.cell (p := ⟨w.heap.size + 1, 2, none⟩) (by (try simp); try omega)]; exact x4_1
 have x5_2 : w2.cell? ⟨w.heap.size + 1, 3, none⟩ = some (.slice sa3 s.log.length sc3) := by rw [hb2.cell (p := ⟨w.heap.size + 1, 3, none⟩) (by (try simp); try omega)]; exact x5_1
 have x6_2 : w2.cell? ⟨w.heap.size + 1 + 1, 0, none⟩ = some (.int .i64 (bn : Int)) := by rw [hb2.cell (p := ⟨w.heap.size + 1 + 1, 0, none⟩) (by (try simp); try omega)]; exact x6_1
 have x7_2 : w2.cell? ⟨w.heap.size + 1 + 1, 1, none⟩ = some (.int .i64 (pn : Int)) := by rw [hb2.cell (p := ⟨w.heap.size + 1 + 1, 1, none⟩) (by (try simp); try omega)]; exact x7_1
 have x8_2 : w2.cell? ⟨w.heap.size + 1 + 1, 2, none⟩ = some (.int .i64 (nth Ta.z s.tasks i).up) := by rw [hb2.cell (p := ⟨w.heap.size + 1 + 1, 2, none⟩) (by (try simp); try omega)]; exact x8_1
 have x9_2 : w2.cell? ⟨w.heap.size + 1 + 1, 3, none⟩ = some (.slice a3 (nth Ta.z s.tasks i).regs.length e3) := by rw [hb2.cell (p := ⟨w.heap.size + 1 + 1, 3, none⟩) (by (try simp); try omega)]; exact x9_1
 have x10_2 : w2.cell? ⟨w.heap.size + 1 + 1, 4, none⟩ = some (.int .i64 0) := by rw [hb2.cell (p := ⟨w.heap.size + 1 + 1, 4, none⟩) (by (try simp); try omega)]; exact x10_1
 have x11_2 : w2.cell? ⟨w.heap.size + 1 + 1, 5, none⟩ = some (.int .i64 0) := by rw [hb2.cell (p := ⟨w.heap.size + 1 + 1, 5, none⟩) (by (try simp); try omega)]; exact x11_1
 have x12_2 : w2.cell? ⟨w.heap.size + 1 + 1, 6, none⟩ = some (.int .i64 (nth Ta.z s.tasks i).at_) := by rw [hb2.cell (p := ⟨w.heap.size + 1 + 1, 6, none⟩) (by (try simp); try omega)]; exact x12_1
 have x13_2 : w2.cell? ⟨w.heap.size + 1 + 1, 7, none⟩ = some (.int .i64 (nth Ta.z s.tasks i).since) := by rw [hb2.cell (p := ⟨w.heap.size + 1 + 1, 7, none⟩) (by (try simp); try omega)]; exact x13_1
 have x14_2 : w2.cell? ⟨w.heap.size + 1 + 1, 8, none⟩ = some (.slice a8 (nth Ta.z s.tasks i).old.length e8) := by rw [hb2.cell (p := ⟨w.heap.size + 1 + 1, 8, none⟩) (by (try simp); try omega)]; exact x14_1
 have x15_2 : w2.cell? ⟨w.heap.size + 1 + 1, 9, none⟩ = some (.slice a9 (nth Ta.z s.tasks i).reads.length e9) := by rw [hb2.cell (p := ⟨w.heap.size + 1 + 1, 9, none⟩) (by (try simp); try omega)]; exact x15_1
 have x16_2 : w2.cell? ⟨w.heap.size + 1 + 1, 10, none⟩ = some (.slice a10 (nth Ta.z s.tasks i).puts.length e10) := by rw [hb2.cell (p := ⟨w.heap.size + 1 + 1, 10, none⟩) (by (try simp); try omega)]; exact x16_1
 have x17_2 : w2.cell? ⟨w.heap.size + 1 + 1, 11, none⟩ = some (.int .i64 (nth Ta.z s.tasks i).when_) := by rw [hb2.cell (p := ⟨w.heap.size + 1 + 1, 11, none⟩) (by (try simp); try omega)]; exact x17_1
 have x18_2 : w2.cell? ⟨w.heap.size + 1 + 1, 12, none⟩ = some (.int .i64 (nth Ta.z s.tasks i).from_) := by rw [hb2.cell (p := ⟨w.heap.size + 1 + 1, 12, none⟩) (by (try simp); try omega)]; exact x18_1
 have z0_2 : w.heap.size < w2.heap.size := by have := hb2.size; (try simp at this); omega
 have z1_2 : w.heap.size + 1 < w2.heap.size := by have := hb2.size; (try simp at this); omega
 have z2_2 : w.heap.size + 1 + 1 < w2.heap.size := by have := hb2.size; (try simp at this); omega
 have HB2 : Hid (Below w.heap.size w w2) := below_then HB1.out (by (try simp); try omega) hb2
 clear hb2 HB1
 clear x0_1 x1_1 x2_1 x3_1 x4_1 x5_1 x6_1 x7_1 x8_1 x9_1 x10_1 x11_1 x12_1 x13_1 x14_1 x15_1 x16_1 x17_1 x18_1 z0_1 z1_1 z2_1
 cases l1 : puB (nth Ta.z s.tasks i).puts s.cells.length
 . have HF : Hid (mTkB p s i = false) := by unfold Hid; rw [HFF.out, HL.out, R0.out, R1.out, L0.out, l1]; simp
   clear l1
   go_wp2_with fail
   go_ret
   exact ⟨by rw [HF.out]; rfl, HB2.out⟩
 have L1 := (show Hid (_ = _) from l1)
 clear l1
 have HF2 : Hid (mTkB p s i = (mNoB (nth Ta.z s.tasks i) && (mWhB (nth Ta.z s.tasks i) s && (upfB s i && mActB p s i)))) := by
   unfold Hid; rw [HFF.out, HL.out, R0.out, R1.out, L0.out, L1.out]; simp only [Bool.true_and, Bool.and_assoc]
 clear HFF HL R0 R1 L0 L1 hwb
 by_cases ha : (nth Ta.z s.tasks i).at_ = 0
 case neg =>
   have HF : Hid (mTkB p s i = false) := by unfold Hid; rw [HF2.out]; unfold mNoB; rw [decide_eq_true hst, decide_eq_false ha]; rfl
   go_wp2_with fail
   go_ret
   exact ⟨by rw [HF.out]; rfl, HB2.out⟩
 by_cases hu : (nth Ta.z s.tasks i).reads.length + (nth Ta.z s.tasks i).puts.length = 0
 case neg =>
   have hu' : (((nth Ta.z s.tasks i).reads.length : Int) + ((nth Ta.z s.tasks i).puts.length : Int) == 0) = false := by simp; omega
   have HF : Hid (mTkB p s i = false) := by unfold Hid; rw [HF2.out]; unfold mNoB; rw [decide_eq_true hst, decide_eq_false hu]; simp
   clear hu
   go_wp2_with fail
   go_ret
   exact ⟨by rw [HF.out]; rfl, HB2.out⟩
 have hu' : (((nth Ta.z s.tasks i).reads.length : Int) + ((nth Ta.z s.tasks i).puts.length : Int) == 0) = true := by simp; omega
 have HF3 : Hid (mTkB p s i = (mWhB (nth Ta.z s.tasks i) s && (upfB s i && mActB p s i))) := by unfold Hid; rw [HF2.out]; unfold mNoB; rw [decide_eq_true ha, decide_eq_true hu]; simp
 clear hu HF2
 go_wp2_with fail
 refine (l12Times_bp (nth Ta.z s.tasks i) _ _ _ _ _ _ _ _ s _ _ _ _ _ _ _ HS.out h0 h200 hll hb hpc hw hst ha).mono ?_
 rintro e w3 ⟨rfl, hb3⟩
 have x0_3 : w3.cell? ⟨w.heap.size, 0, none⟩ = some (.slice pa0 p.cells.length pc0) := by rw [hb3.cell (p := ⟨w.heap.size, 0, none⟩) (by (try simp); try omega)]; exact x0_2
 have x1_3 : w3.cell? ⟨w.heap.size, 1, none⟩ = some (.slice (some ⟨b2, off2, none⟩) p.bodies.length pc1) := by rw [hb3.cell (p := ⟨w.heap.size, 1, none⟩) (by (try simp); try omega)]; exact x1_2
 have x2_3 : w3.cell? ⟨w.heap.size + 1, 0, none⟩ = some (.slice sa0 s.cells.length sc0) := by rw [hb3.cell (p := ⟨w.heap.size + 1, 0, none⟩) (by (try simp); try omega)]; exact x2_2
 have x3_3 : w3.cell? ⟨w.heap.size + 1, 1, none⟩ = some (.slice (some ⟨b, off, none⟩) s.tasks.length sc1) := by rw [hb3.cell (p := ⟨w.heap.size + 1, 1, none⟩) (by (try simp); try omega)]; exact x3_2
 have x4_3 : w3.cell? ⟨w.heap.size + 1, 2, none⟩ = some (.int .i64 s.clock) := by rw [hb3.cell (p := ⟨w.heap.size + 1, 2, none⟩) (by (try simp); try omega)]; exact x4_2
 have x5_3 : w3.cell? ⟨w.heap.size + 1, 3, none⟩ = some (.slice sa3 s.log.length sc3) := by rw [hb3.cell (p := ⟨w.heap.size + 1, 3, none⟩) (by (try simp); try omega)]; exact x5_2
 have x6_3 : w3.cell? ⟨w.heap.size + 1 + 1, 0, none⟩ = some (.int .i64 (bn : Int)) := by rw [hb3.cell (p := ⟨w.heap.size + 1 + 1, 0, none⟩) (by (try simp); try omega)]; exact x6_2
 have x7_3 : w3.cell? ⟨w.heap.size + 1 + 1, 1, none⟩ = some (.int .i64 (pn : Int)) := by rw [hb3.cell (p := ⟨w.heap.size + 1 + 1, 1, none⟩) (by (try simp); try omega)]; exact x7_2
 have x8_3 : w3.cell? ⟨w.heap.size + 1 + 1, 2, none⟩ = some (.int .i64 (nth Ta.z s.tasks i).up) := by rw [hb3.cell (p := ⟨w.heap.size + 1 + 1, 2, none⟩) (by (try simp); try omega)]; exact x8_2
 have x9_3 : w3.cell? ⟨w.heap.size + 1 + 1, 3, none⟩ = some (.slice a3 (nth Ta.z s.tasks i).regs.length e3) := by rw [hb3.cell (p := ⟨w.heap.size + 1 + 1, 3, none⟩) (by (try simp); try omega)]; exact x9_2
 have x10_3 : w3.cell? ⟨w.heap.size + 1 + 1, 4, none⟩ = some (.int .i64 0) := by rw [hb3.cell (p := ⟨w.heap.size + 1 + 1, 4, none⟩) (by (try simp); try omega)]; exact x10_2
 have x11_3 : w3.cell? ⟨w.heap.size + 1 + 1, 5, none⟩ = some (.int .i64 0) := by rw [hb3.cell (p := ⟨w.heap.size + 1 + 1, 5, none⟩) (by (try simp); try omega)]; exact x11_2
 have x12_3 : w3.cell? ⟨w.heap.size + 1 + 1, 6, none⟩ = some (.int .i64 (nth Ta.z s.tasks i).at_) := by rw [hb3.cell (p := ⟨w.heap.size + 1 + 1, 6, none⟩) (by (try simp); try omega)]; exact x12_2
 have x13_3 : w3.cell? ⟨w.heap.size + 1 + 1, 7, none⟩ = some (.int .i64 (nth Ta.z s.tasks i).since) := by rw [hb3.cell (p := ⟨w.heap.size + 1 + 1, 7, none⟩) (by (try simp); try omega)]; exact x13_2
 have x14_3 : w3.cell? ⟨w.heap.size + 1 + 1, 8, none⟩ = some (.slice a8 (nth Ta.z s.tasks i).old.length e8) := by rw [hb3.cell (p := ⟨w.heap.size + 1 + 1, 8, none⟩) (by (try simp); try omega)]; exact x14_2
 have x15_3 : w3.cell? ⟨w.heap.size + 1 + 1, 9, none⟩ = some (.slice a9 (nth Ta.z s.tasks i).reads.length e9) := by rw [hb3.cell (p := ⟨w.heap.size + 1 + 1, 9, none⟩) (by (try simp); try omega)]; exact x15_2
 have x16_3 : w3.cell? ⟨w.heap.size + 1 + 1, 10, none⟩ = some (.slice a10 (nth Ta.z s.tasks i).puts.length e10) := by rw [hb3.cell (p := ⟨w.heap.size + 1 + 1, 10, none⟩) (by (try simp); try omega)]; exact x16_2
 have x17_3 : w3.cell? ⟨w.heap.size + 1 + 1, 11, none⟩ = some (.int .i64 (nth Ta.z s.tasks i).when_) := by rw [hb3.cell (p := ⟨w.heap.size + 1 + 1, 11, none⟩) (by (try simp); try omega)]; exact x17_2
 have x18_3 : w3.cell? ⟨w.heap.size + 1 + 1, 12, none⟩ = some (.int .i64 (nth Ta.z s.tasks i).from_) := by rw [hb3.cell (p := ⟨w.heap.size + 1 + 1, 12, none⟩) (by (try simp); try omega)]; exact x18_2
 have z0_3 : w.heap.size < w3.heap.size := by have := hb3.size; (try simp at this); omega
 have z1_3 : w.heap.size + 1 < w3.heap.size := by have := hb3.size; (try simp at this); omega
 have z2_3 : w.heap.size + 1 + 1 < w3.heap.size := by have := hb3.size; (try simp at this); omega
 have HB3 : Hid (Below w.heap.size w w3) := below_then HB2.out HB2.out.size hb3
 clear hb3 HB2
 clear x0_2 x1_2 x2_2 x3_2 x4_2 x5_2 x6_2 x7_2 x8_2 x9_2 x10_2 x11_2 x12_2 x13_2 x14_2 x15_2 x16_2 x17_2 x18_2 z0_2 z1_2 z2_2
 cases t1 : mWhB (nth Ta.z s.tasks i) s
 . have HF : Hid (mTkB p s i = false) := by unfold Hid; rw [HF3.out, t1]; rfl
   clear t1
   go_wp2_with fail
   go_ret
   exact ⟨by rw [HF.out]; rfl, HB3.out⟩
 have T1 := (show Hid (_ = _) from t1)
 clear t1
 go_wp2_with fail
 refine (l12Up_any s _ _ _ _ _ _ i _ (TasAt.mono HT.out HB3.out) hi).mono ?_
 rintro e w4 ⟨rfl, hb4⟩
 have x0_4 : w4.cell? ⟨w.heap.size, 0, none⟩ = some (.slice pa0 p.cells.length pc0) := by rw [hb4.cell (p := ⟨w.heap.size, 0, none⟩) (by (try simp); try omega)]; exact x0_3
 have x1_4 : w4.cell? ⟨w.heap.size, 1, none⟩ = some (.slice (some ⟨b2, off2, none⟩) p.bodies.length pc1) := by rw [hb4.cell (p := ⟨w.heap.size, 1, none⟩) (by (try simp); try omega)]; exact x1_3
 have x2_4 : w4.cell? ⟨w.heap.size + 1, 0, none⟩ = some (.slice sa0 s.cells.length sc0) := by rw [hb4.cell (p := ⟨w.heap.size + 1, 0, none⟩) (by (try simp); try omega)]; exact x2_3
 have x3_4 : w4.cell? ⟨w.heap.size + 1, 1, none⟩ = some (.slice (some ⟨b, off, none⟩) s.tasks.length sc1) := by rw [hb4.cell (p := ⟨w.heap.size + 1, 1, none⟩) (by (try simp); try omega)]; exact x3_3
 have x4_4 : w4.cell? ⟨w.heap.size + 1, 2, none⟩ = some (.int .i64 s.clock) := by rw [hb4.cell (p := ⟨w.heap.size + 1, 2, none⟩) (by (try simp); try omega)]; exact x4_3
 have x5_4 : w4.cell? ⟨w.heap.size + 1, 3, none⟩ = some (.slice sa3 s.log.length sc3) := by rw [hb4.cell (p := ⟨w.heap.size + 1, 3, none⟩) (by (try simp); try omega)]; exact x5_3
 have x6_4 : w4.cell? ⟨w.heap.size + 1 + 1, 0, none⟩ = some (.int .i64 (bn : Int)) := by rw [hb4.cell (p := ⟨w.heap.size + 1 + 1, 0, none⟩) (by (try simp); try omega)]; exact x6_3
 have x7_4 : w4.cell? ⟨w.heap.size + 1 + 1, 1, none⟩ = some (.int .i64 (pn : Int)) := by rw [hb4.cell (p := ⟨w.heap.size + 1 + 1, 1, none⟩) (by (try simp); try omega)]; exact x7_3
 have x8_4 : w4.cell? ⟨w.heap.size + 1 + 1, 2, none⟩ = some (.int .i64 (nth Ta.z s.tasks i).up) := by rw [hb4.cell (p := ⟨w.heap.size + 1 + 1, 2, none⟩) (by (try simp); try omega)]; exact x8_3
 have x9_4 : w4.cell? ⟨w.heap.size + 1 + 1, 3, none⟩ = some (.slice a3 (nth Ta.z s.tasks i).regs.length e3) := by rw [hb4.cell (p := ⟨w.heap.size + 1 + 1, 3, none⟩) (by (try simp); try omega)]; exact x9_3
 have x10_4 : w4.cell? ⟨w.heap.size + 1 + 1, 4, none⟩ = some (.int .i64 0) := by rw [hb4.cell (p := ⟨w.heap.size + 1 + 1, 4, none⟩) (by (try simp); try omega)]; exact x10_3
 have x11_4 : w4.cell? ⟨w.heap.size + 1 + 1, 5, none⟩ = some (.int .i64 0) := by rw [hb4.cell (p := ⟨w.heap.size + 1 + 1, 5, none⟩) (by (try simp); try omega)]; exact x11_3
 have x12_4 : w4.cell? ⟨w.heap.size + 1 + 1, 6, none⟩ = some (.int .i64 (nth Ta.z s.tasks i).at_) := by rw [hb4.cell (p := ⟨w.heap.size + 1 + 1, 6, none⟩) (by (try simp); try omega)]; exact x12_3
 have x13_4 : w4.cell? ⟨w.heap.size + 1 + 1, 7, none⟩ = some (.int .i64 (nth Ta.z s.tasks i).since) := by rw [hb4.cell (p := ⟨w.heap.size + 1 + 1, 7, none⟩) (by (try simp); try omega)]; exact x13_3
 have x14_4 : w4.cell? ⟨w.heap.size + 1 + 1, 8, none⟩ = some (.slice a8 (nth Ta.z s.tasks i).old.length e8) := by rw [hb4.cell (p := ⟨w.heap.size + 1 + 1, 8, none⟩) (by (try simp); try omega)]; exact x14_3
 have x15_4 : w4.cell? ⟨w.heap.size + 1 + 1, 9, none⟩ = some (.slice a9 (nth Ta.z s.tasks i).reads.length e9) := by rw [hb4.cell (p := ⟨w.heap.size + 1 + 1, 9, none⟩) (by (try simp); try omega)]; exact x15_3
 have x16_4 : w4.cell? ⟨w.heap.size + 1 + 1, 10, none⟩ = some (.slice a10 (nth Ta.z s.tasks i).puts.length e10) := by rw [hb4.cell (p := ⟨w.heap.size + 1 + 1, 10, none⟩) (by (try simp); try omega)]; exact x16_3
 have x17_4 : w4.cell? ⟨w.heap.size + 1 + 1, 11, none⟩ = some (.int .i64 (nth Ta.z s.tasks i).when_) := by rw [hb4.cell (p := ⟨w.heap.size + 1 + 1, 11, none⟩) (by (try simp); try omega)]; exact x17_3
 have x18_4 : w4.cell? ⟨w.heap.size + 1 + 1, 12, none⟩ = some (.int .i64 (nth Ta.z s.tasks i).from_) := by rw [hb4.cell (p := ⟨w.heap.size + 1 + 1, 12, none⟩) (by (try simp); try omega)]; exact x18_3
 have z0_4 : w.heap.size < w4.heap.size := by have := hb4.size; (try simp at this); omega
 have z1_4 : w.heap.size + 1 < w4.heap.size := by have := hb4.size; (try simp at this); omega
 have z2_4 : w.heap.size + 1 + 1 < w4.heap.size := by have := hb4.size; (try simp at this); omega
 have HB4 : Hid (Below w.heap.size w w4) := below_then HB3.out HB3.out.size hb4
 clear hb4 HB3
 clear x0_3 x1_3 x2_3 x3_3 x4_3 x5_3 x6_3 x7_3 x8_3 x9_3 x10_3 x11_3 x12_3 x13_3 x14_3 x15_3 x16_3 x17_3 x18_3 z0_3 z1_3 z2_3
 cases t2 : upfB s i
 . have HF : Hid (mTkB p s i = false) := by unfold Hid; rw [HF3.out, T1.out, t2]; rfl
   clear t2
   go_wp2_with fail
   go_ret
   exact ⟨by rw [HF.out]; rfl, HB4.out⟩
 have T2 := (show Hid (_ = _) from t2)
 clear t2
 go_wp2_with fail
 refine (l12Act_any p _ _ _ _ s _ _ _ _ _ _ i bn pn _ (PrAt.mono HP.out HB4.out) (TasAt.mono HT.out HB4.out) hi hb hbn hpc hpn hn7 HS.out nr nu).mono ?_
 rintro e w5 ⟨rfl, hb5⟩
 have HB5 : Hid (Below w.heap.size w w5) := below_then HB4.out HB4.out.size hb5
 clear hb5 HB4
 clear x0_4 x1_4 x2_4 x3_4 x4_4 x5_4 x6_4 x7_4 x8_4 x9_4 x10_4 x11_4 x12_4 x13_4 x14_4 x15_4 x16_4 x17_4 x18_4 z0_4 z1_4 z2_4
 have HF : Hid (mTkB p s i = mActB p s i) := by unfold Hid; rw [HF3.out, T1.out, T2.out]; rfl
 . go_wp2_with fail
   go_ret
   exact ⟨by rw [HF.out]; rfl, HB5.out⟩
end Go.Proofs.Ytgbgjljflgbcaaa
