import Derived.Test.YtgbgjljflgbcaaaSo45
import Derived.Test.YtgbgjljflgbcaaaSo05
import Derived.Test.YtgbgjljflgbcaaaSo01
import Derived.Test.YtgbgjljflgbcaaaSo46
import Derived.Test.YtgbgjljflgbcaaaSo47
import Derived.Test.YtgbgjljflgbcaaaSo37
import Derived.Test.YtgbgjljflgbcaaaSo06
import Derived.Test.YtgbgjljflgbcaaaSo41
namespace Go.Proofs.Ytgbgjljflgbcaaa
set_option maxHeartbeats 8000000
open Go.RowKit
set_option linter.unusedSimpArgs false
set_option linter.unusedVariables false
set_option maxRecDepth 20000
theorem logInForm_any (p : Pr) (pa0 pa1 : Option Addr) (pc0 pc1 : Nat) (s : Sy) (sa0 sa1 sa3 : Option Addr) (sc0 sc1 sc3 : Nat) (w : World) (hp : PrAt w (.slice pa0 p.cells.length pc0) (.slice pa1 p.bodies.length pc1) p) (hT : TasAt w (.slice sa1 s.tasks.length sc1) s.tasks) (hE : EnsAt w (.slice sa3 s.log.length sc3) s.log) (hbd : ∀ i, i < s.tasks.length -> ∃ bn : Nat, (nth Ta.z s.tasks i).body = (bn : Int) /\ bn < p.bodies.length) :
   Calls Try.prog 42 #[.agg #[.slice pa0 p.cells.length pc0, .slice pa1 p.bodies.length pc1], .agg #[.slice sa0 s.cells.length sc0, .slice sa1 s.tasks.length sc1, .int .i64 s.clock, .slice sa3 s.log.length sc3]] w fun r w' => r = .returned (.bool (lgB p s)) /\ Below w.heap.size w w' := by
 have HP := (show Hid (PrAt _ _ _ _) from hp)
 have HT := (show Hid (TasAt _ _ _) from hT)
 have HBD := (show Hid (∀ i, i < s.tasks.length -> _) from hbd)
 obtain ⟨a, cap, e, hm, hc⟩ := hE
 injection e with e1 e2 e3
 subst e1 e3
 clear hp hT hbd e2
 go_enter Try.func42, Try.ntmps42
 go_wp2_with fail
 go_loopw [10] (fun q w' => ∃ k : Nat, k <= s.log.length /\ q = .int .i64 k /\ Below (w.heap.size + 2) ((w.alloc (.cells #[.slice pa0 p.cells.length pc0, .slice pa1 p.bodies.length pc1] 26)).alloc (.cells #[.slice sa0 s.cells.length sc0, .slice sa1 s.tasks.length sc1, .int .i64 s.clock, .slice sa3 s.log.length sc3] 32)) w' /\ (∀ j, j < k -> enB p s j = true)) (fun q _ => s.log.length - (intOf q).toNat)
 case atStart => exact ⟨0, Nat.zero_le _, rfl, Below.refl _ _, fun j hj => absurd hj (Nat.not_lt_zero _)⟩
 case round =>
   obtain ⟨k, hk, rfl, hb, hall⟩ := hrel
   have hbw : Below w.heap.size w wr := below_then bq0 (by (try simp); try omega) (hb.mono (by simp))
   have hsz : w.heap.size + 2 <= wr.heap.size := by have := hb.size; simpa using this
   have z0 : w.heap.size < wr.heap.size := by omega
   have z1 : w.heap.size + 1 < wr.heap.size := by omega
   have b00 : wr.cell? ⟨w.heap.size, 0, none⟩ = some (.slice pa0 p.cells.length pc0) := by rw [hb.cell (p := ⟨w.heap.size, 0, none⟩) (by simp)]; simp [go_sem]
   have b01 : wr.cell? ⟨w.heap.size, 1, none⟩ = some (.slice pa1 p.bodies.length pc1) := by rw [hb.cell (p := ⟨w.heap.size, 1, none⟩) (by simp)]; simp [go_sem]
   have b11 : wr.cell? ⟨w.heap.size + 1, 1, none⟩ = some (.slice sa1 s.tasks.length sc1) := by rw [hb.cell (p := ⟨w.heap.size + 1, 1, none⟩) (by simp)]; simp [go_sem]
   have b12 : wr.cell? ⟨w.heap.size + 1, 2, none⟩ = some (.int .i64 s.clock) := by rw [hb.cell (p := ⟨w.heap.size + 1, 2, none⟩) (by simp)]; simp [go_sem]
   have HB := (show Hid (Below (w.heap.size + 2) _ wr) from hb)
   have HBW := (show Hid (Below w.heap.size w wr) from hbw)
   by_cases hlt : k < s.log.length
   . have hlt' : (k : Int) < (s.log.length : Int) := by omega
     obtain ⟨b, off, v3, v4, rfl, hbb, c0, c1, c2, c3, c4, c5, h3, h4⟩ := hc k hlt
     rw [<- hbw.cell (p := ⟨b, _, none⟩) hbb] at c0 c1 c2 c3 c4 c5
     have hbr : b < wr.heap.size := by have := hbw.size; omega
     obtain ⟨a3, e3, rfl, _⟩ := h3.shape
     obtain ⟨a4, e4, rfl, _⟩ := h4.shape
     have H3 := (show Hid (PusAt _ _ _) from h3)
     have H4 := (show Hid (PusAt _ _ _) from h4)
     have HA := (show Hid (∀ j, j < k -> _) from hall)
     have HNO : Hid (enB p s k = false -> lgB p s = false) := fun hf => by unfold lgB; rw [List.all_eq_false]; exact ⟨k, List.mem_range.2 hlt, by simp [hf]⟩
     clear h3 h4 hall hb
     cases g1 : plB (nth En.z s.log k).task s.tasks.length
     . have HN : Hid (lgB p s = false) := HNO.out (by unfold enB enN; simp [g1])
       have G1 := (show Hid (_ = _) from g1)
       clear g1 hc hbw
       go_wp2_with fail
       go_quiet ((go_at_call 45; with_reducible exact Calls.quiet_of_same (isPlace_b G1.out _)))
       go_wp2_with fail
       go_ret
       exact ⟨by rw [HN.out]; rfl, (bqx HBW.out)⟩
     obtain ⟨tn, htn⟩ : ∃ tn : Nat, (nth En.z s.log k).task = (tn : Int) := ⟨(nth En.z s.log k).task.toNat, by rw [plB] at g1; simp at g1; omega⟩
     have htl : tn < s.tasks.length := by rw [plB] at g1; simp at g1; omega
     have htl' : (tn : Int) < (s.tasks.length : Int) := by omega
     have g1' : plB (tn : Int) s.tasks.length = true := by rw [<- htn]; exact g1
     have G1 := (show Hid (_ = _) from g1')
     have HG1 := (show Hid (_ = _) from g1)
     obtain ⟨bn, hbn, hbl⟩ := HBD.out tn htl
     have hbl' : (bn : Int) < (p.bodies.length : Int) := by omega
     obtain ⟨ta, tcap, te, thm, thc⟩ := HT.out
     injection te with te1 te2 te3
     subst te1 te3
     obtain ⟨b2, off2, w3, w8, w9, w10, rfl, hbx, d0, _⟩ := thc tn htl
     obtain ⟨pa, pcap, pe, phm, phc⟩ := HP.out.2
     injection pe with pe1 pe2 pe3
     subst pe1 pe3
     obtain ⟨b3, off3, av, rfl, hby, f0, ha⟩ := phc bn hbl
     obtain ⟨aa, aac, rfl, hma, _⟩ := ha
     rw [<- hbw.cell (p := ⟨b2, _, none⟩) hbx] at d0
     rw [<- hbw.cell (p := ⟨b3, _, none⟩) hby] at f0
     have hbx' : b2 < wr.heap.size := by have := hbw.size; omega
     have hby' : b3 < wr.heap.size := by have := hbw.size; omega
     have HACT : Hid ((acts p (tkN s (enN s k).task.toNat)).length = (nth [] p.bodies bn).length) := by
       unfold Hid acts tkN enN; rw [htn, Int.toNat_natCast, hbn]; rfl
     clear g1 g1' hc thc phc te2 pe2 hbw
     cases g2 : plB (nth En.z s.log k).act (nth [] p.bodies bn).length
     . have HN : Hid (lgB p s = false) := HNO.out (by unfold enB; rw [HACT.out]; unfold enN; simp [g2])
       have G2 := (show Hid (_ = _) from g2)
       clear g2
       go_wp2_with fail
       go_quiet ((first | (go_at_call 45; with_reducible exact Calls.quiet_of_same (isPlace_b G1.out _)) | (go_at_call 45; with_reducible exact Calls.quiet_of_same (isPlace_b G2.out _))))
       go_wp2_with fail
       go_ret
       exact ⟨by rw [HN.out]; rfl, (bqx HBW.out)⟩
     have G2 := (show Hid (_ = _) from g2)
     clear g2
     cases g3 : inB (nth En.z s.log k).when_ 0 s.clock
     . have HN : Hid (lgB p s = false) := HNO.out (by unfold enB enN; simp [g3])
       have G3 := (show Hid (_ = _) from g3)
       clear g3
       go_wp2_with fail
       go_quiet ((first | (go_at_call 45; with_reducible exact Calls.quiet_of_same (isPlace_b G1.out _)) | (go_at_call 45; with_reducible exact Calls.quiet_of_same (isPlace_b G2.out _))))
       go_wp2_with fail
       refine (isUpTo_b G3.out _).mono ?_
       rintro e wq ⟨rfl, hw⟩
       have hw := hw.symm
       subst hw
       go_wp2_with fail
       go_ret
       exact ⟨by rw [HN.out]; rfl, (bqx HBW.out)⟩
     have G3 := (show Hid (_ = _) from g3)
     clear g3
     cases g4 : inB (nth En.z s.log k).from_ 0 k
     . have HN : Hid (lgB p s = false) := HNO.out (by unfold enB enN; simp [g4])
       have G4 := (show Hid (_ = _) from g4)
       clear g4
       go_wp2_with fail
       go_quiet ((first | (go_at_call 45; with_reducible exact Calls.quiet_of_same (isPlace_b G1.out _)) | (go_at_call 45; with_reducible exact Calls.quiet_of_same (isPlace_b G2.out _))))
       go_wp2_with fail
       refine (isUpTo_b G3.out _).mono ?_
       rintro e wq ⟨rfl, hw⟩
       have hw := hw.symm
       subst hw
       go_wp2_with fail
       refine (isUpTo_b G4.out _).mono ?_
       rintro e wq ⟨rfl, hw⟩
       have hw := hw.symm
       subst hw
       go_wp2_with fail
       go_ret
       exact ⟨by rw [HN.out]; rfl, (bqx HBW.out)⟩
     have G4 := (show Hid (_ = _) from g4)
     clear g4
     cases g5 : puB (nth En.z s.log k).reads p.cells.length
     . have HN : Hid (lgB p s = false) := HNO.out (by unfold enB enN; simp [g5])
       have G5 := (show Hid (_ = _) from g5)
       clear g5
       go_wp2_with fail
       go_quiet ((first | (go_at_call 45; with_reducible exact Calls.quiet_of_same (isPlace_b G1.out _)) | (go_at_call 45; with_reducible exact Calls.quiet_of_same (isPlace_b G2.out _))))
       go_wp2_with fail
       refine (isUpTo_b G3.out _).mono ?_
       rintro e wq ⟨rfl, hw⟩
       have hw := hw.symm
       subst hw
       go_wp2_with fail
       refine (isUpTo_b G4.out _).mono ?_
       rintro e wq ⟨rfl, hw⟩
       have hw := hw.symm
       subst hw
       go_wp2_with fail
       refine (puts_b G5.out _ (by exact PusAt.mono H3.out (bqx HBW.out))).mono ?_
       rintro e w1 ⟨rfl, hc1⟩
       have HW1 : Hid (Below w.heap.size w w1) := below_then (bqx HBW.out) (by (try simp); try omega) hc1
       have HV1 : Hid (Below (w.heap.size + 2) ((w.alloc (.cells #[.slice pa0 p.cells.length pc0, .slice (some ⟨b3, off3, none⟩) p.bodies.length pc1] 26)).alloc (.cells #[.slice sa0 s.cells.length sc0, .slice (some ⟨b2, off2, none⟩) s.tasks.length sc1, .int .i64 s.clock, .slice (some ⟨b, off, none⟩) s.log.length sc3] 32)) w1) := below_then (bqx HB.out) (by (try simp); try omega) hc1
       obtain ⟨hx1, hy1⟩ := bcell hc1
       have t1a : w.heap.size < w1.heap.size := by have := hc1.size; (try simp at this); omega
       have t1b : w.heap.size + 1 < w1.heap.size := by have := hc1.size; (try simp at this); omega
       have t1d : wr.heap.size < w1.heap.size := by have := hc1.size; (try simp at this); omega
       have hsz1 := HW1.out.size
       clear hc1 hy1
       go_wp2_with fail
       go_ret
       exact ⟨by rw [HN.out]; rfl, (bqx HW1.out)⟩
     have G5 := (show Hid (_ = _) from g5)
     clear g5
     cases g6 : puB (nth En.z s.log k).puts p.cells.length
     . have HN : Hid (lgB p s = false) := HNO.out (by unfold enB enN; simp [g6])
       have G6 := (show Hid (_ = _) from g6)
       clear g6
       go_wp2_with fail
       go_quiet ((first | (go_at_call 45; with_reducible exact Calls.quiet_of_same (isPlace_b G1.out _)) | (go_at_call 45; with_reducible exact Calls.quiet_of_same (isPlace_b G2.out _))))
       go_wp2_with fail
       refine (isUpTo_b G3.out _).mono ?_
       rintro e wq ⟨rfl, hw⟩
       have hw := hw.symm
       subst hw
       go_wp2_with fail
       refine (isUpTo_b G4.out _).mono ?_
       rintro e wq ⟨rfl, hw⟩
       have hw := hw.symm
       subst hw
       go_wp2_with fail
       refine (puts_b G5.out _ (by exact PusAt.mono H3.out (bqx HBW.out))).mono ?_
       rintro e w1 ⟨rfl, hc1⟩
       have HW1 : Hid (Below w.heap.size w w1) := below_then (bqx HBW.out) (by (try simp); try omega) hc1
       have HV1 : Hid (Below (w.heap.size + 2) ((w.alloc (.cells #[.slice pa0 p.cells.length pc0, .slice (some ⟨b3, off3, none⟩) p.bodies.length pc1] 26)).alloc (.cells #[.slice sa0 s.cells.length sc0, .slice (some ⟨b2, off2, none⟩) s.tasks.length sc1, .int .i64 s.clock, .slice (some ⟨b, off, none⟩) s.log.length sc3] 32)) w1) := below_then (bqx HB.out) (by (try simp); try omega) hc1
       obtain ⟨hx1, hy1⟩ := bcell hc1
       have t1a : w.heap.size < w1.heap.size := by have := hc1.size; (try simp at this); omega
       have t1b : w.heap.size + 1 < w1.heap.size := by have := hc1.size; (try simp at this); omega
       have t1d : wr.heap.size < w1.heap.size := by have := hc1.size; (try simp at this); omega
       have hsz1 := HW1.out.size
       clear hc1 hy1
       go_wp2_with fail
       refine (puts_b G6.out _ (by exact PusAt.mono H4.out (bqx HW1.out))).mono ?_
       rintro e w2 ⟨rfl, hc2⟩
       have HW2 : Hid (Below w.heap.size w w2) := below_then (bqx HW1.out) (by (try simp); try omega) hc2
       have HV2 : Hid (Below (w.heap.size + 2) ((w.alloc (.cells #[.slice pa0 p.cells.length pc0, .slice (some ⟨b3, off3, none⟩) p.bodies.length pc1] 26)).alloc (.cells #[.slice sa0 s.cells.length sc0, .slice (some ⟨b2, off2, none⟩) s.tasks.length sc1, .int .i64 s.clock, .slice (some ⟨b, off, none⟩) s.log.length sc3] 32)) w2) := below_then (bqx HV1.out) (by (try simp); try omega) hc2
       obtain ⟨hx2, hy2⟩ := bcell hc2
       have t2a : w.heap.size < w2.heap.size := by have := hc2.size; (try simp at this); omega
       have t2b : w.heap.size + 1 < w2.heap.size := by have := hc2.size; (try simp at this); omega
       have t2d : wr.heap.size < w2.heap.size := by have := hc2.size; (try simp at this); omega
       have hsz2 := HW2.out.size
       clear hc2 hy2
       go_wp2_with fail
       go_ret
       exact ⟨by rw [HN.out]; rfl, (bqx HW2.out)⟩
     have G6 := (show Hid (_ = _) from g6)
     clear g6
     have HA1 : Hid (∀ j, j < k + 1 -> enB p s j = true) := so_far HA.out (by
       unfold enB; rw [HACT.out]; unfold enN; rw [HG1.out, G2.out, G3.out, G4.out, G5.out, G6.out]; rfl)
     go_wp2_with fail
     go_quiet ((first | (go_at_call 45; with_reducible exact Calls.quiet_of_same (isPlace_b G1.out _)) | (go_at_call 45; with_reducible exact Calls.quiet_of_same (isPlace_b G2.out _))))
     go_wp2_with fail
     refine (isUpTo_b G3.out _).mono ?_
     rintro e wq ⟨rfl, hw⟩
     have hw := hw.symm
     subst hw
     go_wp2_with fail
     refine (isUpTo_b G4.out _).mono ?_
     rintro e wq ⟨rfl, hw⟩
     have hw := hw.symm
     subst hw
     go_wp2_with fail
     refine (puts_b G5.out _ (by exact PusAt.mono H3.out (bqx HBW.out))).mono ?_
     rintro e w1 ⟨rfl, hc1⟩
     have HW1 : Hid (Below w.heap.size w w1) := below_then (bqx HBW.out) (by (try simp); try omega) hc1
     have HV1 : Hid (Below (w.heap.size + 2) ((w.alloc (.cells #[.slice pa0 p.cells.length pc0, .slice (some ⟨b3, off3, none⟩) p.bodies.length pc1] 26)).alloc (.cells #[.slice sa0 s.cells.length sc0, .slice (some ⟨b2, off2, none⟩) s.tasks.length sc1, .int .i64 s.clock, .slice (some ⟨b, off, none⟩) s.log.length sc3] 32)) w1) := below_then (bqx HB.out) (by (try simp); try omega) hc1
     obtain ⟨hx1, hy1⟩ := bcell hc1
     have t1a : w.heap.size < w1.heap.size := by have := hc1.size; (try simp at this); omega
     have t1b : w.heap.size + 1 < w1.heap.size := by have := hc1.size; (try simp at this); omega
     have t1d : wr.heap.size < w1.heap.size := by have := hc1.size; (try simp at this); omega
     have hsz1 := HW1.out.size
     clear hc1 hy1
     go_wp2_with fail
     refine (puts_b G6.out _ (by exact PusAt.mono H4.out (bqx HW1.out))).mono ?_
     rintro e w2 ⟨rfl, hc2⟩
     have HW2 : Hid (Below w.heap.size w w2) := below_then (bqx HW1.out) (by (try simp); try omega) hc2
     have HV2 : Hid (Below (w.heap.size + 2) ((w.alloc (.cells #[.slice pa0 p.cells.length pc0, .slice (some ⟨b3, off3, none⟩) p.bodies.length pc1] 26)).alloc (.cells #[.slice sa0 s.cells.length sc0, .slice (some ⟨b2, off2, none⟩) s.tasks.length sc1, .int .i64 s.clock, .slice (some ⟨b, off, none⟩) s.log.length sc3] 32)) w2) := below_then (bqx HV1.out) (by (try simp); try omega) hc2
     obtain ⟨hx2, hy2⟩ := bcell hc2
     have t2a : w.heap.size < w2.heap.size := by have := hc2.size; (try simp at this); omega
     have t2b : w.heap.size + 1 < w2.heap.size := by have := hc2.size; (try simp at this); omega
     have t2d : wr.heap.size < w2.heap.size := by have := hc2.size; (try simp at this); omega
     have hsz2 := HW2.out.size
     clear hc2 hy2
     go_wp2_with fail
     go_roundw
     case rel => exact ⟨k + 1, by omega, by go_num, (bqx HV2.out), HA1.out⟩
     case measure => simp [intOf]; omega
   . have HN : Hid (lgB p s = true) := by unfold Hid lgB; rw [List.all_eq_true]; intro j hj; exact hall j (by have := List.mem_range.1 hj; omega)
     clear hc hall hb
     go_wp2_with fail
     go_ret
     exact ⟨by rw [HN.out]; rfl, HBW.out⟩

set_option maxRecDepth 20000
theorem tksB_all {p : Pr} {s : Sy} (h : tksB p s = true) : ∀ i, i < s.tasks.length -> tkB p s i = true := fun i hi => by
 unfold tksB at h
 simp only [Bool.and_eq_true, List.all_eq_true, List.mem_range] at h
 exact h.2 i hi
theorem tkB_hold {p : Pr} {s : Sy} {i : Nat} (hc : s.cells.length = p.cells.length) (h : tkB p s i = true) : ((nth Ta.z s.tasks i).stage = 0 \/ (nth Ta.z s.tasks i).stage = 1 \/ (nth Ta.z s.tasks i).stage = 2 \/ (nth Ta.z s.tasks i).stage = 3 \/ (nth Ta.z s.tasks i).stage = 4 \/ (nth Ta.z s.tasks i).stage = 5) /\ ((nth Ta.z s.tasks i).stage = 2 \/ (nth Ta.z s.tasks i).stage = 5 -> ∃ n : Nat, (nth Ta.z s.tasks i).at_ = (n : Int) /\ n < (nth Ta.z s.tasks i).puts.length) /\ CellsOk (phL (nth Ta.z s.tasks i)) s.cells.length := by
 have hp := tkB_puts h
 have ht : tnB p (tkN s i) = true := by unfold tkB at h; simp only [Bool.and_eq_true] at h; exact h.1.1.1
 obtain ⟨_, _, _, _, _, _, hs⟩ := tnB_parts ht
 refine ⟨hs, fun h25 => ?_, ?_⟩
 . have ha : atB (tkN s i) (acN p (tkN s i)).ds.length = true := by
     unfold tkB cgB at h
     simp only [Bool.and_eq_true] at h
     exact h.2.2.2.2.1
   have h0 := hp.2
   unfold atB at ha
   split at ha
   . cases ha
   . split at ha
     . rename_i e; change (nth Ta.z s.tasks i).stage = 1 at e; omega
     . split at ha
       . rw [plB_iff'] at ha
         have ha1 : 0 <= (nth Ta.z s.tasks i).at_ := h0
         have ha2 : (nth Ta.z s.tasks i).at_ < ((nth Ta.z s.tasks i).puts.length : Int) := ha.2
         exact ⟨(nth Ta.z s.tasks i).at_.toNat, by omega, by omega⟩
       . rename_i e; exact absurd h25 e
 . have := hp.1
   rw [<- hc] at this
   exact cellsOk_ph this
theorem progOk_b (p : Pr) (pa0 pa1 : Option Addr) (pc0 pc1 : Nat) {bb : Bool} (w : World) (hp : PrAt w (.slice pa0 p.cells.length pc0) (.slice pa1 p.bodies.length pc1) p) (h : okB p = bb) : Calls Try.prog 35 #[.agg #[.slice pa0 p.cells.length pc0, .slice pa1 p.bodies.length pc1]] w fun r w' => r = .returned (.bool bb) /\ Below w.heap.size w w' := by
 subst h; exact progOk_any p _ _ w hp.1 hp.2
theorem tasks_b (p : Pr) (pa0 pa1 : Option Addr) (pc0 pc1 : Nat) (s : Sy) (sa0 sa1 sa3 : Option Addr) (sc0 sc1 sc3 : Nat) {bb : Bool} (w : World) (hp : PrAt w (.slice pa0 p.cells.length pc0) (.slice pa1 p.bodies.length pc1) p) (hT : TasAt w (.slice sa1 s.tasks.length sc1) s.tasks) (hsm : SmsTa s.tasks) (h0 : 0 <= s.clock) (h200 : s.clock <= 200) (h : tksB p s = bb) : Calls Try.prog 40 #[.agg #[.slice pa0 p.cells.length pc0, .slice pa1 p.bodies.length pc1], .agg #[.slice sa0 s.cells.length sc0, .slice sa1 s.tasks.length sc1, .int .i64 s.clock, .slice sa3 s.log.length sc3]] w fun r w' => r = .returned (.bool bb) /\ Below w.heap.size w w' := by
 subst h; exact tasksInForm_any p pa0 pa1 pc0 pc1 s sa0 sa1 sa3 sc0 sc1 sc3 w hp hT hsm h0 h200
theorem cells_b (p : Pr) (pa0 pa1 : Option Addr) (pc0 pc1 : Nat) (s : Sy) (sa0 sa1 sa3 : Option Addr) (sc0 sc1 sc3 : Nat) {bb : Bool} (w : World) (hC : CesAt w (.slice sa0 s.cells.length sc0) s.cells) (hT : TasAt w (.slice sa1 s.tasks.length sc1) s.tasks) (hn : s.cells.length <= 1048576) (hpn : p.cells.length <= 1048576) (h0 : 0 <= s.clock) (h200 : s.clock <= 200) (ht : tksB p s = true) (h : cesB p s = bb) : Calls Try.prog 41 #[.agg #[.slice pa0 p.cells.length pc0, .slice pa1 p.bodies.length pc1], .agg #[.slice sa0 s.cells.length sc0, .slice sa1 s.tasks.length sc1, .int .i64 s.clock, .slice sa3 s.log.length sc3]] w fun r w' => r = .returned (.bool bb) /\ Below w.heap.size w w' := by
 subst h; exact sysCellsInForm_any p pa0 pa1 pc0 pc1 s sa0 sa1 sa3 sc0 sc1 sc3 w hC hT hn hpn h0 h200 (fun hc i hi => tkB_hold hc (tksB_all ht i hi))
theorem log_b (p : Pr) (pa0 pa1 : Option Addr) (pc0 pc1 : Nat) (s : Sy) (sa0 sa1 sa3 : Option Addr) (sc0 sc1 sc3 : Nat) {bb : Bool} (w : World) (hp : PrAt w (.slice pa0 p.cells.length pc0) (.slice pa1 p.bodies.length pc1) p) (hT : TasAt w (.slice sa1 s.tasks.length sc1) s.tasks) (hE : EnsAt w (.slice sa3 s.log.length sc3) s.log) (ht : tksB p s = true) (h : lgB p s = bb) : Calls Try.prog 42 #[.agg #[.slice pa0 p.cells.length pc0, .slice pa1 p.bodies.length pc1], .agg #[.slice sa0 s.cells.length sc0, .slice sa1 s.tasks.length sc1, .int .i64 s.clock, .slice sa3 s.log.length sc3]] w fun r w' => r = .returned (.bool bb) /\ Below w.heap.size w w' := by
 subst h
 refine logInForm_any p pa0 pa1 pc0 pc1 s sa0 sa1 sa3 sc0 sc1 sc3 w hp hT hE (fun i hi => ?_)
 have hk := tksB_all ht i hi
 unfold tkB at hk
 simp only [Bool.and_eq_true] at hk
 obtain ⟨bn, _, e1, e2, _⟩ := tnB_parts hk.1.1.1
 exact ⟨bn, e1, e2⟩
theorem sysOk_any (p : Pr) (pa0 pa1 : Option Addr) (pc0 pc1 : Nat) (s : Sy) (sa0 sa1 sa3 : Option Addr) (sc0 sc1 sc3 : Nat) (w : World) (hp : PrAt w (.slice pa0 p.cells.length pc0) (.slice pa1 p.bodies.length pc1) p) (hS : SyAt w (.slice sa0 s.cells.length sc0) (.slice sa1 s.tasks.length sc1) (.slice sa3 s.log.length sc3) s) (hsm : SmSy s) (hpn : p.cells.length <= 1048576) :
   Calls Try.prog 13 #[.agg #[.slice pa0 p.cells.length pc0, .slice pa1 p.bodies.length pc1], .agg #[.slice sa0 s.cells.length sc0, .slice sa1 s.tasks.length sc1, .int .i64 s.clock, .slice sa3 s.log.length sc3]] w fun r w' => r = .returned (.bool (soB p s)) /\ Below w.heap.size w w' := by
 have HP := (show Hid (PrAt _ _ _ _) from hp)
 have HS := (show Hid (SyAt _ _ _ _ _) from hS)
 have HM := (show Hid (SmSy _) from hsm)
 clear hp hS hsm
 cases g1 : okB p
 . have HF : Hid (soB p s = false) := by unfold Hid soB; simp [g1]
   have G1 := (show Hid (_ = _) from g1)
   clear g1
   go_enter Try.func13, Try.ntmps13
   go_wp2_with fail
   refine (progOk_b p _ _ _ _ _ (by exact PrAt.mono HP.out bq0) G1.out).mono ?_
   rintro e w1 ⟨rfl, hc1⟩
   have HW1 : Hid (Below w.heap.size w w1) := below_then bq0 (by (try simp); try omega) hc1
   obtain ⟨hx1, hy1⟩ := bcell hc1
   have t1a : w.heap.size < w1.heap.size := by have := hc1.size; (try simp at this); omega
   have t1b : w.heap.size + 1 < w1.heap.size := by have := hc1.size; (try simp at this); omega
   have hsz1 := HW1.out.size
   clear hc1 hy1
   go_wp2_with fail
   go_ret
   exact ⟨by rw [HF.out]; rfl, (bqx HW1.out)⟩
 have G1 := (show Hid (_ = _) from g1)
 clear g1
 cases g2 : inB s.clock 0 200
 . have HF : Hid (soB p s = false) := by unfold Hid soB; simp [g2]
   have G2 := (show Hid (_ = _) from g2)
   clear g2
   go_enter Try.func13, Try.ntmps13
   go_wp2_with fail
   refine (progOk_b p _ _ _ _ _ (by exact PrAt.mono HP.out bq0) G1.out).mono ?_
   rintro e w1 ⟨rfl, hc1⟩
   have HW1 : Hid (Below w.heap.size w w1) := below_then bq0 (by (try simp); try omega) hc1
   obtain ⟨hx1, hy1⟩ := bcell hc1
   have t1a : w.heap.size < w1.heap.size := by have := hc1.size; (try simp at this); omega
   have t1b : w.heap.size + 1 < w1.heap.size := by have := hc1.size; (try simp at this); omega
   have hsz1 := HW1.out.size
   clear hc1 hy1
   go_wp2_with fail
   refine (isUpTo_b G2.out _).mono ?_
   rintro e wq ⟨rfl, hw⟩
   have hw := hw.symm
   subst hw
   go_wp2_with fail
   go_ret
   exact ⟨by rw [HF.out]; rfl, (bqx HW1.out)⟩
 have c0 : 0 <= s.clock := by rw [inB] at g2; simp at g2; omega
 have c200 : s.clock <= 200 := by rw [inB] at g2; simp at g2; omega
 have G2 := (show Hid (_ = _) from g2)
 clear g2
 cases g3 : tksB p s
 . have HF : Hid (soB p s = false) := by unfold Hid soB; simp [g3]
   have G3 := (show Hid (_ = _) from g3)
   clear g3
   go_enter Try.func13, Try.ntmps13
   go_wp2_with fail
   refine (progOk_b p _ _ _ _ _ (by exact PrAt.mono HP.out bq0) G1.out).mono ?_
   rintro e w1 ⟨rfl, hc1⟩
   have HW1 : Hid (Below w.heap.size w w1) := below_then bq0 (by (try simp); try omega) hc1
   obtain ⟨hx1, hy1⟩ := bcell hc1
   have t1a : w.heap.size < w1.heap.size := by have := hc1.size; (try simp at this); omega
   have t1b : w.heap.size + 1 < w1.heap.size := by have := hc1.size; (try simp at this); omega
   have hsz1 := HW1.out.size
   clear hc1 hy1
   go_wp2_with fail
   refine (isUpTo_b G2.out _).mono ?_
   rintro e wq ⟨rfl, hw⟩
   have hw := hw.symm
   subst hw
   go_wp2_with fail
   refine (tasks_b p _ _ _ _ s _ _ _ _ _ _ _ (by exact PrAt.mono HP.out (bqx HW1.out)) (by exact (SyAt.mono HS.out (bqx HW1.out)).2.1) HM.out.2.1 c0 c200 G3.out).mono ?_
   rintro e w2 ⟨rfl, hc2⟩
   have HW2 : Hid (Below w.heap.size w w2) := below_then (bqx HW1.out) (by (try simp); try omega) hc2
   obtain ⟨hx2, hy2⟩ := bcell hc2
   have t2a : w.heap.size < w2.heap.size := by have := hc2.size; (try simp at this); omega
   have t2b : w.heap.size + 1 < w2.heap.size := by have := hc2.size; (try simp at this); omega
   have hsz2 := HW2.out.size
   clear hc2 hy2
   go_wp2_with fail
   go_ret
   exact ⟨by rw [HF.out]; rfl, (bqx HW2.out)⟩
 have G3 := (show Hid (_ = _) from g3)
 clear g3
 cases g4 : cesB p s
 . have HF : Hid (soB p s = false) := by unfold Hid soB; simp [g4]
   have G4 := (show Hid (_ = _) from g4)
   clear g4
   go_enter Try.func13, Try.ntmps13
   go_wp2_with fail
   refine (progOk_b p _ _ _ _ _ (by exact PrAt.mono HP.out bq0) G1.out).mono ?_
   rintro e w1 ⟨rfl, hc1⟩
   have HW1 : Hid (Below w.heap.size w w1) := below_then bq0 (by (try simp); try omega) hc1
   obtain ⟨hx1, hy1⟩ := bcell hc1
   have t1a : w.heap.size < w1.heap.size := by have := hc1.size; (try simp at this); omega
   have t1b : w.heap.size + 1 < w1.heap.size := by have := hc1.size; (try simp at this); omega
   have hsz1 := HW1.out.size
   clear hc1 hy1
   go_wp2_with fail
   refine (isUpTo_b G2.out _).mono ?_
   rintro e wq ⟨rfl, hw⟩
   have hw := hw.symm
   subst hw
   go_wp2_with fail
   refine (tasks_b p _ _ _ _ s _ _ _ _ _ _ _ (by exact PrAt.mono HP.out (bqx HW1.out)) (by exact (SyAt.mono HS.out (bqx HW1.out)).2.1) HM.out.2.1 c0 c200 G3.out).mono ?_
   rintro e w2 ⟨rfl, hc2⟩
   have HW2 : Hid (Below w.heap.size w w2) := below_then (bqx HW1.out) (by (try simp); try omega) hc2
   obtain ⟨hx2, hy2⟩ := bcell hc2
   have t2a : w.heap.size < w2.heap.size := by have := hc2.size; (try simp at this); omega
   have t2b : w.heap.size + 1 < w2.heap.size := by have := hc2.size; (try simp at this); omega
   have hsz2 := HW2.out.size
   clear hc2 hy2
   go_wp2_with fail
   refine (cells_b p _ _ _ _ s _ _ _ _ _ _ _ (by exact (SyAt.mono HS.out (bqx HW2.out)).1) (by exact (SyAt.mono HS.out (bqx HW2.out)).2.1) HM.out.1 hpn c0 c200 G3.out G4.out).mono ?_
   rintro e w3 ⟨rfl, hc3⟩
   have HW3 : Hid (Below w.heap.size w w3) := below_then (bqx HW2.out) (by (try simp); try omega) hc3
   obtain ⟨hx3, hy3⟩ := bcell hc3
   have t3a : w.heap.size < w3.heap.size := by have := hc3.size; (try simp at this); omega
   have t3b : w.heap.size + 1 < w3.heap.size := by have := hc3.size; (try simp at this); omega
   have hsz3 := HW3.out.size
   clear hc3 hy3
   go_wp2_with fail
   go_ret
   exact ⟨by rw [HF.out]; rfl, (bqx HW3.out)⟩
 have G4 := (show Hid (_ = _) from g4)
 clear g4
 have HF : Hid (soB p s = lgB p s) := by unfold Hid soB; simp [G1.out, G2.out, G3.out, G4.out]
 go_enter Try.func13, Try.ntmps13
 go_wp2_with fail
 refine (progOk_b p _ _ _ _ _ (by exact PrAt.mono HP.out bq0) G1.out).mono ?_
 rintro e w1 ⟨rfl, hc1⟩
 have HW1 : Hid (Below w.heap.size w w1) := below_then bq0 (by (try simp); try omega) hc1
 obtain ⟨hx1, hy1⟩ := bcell hc1
 have t1a : w.heap.size < w1.heap.size := by have := hc1.size; (try simp at this); omega
 have t1b : w.heap.size + 1 < w1.heap.size := by have := hc1.size; (try simp at this); omega
 have hsz1 := HW1.out.size
 clear hc1 hy1
 go_wp2_with fail
 refine (isUpTo_b G2.out _).mono ?_
 rintro e wq ⟨rfl, hw⟩
 have hw := hw.symm
 subst hw
 go_wp2_with fail
 refine (tasks_b p _ _ _ _ s _ _ _ _ _ _ _ (by exact PrAt.mono HP.out (bqx HW1.out)) (by exact (SyAt.mono HS.out (bqx HW1.out)).2.1) HM.out.2.1 c0 c200 G3.out).mono ?_
 rintro e w2 ⟨rfl, hc2⟩
 have HW2 : Hid (Below w.heap.size w w2) := below_then (bqx HW1.out) (by (try simp); try omega) hc2
 obtain ⟨hx2, hy2⟩ := bcell hc2
 have t2a : w.heap.size < w2.heap.size := by have := hc2.size; (try simp at this); omega
 have t2b : w.heap.size + 1 < w2.heap.size := by have := hc2.size; (try simp at this); omega
 have hsz2 := HW2.out.size
 clear hc2 hy2
 go_wp2_with fail
 refine (cells_b p _ _ _ _ s _ _ _ _ _ _ _ (by exact (SyAt.mono HS.out (bqx HW2.out)).1) (by exact (SyAt.mono HS.out (bqx HW2.out)).2.1) HM.out.1 hpn c0 c200 G3.out G4.out).mono ?_
 rintro e w3 ⟨rfl, hc3⟩
 have HW3 : Hid (Below w.heap.size w w3) := below_then (bqx HW2.out) (by (try simp); try omega) hc3
 obtain ⟨hx3, hy3⟩ := bcell hc3
 have t3a : w.heap.size < w3.heap.size := by have := hc3.size; (try simp at this); omega
 have t3b : w.heap.size + 1 < w3.heap.size := by have := hc3.size; (try simp at this); omega
 have hsz3 := HW3.out.size
 clear hc3 hy3
 go_wp2_with fail
 refine (log_b p _ _ _ _ s _ _ _ _ _ _ _ (by exact PrAt.mono HP.out (bqx HW3.out)) (by exact (SyAt.mono HS.out (bqx HW3.out)).2.1) (by exact (SyAt.mono HS.out (bqx HW3.out)).2.2) G3.out rfl).mono ?_
 rintro e w4 ⟨rfl, hc4⟩
 have HW4 : Hid (Below w.heap.size w w4) := below_then (bqx HW3.out) (by (try simp); try omega) hc4
 obtain ⟨hx4, hy4⟩ := bcell hc4
 have t4a : w.heap.size < w4.heap.size := by have := hc4.size; (try simp at this); omega
 have t4b : w.heap.size + 1 < w4.heap.size := by have := hc4.size; (try simp at this); omega
 have hsz4 := HW4.out.size
 clear hc4 hy4
 go_wp2_with fail
 go_ret
 exact ⟨by rw [HF.out]; rfl, (bqx HW4.out)⟩

set_option maxRecDepth 20000
theorem sysOk_c (p : Pr) (pa0 pa1 : Option Addr) (pc0 pc1 : Nat) (s : Sy) (sa0 sa1 sa3 : Option Addr) (sc0 sc1 sc3 : Nat) (w : World) (hp : PrAt w (.slice pa0 p.cells.length pc0) (.slice pa1 p.bodies.length pc1) p) (hS : SyAt w (.slice sa0 s.cells.length sc0) (.slice sa1 s.tasks.length sc1) (.slice sa3 s.log.length sc3) s) (hsm : SmSy s) (hsp : SmallP p) :
  Calls Try.prog 13 #[.agg #[.slice pa0 p.cells.length pc0, .slice pa1 p.bodies.length pc1], .agg #[.slice sa0 s.cells.length sc0, .slice sa1 s.tasks.length sc1, .int .i64 s.clock, .slice sa3 s.log.length sc3]] w fun r w' => r = .returned (.bool (mSoB p s)) /\ Below w.heap.size w w' := by
 rw [<- so_eq]; exact sysOk_any p pa0 pa1 pc0 pc1 s sa0 sa1 sa3 sc0 sc1 sc3 w hp hS hsm hsp.1

set_option maxRecDepth 20000
end Go.Proofs.Ytgbgjljflgbcaaa
