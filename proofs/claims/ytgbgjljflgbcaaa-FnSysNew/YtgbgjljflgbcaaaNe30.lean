import Derived.Test.YtgbgjljflgbcaaaNe26
import Derived.Test.YtgbgjljflgbcaaaNe06
namespace Go.Proofs.Ytgbgjljflgbcaaa
open Go.RowKit
set_option linter.unusedSimpArgs false
set_option linter.unusedVariables false
set_option maxRecDepth 20000
set_option maxHeartbeats 20000000 in
theorem logInForm_any (p : Pr) (pa0 pa1 : Option Addr) (pc0 pc1 : Nat) (s : Sy) (sa0 sa1 sa3 : Option Addr) (sc0 sc1 sc3 : Nat) (w : World) (hp : PrAt w (.slice pa0 p.cells.length pc0) (.slice pa1 p.bodies.length pc1) p) (hT : TasAt w (.slice sa1 s.tasks.length sc1) s.tasks) (hE : EnsAt w (.slice sa3 s.log.length sc3) s.log) (hbd : ∀ i, i < s.tasks.length → ∃ bn : Nat, (nth Ta.z s.tasks i).body = (bn : Int) ∧ bn < p.bodies.length) :
    Calls Try.prog 42 #[.agg #[.slice pa0 p.cells.length pc0, .slice pa1 p.bodies.length pc1], .agg #[.slice sa0 s.cells.length sc0, .slice sa1 s.tasks.length sc1, .int .i64 s.clock, .slice sa3 s.log.length sc3]] w fun r w' => r = .returned (.bool (lgB p s)) ∧ Below w.heap.size w w' := by
  have HP := (show Hid (PrAt _ _ _ _) from hp)
  have HT := (show Hid (TasAt _ _ _) from hT)
  have HBD := (show Hid (∀ i, i < s.tasks.length → _) from hbd)
  obtain ⟨a, cap, e, hm, hc⟩ := hE
  injection e with e1 e2 e3
  subst e1 e3
  clear hp hT hbd e2
  go_enter Try.func42, Try.ntmps42
  go_wp2_with fail
  go_loopw [10] (fun q w' => ∃ k : Nat, k ≤ s.log.length ∧ q = .int .i64 k ∧ Below (w.heap.size + 2) ((w.alloc (.cells #[.slice pa0 p.cells.length pc0, .slice pa1 p.bodies.length pc1] 26)).alloc (.cells #[.slice sa0 s.cells.length sc0, .slice sa1 s.tasks.length sc1, .int .i64 s.clock, .slice sa3 s.log.length sc3] 32)) w' ∧ (∀ j, j < k → enB p s j = true)) (fun q _ => s.log.length - (intOf q).toNat)
  case atStart => exact ⟨0, Nat.zero_le _, rfl, Below.refl _ _, fun j hj => absurd hj (Nat.not_lt_zero _)⟩
  case round =>
    obtain ⟨k, hk, rfl, hb, hall⟩ := hrel
    have hbw : Below w.heap.size w wr := below_then (by repeat (first | with_reducible exact Below.refl _ _ | (with_reducible refine Below.setCell ?_ ?hs _; case hs => ((try simp); try omega)) | (with_reducible refine Below.alloc ?_ ?hs _; case hs => ((try simp); try omega)) | with_reducible refine Below.drew ?_)) (by (try simp); try omega) (hb.mono (by simp))
    have hsz : w.heap.size + 2 ≤ wr.heap.size := by have := hb.size; simpa using this
    have z0 : w.heap.size < wr.heap.size := by omega
    have z1 : w.heap.size + 1 < wr.heap.size := by omega
    have b00 : wr.cell? ⟨w.heap.size, 0, none⟩ = some (.slice pa0 p.cells.length pc0) := by rw [hb.cell (p := ⟨w.heap.size, 0, none⟩) (by simp)]; simp [go_sem]
    have b01 : wr.cell? ⟨w.heap.size, 1, none⟩ = some (.slice pa1 p.bodies.length pc1) := by rw [hb.cell (p := ⟨w.heap.size, 1, none⟩) (by simp)]; simp [go_sem]
    have b11 : wr.cell? ⟨w.heap.size + 1, 1, none⟩ = some (.slice sa1 s.tasks.length sc1) := by rw [hb.cell (p := ⟨w.heap.size + 1, 1, none⟩) (by simp)]; simp [go_sem]
    have b12 : wr.cell? ⟨w.heap.size + 1, 2, none⟩ = some (.int .i64 s.clock) := by rw [hb.cell (p := ⟨w.heap.size + 1, 2, none⟩) (by simp)]; simp [go_sem]
    have HB := (show Hid (Below (w.heap.size + 2) _ wr) from hb)
    have HBW := (show Hid (Below w.heap.size w wr) from hbw)
    by_cases hlt : k < s.log.length
    · have hlt' : (k : Int) < (s.log.length : Int) := by omega
      obtain ⟨b, off, v3, v4, rfl, hbb, c0, c1, c2, c3, c4, c5, h3, h4⟩ := hc k hlt
      rw [← hbw.cell (p := ⟨b, _, none⟩) hbb] at c0 c1 c2 c3 c4 c5
      have hbr : b < wr.heap.size := by have := hbw.size; omega
      obtain ⟨a3, e3, rfl, _⟩ := h3.shape
      obtain ⟨a4, e4, rfl, _⟩ := h4.shape
      have H3 := (show Hid (PusAt _ _ _) from h3)
      have H4 := (show Hid (PusAt _ _ _) from h4)
      have HA := (show Hid (∀ j, j < k → _) from hall)
      have HNO : Hid (enB p s k = false → lgB p s = false) := fun hf => by unfold lgB; rw [List.all_eq_false]; exact ⟨k, List.mem_range.2 hlt, by simp [hf]⟩
      clear h3 h4 hall hb
      cases g1 : plB (nth En.z s.log k).task s.tasks.length
      · have HN : Hid (lgB p s = false) := HNO.out (by unfold enB enN; simp [g1])
        have G1 := (show Hid (_ = _) from g1)
        clear g1 hc hbw
        go_wp2_with fail
        go_quiet ((go_at_call 45; with_reducible exact Calls.quiet_of_same (isPlace_b G1.out _)))
        go_wp2_with fail
        go_ret
        exact ⟨by rw [HN.out]; rfl, (by repeat (first | with_reducible exact HBW.out | (with_reducible refine Below.setCell ?_ ?hs _; case hs => ((try simp); try omega)) | (with_reducible refine Below.alloc ?_ ?hs _; case hs => ((try simp); try omega)) | with_reducible refine Below.drew ?_ | with_reducible refine below_drewN ?_ _))⟩
      obtain ⟨tn, htn⟩ : ∃ tn : Nat, (nth En.z s.log k).task = (tn : Int) := ⟨(nth En.z s.log k).task.toNat, by rw [plB] at g1; simp at g1; omega⟩
      have htl : tn < s.tasks.length := by rw [plB] at g1; simp at g1; omega
      have htl' : (tn : Int) < (s.tasks.length : Int) := by omega
      have g1' : plB (tn : Int) s.tasks.length = true := by rw [← htn]; exact g1
      have G1 := (show Hid (_ = _) from g1')
      have HG1 := (show Hid (_ = _) from g1)
      obtain ⟨bn, hbn, hbl⟩ := HBD.out tn htl
      have hbl' : (bn : Int) < (p.bodies.length : Int) := by omega
      obtain ⟨ta, tcap, te, thm, thc⟩ := HT.out
      injection te with te1 te2 te3
      subst te1 te3
      obtain ⟨b2, off2, w3, w8, w9, w10, rfl, hbx, d0, _⟩ := thc tn htl
      obtain ⟨pa, pcap, pe, phm, phc⟩ := HP.out.2
      injection pe with pe1 pe2 pe3
      subst pe1 pe3
      obtain ⟨b3, off3, av, rfl, hby, f0, ha⟩ := phc bn hbl
      obtain ⟨aa, aac, rfl, hma, _⟩ := ha
      rw [← hbw.cell (p := ⟨b2, _, none⟩) hbx] at d0
      rw [← hbw.cell (p := ⟨b3, _, none⟩) hby] at f0
      have hbx' : b2 < wr.heap.size := by have := hbw.size; omega
      have hby' : b3 < wr.heap.size := by have := hbw.size; omega
      have HACT : Hid ((acts p (tkN s (enN s k).task.toNat)).length = (nth [] p.bodies bn).length) := by
        unfold Hid acts tkN enN; rw [htn, Int.toNat_natCast, hbn]; rfl
      clear g1 g1' hc thc phc te2 pe2 hbw
      cases g2 : plB (nth En.z s.log k).act (nth [] p.bodies bn).length
      · have HN : Hid (lgB p s = false) := HNO.out (by unfold enB; rw [HACT.out]; unfold enN; simp [g2])
        have G2 := (show Hid (_ = _) from g2)
        clear g2
        go_wp2_with fail
        go_quiet ((first | (go_at_call 45; with_reducible exact Calls.quiet_of_same (isPlace_b G1.out _)) | (go_at_call 45; with_reducible exact Calls.quiet_of_same (isPlace_b G2.out _))))
        go_wp2_with fail
        go_ret
        exact ⟨by rw [HN.out]; rfl, (by repeat (first | with_reducible exact HBW.out | (with_reducible refine Below.setCell ?_ ?hs _; case hs => ((try simp); try omega)) | (with_reducible refine Below.alloc ?_ ?hs _; case hs => ((try simp); try omega)) | with_reducible refine Below.drew ?_ | with_reducible refine below_drewN ?_ _))⟩
      have G2 := (show Hid (_ = _) from g2)
      clear g2
      cases g3 : inB (nth En.z s.log k).when_ 0 s.clock
      · have HN : Hid (lgB p s = false) := HNO.out (by unfold enB enN; simp [g3])
        have G3 := (show Hid (_ = _) from g3)
        clear g3
        go_wp2_with fail
        go_quiet ((first | (go_at_call 45; with_reducible exact Calls.quiet_of_same (isPlace_b G1.out _)) | (go_at_call 45; with_reducible exact Calls.quiet_of_same (isPlace_b G2.out _))))
        go_wp2_with fail
        refine (isUpTo_b G3.out _).mono ?_
        rintro e wq ⟨rfl, hw⟩
        have hw := hw.symm
        subst hw
        go_wp2_with fail
        go_ret
        exact ⟨by rw [HN.out]; rfl, (by repeat (first | with_reducible exact HBW.out | (with_reducible refine Below.setCell ?_ ?hs _; case hs => ((try simp); try omega)) | (with_reducible refine Below.alloc ?_ ?hs _; case hs => ((try simp); try omega)) | with_reducible refine Below.drew ?_ | with_reducible refine below_drewN ?_ _))⟩
      have G3 := (show Hid (_ = _) from g3)
      clear g3
      cases g4 : inB (nth En.z s.log k).from_ 0 k
      · have HN : Hid (lgB p s = false) := HNO.out (by unfold enB enN; simp [g4])
        have G4 := (show Hid (_ = _) from g4)
        clear g4
        go_wp2_with fail
        go_quiet ((first | (go_at_call 45; with_reducible exact Calls.quiet_of_same (isPlace_b G1.out _)) | (go_at_call 45; with_reducible exact Calls.quiet_of_same (isPlace_b G2.out _))))
        go_wp2_with fail
        refine (isUpTo_b G3.out _).mono ?_
        rintro e wq ⟨rfl, hw⟩
        have hw := hw.symm
        subst hw
        go_wp2_with fail
        refine (isUpTo_b G4.out _).mono ?_
        rintro e wq ⟨rfl, hw⟩
        have hw := hw.symm
        subst hw
        go_wp2_with fail
        go_ret
        exact ⟨by rw [HN.out]; rfl, (by repeat (first | with_reducible exact HBW.out | (with_reducible refine Below.setCell ?_ ?hs _; case hs => ((try simp); try omega)) | (with_reducible refine Below.alloc ?_ ?hs _; case hs => ((try simp); try omega)) | with_reducible refine Below.drew ?_ | with_reducible refine below_drewN ?_ _))⟩
      have G4 := (show Hid (_ = _) from g4)
      clear g4
      cases g5 : puB (nth En.z s.log k).reads p.cells.length
      · have HN : Hid (lgB p s = false) := HNO.out (by unfold enB enN; simp [g5])
        have G5 := (show Hid (_ = _) from g5)
        clear g5
        go_wp2_with fail
        go_quiet ((first | (go_at_call 45; with_reducible exact Calls.quiet_of_same (isPlace_b G1.out _)) | (go_at_call 45; with_reducible exact Calls.quiet_of_same (isPlace_b G2.out _))))
        go_wp2_with fail
        refine (isUpTo_b G3.out _).mono ?_
        rintro e wq ⟨rfl, hw⟩
        have hw := hw.symm
        subst hw
        go_wp2_with fail
        refine (isUpTo_b G4.out _).mono ?_
        rintro e wq ⟨rfl, hw⟩
        have hw := hw.symm
        subst hw
        go_wp2_with fail
        refine (puts_b G5.out _ (by exact PusAt.mono H3.out (by repeat (first | with_reducible exact HBW.out | (with_reducible refine Below.setCell ?_ ?hs _; case hs => ((try simp); try omega)) | (with_reducible refine Below.alloc ?_ ?hs _; case hs => ((try simp); try omega)) | with_reducible refine Below.drew ?_ | with_reducible refine below_drewN ?_ _)))).mono ?_
        rintro e w1 ⟨rfl, hc1⟩
        have HW1 : Hid (Below w.heap.size w w1) := below_then (by repeat (first | with_reducible exact HBW.out | (with_reducible refine Below.setCell ?_ ?hs _; case hs => ((try simp); try omega)) | (with_reducible refine Below.alloc ?_ ?hs _; case hs => ((try simp); try omega)) | with_reducible refine Below.drew ?_ | with_reducible refine below_drewN ?_ _)) (by (try simp); try omega) hc1
        have HV1 : Hid (Below (w.heap.size + 2) ((w.alloc (.cells #[.slice pa0 p.cells.length pc0, .slice (some ⟨b3, off3, none⟩) p.bodies.length pc1] 26)).alloc (.cells #[.slice sa0 s.cells.length sc0, .slice (some ⟨b2, off2, none⟩) s.tasks.length sc1, .int .i64 s.clock, .slice (some ⟨b, off, none⟩) s.log.length sc3] 32)) w1) := below_then (by repeat (first | with_reducible exact HB.out | (with_reducible refine Below.setCell ?_ ?hs _; case hs => ((try simp); try omega)) | (with_reducible refine Below.alloc ?_ ?hs _; case hs => ((try simp); try omega)) | with_reducible refine Below.drew ?_ | with_reducible refine below_drewN ?_ _)) (by (try simp); try omega) hc1
        obtain ⟨hx1, hy1⟩ := bcell hc1
        have t1a : w.heap.size < w1.heap.size := by have := hc1.size; (try simp at this); omega
        have t1b : w.heap.size + 1 < w1.heap.size := by have := hc1.size; (try simp at this); omega
        have t1d : wr.heap.size < w1.heap.size := by have := hc1.size; (try simp at this); omega
        have hsz1 := HW1.out.size
        clear hc1 hy1
        go_wp2_with fail
        go_ret
        exact ⟨by rw [HN.out]; rfl, (by repeat (first | with_reducible exact HW1.out | (with_reducible refine Below.setCell ?_ ?hs _; case hs => ((try simp); try omega)) | (with_reducible refine Below.alloc ?_ ?hs _; case hs => ((try simp); try omega)) | with_reducible refine Below.drew ?_ | with_reducible refine below_drewN ?_ _))⟩
      have G5 := (show Hid (_ = _) from g5)
      clear g5
      cases g6 : puB (nth En.z s.log k).puts p.cells.length
      · have HN : Hid (lgB p s = false) := HNO.out (by unfold enB enN; simp [g6])
        have G6 := (show Hid (_ = _) from g6)
        clear g6
        go_wp2_with fail
        go_quiet ((first | (go_at_call 45; with_reducible exact Calls.quiet_of_same (isPlace_b G1.out _)) | (go_at_call 45; with_reducible exact Calls.quiet_of_same (isPlace_b G2.out _))))
        go_wp2_with fail
        refine (isUpTo_b G3.out _).mono ?_
        rintro e wq ⟨rfl, hw⟩
        have hw := hw.symm
        subst hw
        go_wp2_with fail
        refine (isUpTo_b G4.out _).mono ?_
        rintro e wq ⟨rfl, hw⟩
        have hw := hw.symm
        subst hw
        go_wp2_with fail
        refine (puts_b G5.out _ (by exact PusAt.mono H3.out (by repeat (first | with_reducible exact HBW.out | (with_reducible refine Below.setCell ?_ ?hs _; case hs => ((try simp); try omega)) | (with_reducible refine Below.alloc ?_ ?hs _; case hs => ((try simp); try omega)) | with_reducible refine Below.drew ?_ | with_reducible refine below_drewN ?_ _)))).mono ?_
        rintro e w1 ⟨rfl, hc1⟩
        have HW1 : Hid (Below w.heap.size w w1) := below_then (by repeat (first | with_reducible exact HBW.out | (with_reducible refine Below.setCell ?_ ?hs _; case hs => ((try simp); try omega)) | (with_reducible refine Below.alloc ?_ ?hs _; case hs => ((try simp); try omega)) | with_reducible refine Below.drew ?_ | with_reducible refine below_drewN ?_ _)) (by (try simp); try omega) hc1
        have HV1 : Hid (Below (w.heap.size + 2) ((w.alloc (.cells #[.slice pa0 p.cells.length pc0, .slice (some ⟨b3, off3, none⟩) p.bodies.length pc1] 26)).alloc (.cells #[.slice sa0 s.cells.length sc0, .slice (some ⟨b2, off2, none⟩) s.tasks.length sc1, .int .i64 s.clock, .slice (some ⟨b, off, none⟩) s.log.length sc3] 32)) w1) := below_then (by repeat (first | with_reducible exact HB.out | (with_reducible refine Below.setCell ?_ ?hs _; case hs => ((try simp); try omega)) | (with_reducible refine Below.alloc ?_ ?hs _; case hs => ((try simp); try omega)) | with_reducible refine Below.drew ?_ | with_reducible refine below_drewN ?_ _)) (by (try simp); try omega) hc1
        obtain ⟨hx1, hy1⟩ := bcell hc1
        have t1a : w.heap.size < w1.heap.size := by have := hc1.size; (try simp at this); omega
        have t1b : w.heap.size + 1 < w1.heap.size := by have := hc1.size; (try simp at this); omega
        have t1d : wr.heap.size < w1.heap.size := by have := hc1.size; (try simp at this); omega
        have hsz1 := HW1.out.size
        clear hc1 hy1
        go_wp2_with fail
        refine (puts_b G6.out _ (by exact PusAt.mono H4.out (by repeat (first | with_reducible exact HW1.out | (with_reducible refine Below.setCell ?_ ?hs _; case hs => ((try simp); try omega)) | (with_reducible refine Below.alloc ?_ ?hs _; case hs => ((try simp); try omega)) | with_reducible refine Below.drew ?_ | with_reducible refine below_drewN ?_ _)))).mono ?_
        rintro e w2 ⟨rfl, hc2⟩
        have HW2 : Hid (Below w.heap.size w w2) := below_then (by repeat (first | with_reducible exact HW1.out | (with_reducible refine Below.setCell ?_ ?hs _; case hs => ((try simp); try omega)) | (with_reducible refine Below.alloc ?_ ?hs _; case hs => ((try simp); try omega)) | with_reducible refine Below.drew ?_ | with_reducible refine below_drewN ?_ _)) (by (try simp); try omega) hc2
        have HV2 : Hid (Below (w.heap.size + 2) ((w.alloc (.cells #[.slice pa0 p.cells.length pc0, .slice (some ⟨b3, off3, none⟩) p.bodies.length pc1] 26)).alloc (.cells #[.slice sa0 s.cells.length sc0, .slice (some ⟨b2, off2, none⟩) s.tasks.length sc1, .int .i64 s.clock, .slice (some ⟨b, off, none⟩) s.log.length sc3] 32)) w2) := below_then (by repeat (first | with_reducible exact HV1.out | (with_reducible refine Below.setCell ?_ ?hs _; case hs => ((try simp); try omega)) | (with_reducible refine Below.alloc ?_ ?hs _; case hs => ((try simp); try omega)) | with_reducible refine Below.drew ?_ | with_reducible refine below_drewN ?_ _)) (by (try simp); try omega) hc2
        obtain ⟨hx2, hy2⟩ := bcell hc2
        have t2a : w.heap.size < w2.heap.size := by have := hc2.size; (try simp at this); omega
        have t2b : w.heap.size + 1 < w2.heap.size := by have := hc2.size; (try simp at this); omega
        have t2d : wr.heap.size < w2.heap.size := by have := hc2.size; (try simp at this); omega
        have hsz2 := HW2.out.size
        clear hc2 hy2
        go_wp2_with fail
        go_ret
        exact ⟨by rw [HN.out]; rfl, (by repeat (first | with_reducible exact HW2.out | (with_reducible refine Below.setCell ?_ ?hs _; case hs => ((try simp); try omega)) | (with_reducible refine Below.alloc ?_ ?hs _; case hs => ((try simp); try omega)) | with_reducible refine Below.drew ?_ | with_reducible refine below_drewN ?_ _))⟩
      have G6 := (show Hid (_ = _) from g6)
      clear g6
      have HA1 : Hid (∀ j, j < k + 1 → enB p s j = true) := so_far HA.out (by
        unfold enB; rw [HACT.out]; unfold enN; rw [HG1.out, G2.out, G3.out, G4.out, G5.out, G6.out]; rfl)
      go_wp2_with fail
      go_quiet ((first | (go_at_call 45; with_reducible exact Calls.quiet_of_same (isPlace_b G1.out _)) | (go_at_call 45; with_reducible exact Calls.quiet_of_same (isPlace_b G2.out _))))
      go_wp2_with fail
      refine (isUpTo_b G3.out _).mono ?_
      rintro e wq ⟨rfl, hw⟩
      have hw := hw.symm
      subst hw
      go_wp2_with fail
      refine (isUpTo_b G4.out _).mono ?_
      rintro e wq ⟨rfl, hw⟩
      have hw := hw.symm
      subst hw
      go_wp2_with fail
      refine (puts_b G5.out _ (by exact PusAt.mono H3.out (by repeat (first | with_reducible exact HBW.out | (with_reducible refine Below.setCell ?_ ?hs _; case hs => ((try simp); try omega)) | (with_reducible refine Below.alloc ?_ ?hs _; case hs => ((try simp); try omega)) | with_reducible refine Below.drew ?_ | with_reducible refine below_drewN ?_ _)))).mono ?_
      rintro e w1 ⟨rfl, hc1⟩
      have HW1 : Hid (Below w.heap.size w w1) := below_then (by repeat (first | with_reducible exact HBW.out | (with_reducible refine Below.setCell ?_ ?hs _; case hs => ((try simp); try omega)) | (with_reducible refine Below.alloc ?_ ?hs _; case hs => ((try simp); try omega)) | with_reducible refine Below.drew ?_ | with_reducible refine below_drewN ?_ _)) (by (try simp); try omega) hc1
      have HV1 : Hid (Below (w.heap.size + 2) ((w.alloc (.cells #[.slice pa0 p.cells.length pc0, .slice (some ⟨b3, off3, none⟩) p.bodies.length pc1] 26)).alloc (.cells #[.slice sa0 s.cells.length sc0, .slice (some ⟨b2, off2, none⟩) s.tasks.length sc1, .int .i64 s.clock, .slice (some ⟨b, off, none⟩) s.log.length sc3] 32)) w1) := below_then (by repeat (first | with_reducible exact HB.out | (with_reducible refine Below.setCell ?_ ?hs _; case hs => ((try simp); try omega)) | (with_reducible refine Below.alloc ?_ ?hs _; case hs => ((try simp); try omega)) | with_reducible refine Below.drew ?_ | with_reducible refine below_drewN ?_ _)) (by (try simp); try omega) hc1
      obtain ⟨hx1, hy1⟩ := bcell hc1
      have t1a : w.heap.size < w1.heap.size := by have := hc1.size; (try simp at this); omega
      have t1b : w.heap.size + 1 < w1.heap.size := by have := hc1.size; (try simp at this); omega
      have t1d : wr.heap.size < w1.heap.size := by have := hc1.size; (try simp at this); omega
      have hsz1 := HW1.out.size
      clear hc1 hy1
      go_wp2_with fail
      refine (puts_b G6.out _ (by exact PusAt.mono H4.out (by repeat (first | with_reducible exact HW1.out | (with_reducible refine Below.setCell ?_ ?hs _; case hs => ((try simp); try omega)) | (with_reducible refine Below.alloc ?_ ?hs _; case hs => ((try simp); try omega)) | with_reducible refine Below.drew ?_ | with_reducible refine below_drewN ?_ _)))).mono ?_
      rintro e w2 ⟨rfl, hc2⟩
      have HW2 : Hid (Below w.heap.size w w2) := below_then (by repeat (first | with_reducible exact HW1.out | (with_reducible refine Below.setCell ?_ ?hs _; case hs => ((try simp); try omega)) | (with_reducible refine Below.alloc ?_ ?hs _; case hs => ((try simp); try omega)) | with_reducible refine Below.drew ?_ | with_reducible refine below_drewN ?_ _)) (by (try simp); try omega) hc2
      have HV2 : Hid (Below (w.heap.size + 2) ((w.alloc (.cells #[.slice pa0 p.cells.length pc0, .slice (some ⟨b3, off3, none⟩) p.bodies.length pc1] 26)).alloc (.cells #[.slice sa0 s.cells.length sc0, .slice (some ⟨b2, off2, none⟩) s.tasks.length sc1, .int .i64 s.clock, .slice (some ⟨b, off, none⟩) s.log.length sc3] 32)) w2) := below_then (by repeat (first | with_reducible exact HV1.out | (with_reducible refine Below.setCell ?_ ?hs _; case hs => ((try simp); try omega)) | (with_reducible refine Below.alloc ?_ ?hs _; case hs => ((try simp); try omega)) | with_reducible refine Below.drew ?_ | with_reducible refine below_drewN ?_ _)) (by (try simp); try omega) hc2
      obtain ⟨hx2, hy2⟩ := bcell hc2
      have t2a : w.heap.size < w2.heap.size := by have := hc2.size; (try simp at this); omega
      have t2b : w.heap.size + 1 < w2.heap.size := by have := hc2.size; (try simp at this); omega
      have t2d : wr.heap.size < w2.heap.size := by have := hc2.size; (try simp at this); omega
      have hsz2 := HW2.out.size
      clear hc2 hy2
      go_wp2_with fail
      go_roundw
      case rel => exact ⟨k + 1, by omega, by go_num, (by repeat (first | with_reducible exact HV2.out | (with_reducible refine Below.setCell ?_ ?hs _; case hs => ((try simp); try omega)) | (with_reducible refine Below.alloc ?_ ?hs _; case hs => ((try simp); try omega)) | with_reducible refine Below.drew ?_ | with_reducible refine below_drewN ?_ _)), HA1.out⟩
      case measure => simp [intOf]; omega
    · have HN : Hid (lgB p s = true) := by unfold Hid lgB; rw [List.all_eq_true]; intro j hj; exact hall j (by have := List.mem_range.1 hj; omega)
      clear hc hall hb
      go_wp2_with fail
      go_ret
      exact ⟨by rw [HN.out]; rfl, HBW.out⟩
end Go.Proofs.Ytgbgjljflgbcaaa
