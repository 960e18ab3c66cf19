import Derived.Test.YtgbgjljflgbcaaaBase05
namespace Go.Proofs.Ytgbgjljflgbcaaa
open Go.RowKit
set_option linter.unusedSimpArgs false
set_option linter.unusedVariables false
set_option maxRecDepth 20000
theorem list_b {v : Value} {xs : List Pu} {c : Nat} {b : Bool} (h : puB xs c = b) (w : World) (hi : PusAt w v xs) (hc : c ≤ 1048576) : Calls Try.prog 101 #[v, .int .i64 (c : Int)] w fun r w' => r = .returned (.bool b) ∧ Below w.heap.size w w' := by subst h; exact l12List_any v xs c w hi hc
set_option maxHeartbeats 20000000 in
theorem l12Log_any (p : Pr) (pa0 pa1 : Option Addr) (pc0 pc1 : Nat) (s : Sy) (sa0 sa1 sa3 : Option Addr) (sc0 sc1 sc3 : Nat) (w : World) (hp : PrAt w (.slice pa0 p.cells.length pc0) (.slice pa1 p.bodies.length pc1) p) (hT : TasAt w (.slice sa1 s.tasks.length sc1) s.tasks) (hE : EnsAt w (.slice sa3 s.log.length sc3) s.log) (hcl : s.cells.length ≤ 1048576) (htk : s.tasks.length ≤ 1048576) (hbd : ∀ i, i < s.tasks.length → ∃ bn : Nat, (nth Ta.z s.tasks i).body = (bn : Int) ∧ bn < p.bodies.length) :
    Calls Try.prog 55 #[.agg #[.slice pa0 p.cells.length pc0, .slice pa1 p.bodies.length pc1], .agg #[.slice sa0 s.cells.length sc0, .slice sa1 s.tasks.length sc1, .int .i64 s.clock, .slice sa3 s.log.length sc3]] w fun r w' => r = .returned (.bool (mLgB p s)) ∧ Below w.heap.size w w' := by
  have HP := (show Hid (PrAt _ _ _ _) from hp)
  have HT := (show Hid (TasAt _ _ _) from hT)
  have HBD := (show Hid (∀ i, i < s.tasks.length → _) from hbd)
  obtain ⟨a, cap, e, hm, hc⟩ := hE
  injection e with e1 e2 e3
  subst e1 e3
  clear hp hT hbd e2
  go_enter Try.func55, Try.ntmps55
  go_wp2_with fail
  go_loopw [5] (fun q w' => ∃ k : Nat, k ≤ s.log.length ∧ q = .int .i64 k ∧ Below (w.heap.size + 2) ((w.alloc (.cells #[.slice pa0 p.cells.length pc0, .slice pa1 p.bodies.length pc1] 26)).alloc (.cells #[.slice sa0 s.cells.length sc0, .slice sa1 s.tasks.length sc1, .int .i64 s.clock, .slice sa3 s.log.length sc3] 32)) w' ∧ (∀ j, j < k → mEnB p s j = true)) (fun q _ => s.log.length - (intOf q).toNat)
  case atStart => exact ⟨0, Nat.zero_le _, rfl, Below.refl _ _, fun j hj => absurd hj (Nat.not_lt_zero _)⟩
  case round =>
    obtain ⟨k, hk, rfl, hb, hall⟩ := hrel
    have hbw : Below w.heap.size w wr := below_then (by repeat (first | with_reducible exact Below.refl _ _ | (with_reducible refine Below.setCell ?_ ?hs _; case hs => ((try simp); try omega)) | (with_reducible refine Below.alloc ?_ ?hs _; case hs => ((try simp); try omega)) | with_reducible refine Below.drew ?_)) (by (try simp); try omega) (hb.mono (by simp))
    have hsz : w.heap.size + 2 ≤ wr.heap.size := by have := hb.size; simpa using this
    have z0 : w.heap.size < wr.heap.size := by omega
    have z1 : w.heap.size + 1 < wr.heap.size := by omega
    have b01 : wr.cell? ⟨w.heap.size, 1, none⟩ = some (.slice pa1 p.bodies.length pc1) := by rw [hb.cell (p := ⟨w.heap.size, 1, none⟩) (by simp)]; simp [go_sem]
    have b10 : wr.cell? ⟨w.heap.size + 1, 0, none⟩ = some (.slice sa0 s.cells.length sc0) := by rw [hb.cell (p := ⟨w.heap.size + 1, 0, none⟩) (by simp)]; simp [go_sem]
    have b11 : wr.cell? ⟨w.heap.size + 1, 1, none⟩ = some (.slice sa1 s.tasks.length sc1) := by rw [hb.cell (p := ⟨w.heap.size + 1, 1, none⟩) (by simp)]; simp [go_sem]
    have b12 : wr.cell? ⟨w.heap.size + 1, 2, none⟩ = some (.int .i64 s.clock) := by rw [hb.cell (p := ⟨w.heap.size + 1, 2, none⟩) (by simp)]; simp [go_sem]
    have b13 : wr.cell? ⟨w.heap.size + 1, 3, none⟩ = some (.slice sa3 s.log.length sc3) := by rw [hb.cell (p := ⟨w.heap.size + 1, 3, none⟩) (by simp)]; simp [go_sem]
    have HB := (show Hid (Below (w.heap.size + 2) _ wr) from hb)
    have HBW := (show Hid (Below w.heap.size w wr) from hbw)
    by_cases hlt : k < s.log.length
    · have hlt' : (k : Int) < (s.log.length : Int) := by omega
      obtain ⟨b, off, v3, v4, rfl, hbb, c0, c1, c2, c3, c4, c5, h3, h4⟩ := hc k hlt
      rw [← hbw.cell (p := ⟨b, _, none⟩) hbb] at c0 c1 c2 c3 c4 c5
      have hbr : b < wr.heap.size := by have := hbw.size; omega
      obtain ⟨a3, e3, rfl, _⟩ := h3.shape
      obtain ⟨a4, e4, rfl, _⟩ := h4.shape
      have H3 := (show Hid (PusAt _ _ _) from h3)
      have H4 := (show Hid (PusAt _ _ _) from h4)
      have HA := (show Hid (∀ j, j < k → _) from hall)
      have HNO : Hid (mEnB p s k = false → mLgB p s = false) := fun hf => by unfold mLgB; rw [List.all_eq_false]; exact ⟨k, List.mem_range.2 hlt, by simp [hf]⟩
      clear h3 h4 hall hb
      cases g1 : inB (nth En.z s.log k).task 0 ((s.tasks.length : Int) - 1)
      · have HN : Hid (mLgB p s = false) := HNO.out (by rw [in_pl] at g1; unfold mEnB enN; simp [g1])
        have G1 := (show Hid (_ = _) from g1)
        clear g1 hc hbw
        go_wp2_with fail
        refine (l6In_b G1.out _).mono ?_
        rintro e wq ⟨rfl, hw⟩
        have hw := hw.symm
        subst hw
        go_wp2_with fail
        go_ret
        exact ⟨by rw [HN.out]; rfl, (by repeat (first | with_reducible exact HBW.out | (with_reducible refine Below.setCell ?_ ?hs _; case hs => ((try simp); try omega)) | (with_reducible refine Below.alloc ?_ ?hs _; case hs => ((try simp); try omega)) | with_reducible refine Below.drew ?_ | with_reducible refine below_drewN ?_ _))⟩
      have p1 := g1
      rw [in_pl] at p1
      obtain ⟨tn, htn⟩ : ∃ tn : Nat, (nth En.z s.log k).task = (tn : Int) := ⟨(nth En.z s.log k).task.toNat, by rw [plB] at p1; simp at p1; omega⟩
      have htl : tn < s.tasks.length := by rw [plB] at p1; simp at p1; omega
      have htl' : (tn : Int) < (s.tasks.length : Int) := by omega
      have g1' : inB (tn : Int) 0 ((s.tasks.length : Int) - 1) = true := by rw [← htn]; exact g1
      have G1 := (show Hid (_ = _) from g1')
      have HG1 := (show Hid (_ = _) from p1)
      obtain ⟨bn, hbn, hbl⟩ := HBD.out tn htl
      have hbl' : (bn : Int) < (p.bodies.length : Int) := by omega
      obtain ⟨ta, tcap, te, thm, thc⟩ := HT.out
      injection te with te1 te2 te3
      subst te1 te3
      obtain ⟨b2, off2, w3, w8, w9, w10, rfl, hbx, d0, _⟩ := thc tn htl
      obtain ⟨pa, pcap, pe, phm, phc⟩ := HP.out.2
      injection pe with pe1 pe2 pe3
      subst pe1 pe3
      obtain ⟨b3, off3, av, rfl, hby, f0, ha⟩ := phc bn hbl
      obtain ⟨aa, aac, rfl, hma, _⟩ := ha
      rw [← hbw.cell (p := ⟨b2, _, none⟩) hbx] at d0
      rw [← hbw.cell (p := ⟨b3, _, none⟩) hby] at f0
      have hbx' : b2 < wr.heap.size := by have := hbw.size; omega
      have hby' : b3 < wr.heap.size := by have := hbw.size; omega
      have HACT : Hid ((acts p (tkN s (enN s k).task.toNat)).length = (nth [] p.bodies bn).length) := by
        unfold Hid acts tkN enN; rw [htn, Int.toNat_natCast, hbn]; rfl
      have hwa : IntKind.i64.wrap (((nth [] p.bodies bn).length : Int) - 1) = ((nth [] p.bodies bn).length : Int) - 1 := by rw [IntKind.wrap_i64]; omega
      clear g1 g1' p1 hc thc phc te2 pe2 hbw
      cases g2 : inB (nth En.z s.log k).when_ 0 s.clock
      · have HN : Hid (mLgB p s = false) := HNO.out (by unfold mEnB enN; simp [g2])
        have G2 := (show Hid (_ = _) from g2)
        clear g2
        go_wp2_with fail
        refine (l6In_b G1.out _).mono ?_
        rintro e wq ⟨rfl, hw⟩
        have hw := hw.symm
        subst hw
        go_wp2_with fail
        refine (l6In_b G2.out _).mono ?_
        rintro e wq ⟨rfl, hw⟩
        have hw := hw.symm
        subst hw
        go_wp2_with fail
        go_ret
        exact ⟨by rw [HN.out]; rfl, (by repeat (first | with_reducible exact HBW.out | (with_reducible refine Below.setCell ?_ ?hs _; case hs => ((try simp); try omega)) | (with_reducible refine Below.alloc ?_ ?hs _; case hs => ((try simp); try omega)) | with_reducible refine Below.drew ?_ | with_reducible refine below_drewN ?_ _))⟩
      have G2 := (show Hid (_ = _) from g2)
      clear g2
      cases g3 : inB (nth En.z s.log k).from_ 0 k
      · have HN : Hid (mLgB p s = false) := HNO.out (by unfold mEnB enN; simp [g3])
        have G3 := (show Hid (_ = _) from g3)
        clear g3
        go_wp2_with fail
        refine (l6In_b G1.out _).mono ?_
        rintro e wq ⟨rfl, hw⟩
        have hw := hw.symm
        subst hw
        go_wp2_with fail
        refine (l6In_b G2.out _).mono ?_
        rintro e wq ⟨rfl, hw⟩
        have hw := hw.symm
        subst hw
        go_wp2_with fail
        refine (l6In_b G3.out _).mono ?_
        rintro e wq ⟨rfl, hw⟩
        have hw := hw.symm
        subst hw
        go_wp2_with fail
        go_ret
        exact ⟨by rw [HN.out]; rfl, (by repeat (first | with_reducible exact HBW.out | (with_reducible refine Below.setCell ?_ ?hs _; case hs => ((try simp); try omega)) | (with_reducible refine Below.alloc ?_ ?hs _; case hs => ((try simp); try omega)) | with_reducible refine Below.drew ?_ | with_reducible refine below_drewN ?_ _))⟩
      have G3 := (show Hid (_ = _) from g3)
      clear g3
      cases g4 : puB (nth En.z s.log k).reads s.cells.length
      · have HN : Hid (mLgB p s = false) := HNO.out (by unfold mEnB enN; simp [g4])
        have G4 := (show Hid (_ = _) from g4)
        clear g4
        go_wp2_with fail
        refine (l6In_b G1.out _).mono ?_
        rintro e wq ⟨rfl, hw⟩
        have hw := hw.symm
        subst hw
        go_wp2_with fail
        refine (l6In_b G2.out _).mono ?_
        rintro e wq ⟨rfl, hw⟩
        have hw := hw.symm
        subst hw
        go_wp2_with fail
        refine (l6In_b G3.out _).mono ?_
        rintro e wq ⟨rfl, hw⟩
        have hw := hw.symm
        subst hw
        go_wp2_with fail
        refine (list_b G4.out _ (by exact PusAt.mono H3.out (by repeat (first | with_reducible exact HBW.out | (with_reducible refine Below.setCell ?_ ?hs _; case hs => ((try simp); try omega)) | (with_reducible refine Below.alloc ?_ ?hs _; case hs => ((try simp); try omega)) | with_reducible refine Below.drew ?_ | with_reducible refine below_drewN ?_ _))) hcl).mono ?_
        rintro e w1 ⟨rfl, hc1⟩
        have HW1 : Hid (Below w.heap.size w w1) := below_then (by repeat (first | with_reducible exact HBW.out | (with_reducible refine Below.setCell ?_ ?hs _; case hs => ((try simp); try omega)) | (with_reducible refine Below.alloc ?_ ?hs _; case hs => ((try simp); try omega)) | with_reducible refine Below.drew ?_ | with_reducible refine below_drewN ?_ _)) (by (try simp); try omega) hc1
        have HV1 : Hid (Below (w.heap.size + 2) ((w.alloc (.cells #[.slice pa0 p.cells.length pc0, .slice (some ⟨b3, off3, none⟩) p.bodies.length pc1] 26)).alloc (.cells #[.slice sa0 s.cells.length sc0, .slice (some ⟨b2, off2, none⟩) s.tasks.length sc1, .int .i64 s.clock, .slice (some ⟨b, off, none⟩) s.log.length sc3] 32)) w1) := below_then (by repeat (first | with_reducible exact HB.out | (with_reducible refine Below.setCell ?_ ?hs _; case hs => ((try simp); try omega)) | (with_reducible refine Below.alloc ?_ ?hs _; case hs => ((try simp); try omega)) | with_reducible refine Below.drew ?_ | with_reducible refine below_drewN ?_ _)) (by (try simp); try omega) hc1
        obtain ⟨hx1, hy1⟩ := bcell hc1
        have t1a : w.heap.size < w1.heap.size := by have := hc1.size; (try simp at this); omega
        have t1b : w.heap.size + 1 < w1.heap.size := by have := hc1.size; (try simp at this); omega
        have t1d : wr.heap.size < w1.heap.size := by have := hc1.size; (try simp at this); omega
        have t1e : b2 < w1.heap.size := by omega
        have t1f : b3 < w1.heap.size := by omega
        have hsz1 := HW1.out.size
        clear hc1 hy1
        go_wp2_with fail
        go_ret
        exact ⟨by rw [HN.out]; rfl, (by repeat (first | with_reducible exact HW1.out | (with_reducible refine Below.setCell ?_ ?hs _; case hs => ((try simp); try omega)) | (with_reducible refine Below.alloc ?_ ?hs _; case hs => ((try simp); try omega)) | with_reducible refine Below.drew ?_ | with_reducible refine below_drewN ?_ _))⟩
      have G4 := (show Hid (_ = _) from g4)
      clear g4
      cases g5 : puB (nth En.z s.log k).puts s.cells.length
      · have HN : Hid (mLgB p s = false) := HNO.out (by unfold mEnB enN; simp [g5])
        have G5 := (show Hid (_ = _) from g5)
        clear g5
        go_wp2_with fail
        refine (l6In_b G1.out _).mono ?_
        rintro e wq ⟨rfl, hw⟩
        have hw := hw.symm
        subst hw
        go_wp2_with fail
        refine (l6In_b G2.out _).mono ?_
        rintro e wq ⟨rfl, hw⟩
        have hw := hw.symm
        subst hw
        go_wp2_with fail
        refine (l6In_b G3.out _).mono ?_
        rintro e wq ⟨rfl, hw⟩
        have hw := hw.symm
        subst hw
        go_wp2_with fail
        refine (list_b G4.out _ (by exact PusAt.mono H3.out (by repeat (first | with_reducible exact HBW.out | (with_reducible refine Below.setCell ?_ ?hs _; case hs => ((try simp); try omega)) | (with_reducible refine Below.alloc ?_ ?hs _; case hs => ((try simp); try omega)) | with_reducible refine Below.drew ?_ | with_reducible refine below_drewN ?_ _))) hcl).mono ?_
        rintro e w1 ⟨rfl, hc1⟩
        have HW1 : Hid (Below w.heap.size w w1) := below_then (by repeat (first | with_reducible exact HBW.out | (with_reducible refine Below.setCell ?_ ?hs _; case hs => ((try simp); try omega)) | (with_reducible refine Below.alloc ?_ ?hs _; case hs => ((try simp); try omega)) | with_reducible refine Below.drew ?_ | with_reducible refine below_drewN ?_ _)) (by (try simp); try omega) hc1
        have HV1 : Hid (Below (w.heap.size + 2) ((w.alloc (.cells #[.slice pa0 p.cells.length pc0, .slice (some ⟨b3, off3, none⟩) p.bodies.length pc1] 26)).alloc (.cells #[.slice sa0 s.cells.length sc0, .slice (some ⟨b2, off2, none⟩) s.tasks.length sc1, .int .i64 s.clock, .slice (some ⟨b, off, none⟩) s.log.length sc3] 32)) w1) := below_then (by repeat (first | with_reducible exact HB.out | (with_reducible refine Below.setCell ?_ ?hs _; case hs => ((try simp); try omega)) | (with_reducible refine Below.alloc ?_ ?hs _; case hs => ((try simp); try omega)) | with_reducible refine Below.drew ?_ | with_reducible refine below_drewN ?_ _)) (by (try simp); try omega) hc1
        obtain ⟨hx1, hy1⟩ := bcell hc1
        have t1a : w.heap.size < w1.heap.size := by have := hc1.size; (try simp at this); omega
        have t1b : w.heap.size + 1 < w1.heap.size := by have := hc1.size; (try simp at this); omega
        have t1d : wr.heap.size < w1.heap.size := by have := hc1.size; (try simp at this); omega
        have t1e : b2 < w1.heap.size := by omega
        have t1f : b3 < w1.heap.size := by omega
        have hsz1 := HW1.out.size
        clear hc1 hy1
        go_wp2_with fail
        refine (list_b G5.out _ (by exact PusAt.mono H4.out (by repeat (first | with_reducible exact HW1.out | (with_reducible refine Below.setCell ?_ ?hs _; case hs => ((try simp); try omega)) | (with_reducible refine Below.alloc ?_ ?hs _; case hs => ((try simp); try omega)) | with_reducible refine Below.drew ?_ | with_reducible refine below_drewN ?_ _))) hcl).mono ?_
        rintro e w2 ⟨rfl, hc2⟩
        have HW2 : Hid (Below w.heap.size w w2) := below_then (by repeat (first | with_reducible exact HW1.out | (with_reducible refine Below.setCell ?_ ?hs _; case hs => ((try simp); try omega)) | (with_reducible refine Below.alloc ?_ ?hs _; case hs => ((try simp); try omega)) | with_reducible refine Below.drew ?_ | with_reducible refine below_drewN ?_ _)) (by (try simp); try omega) hc2
        have HV2 : Hid (Below (w.heap.size + 2) ((w.alloc (.cells #[.slice pa0 p.cells.length pc0, .slice (some ⟨b3, off3, none⟩) p.bodies.length pc1] 26)).alloc (.cells #[.slice sa0 s.cells.length sc0, .slice (some ⟨b2, off2, none⟩) s.tasks.length sc1, .int .i64 s.clock, .slice (some ⟨b, off, none⟩) s.log.length sc3] 32)) w2) := below_then (by repeat (first | with_reducible exact HV1.out | (with_reducible refine Below.setCell ?_ ?hs _; case hs => ((try simp); try omega)) | (with_reducible refine Below.alloc ?_ ?hs _; case hs => ((try simp); try omega)) | with_reducible refine Below.drew ?_ | with_reducible refine below_drewN ?_ _)) (by (try simp); try omega) hc2
        obtain ⟨hx2, hy2⟩ := bcell hc2
        have t2a : w.heap.size < w2.heap.size := by have := hc2.size; (try simp at this); omega
        have t2b : w.heap.size + 1 < w2.heap.size := by have := hc2.size; (try simp at this); omega
        have t2d : wr.heap.size < w2.heap.size := by have := hc2.size; (try simp at this); omega
        have t2e : b2 < w2.heap.size := by omega
        have t2f : b3 < w2.heap.size := by omega
        have hsz2 := HW2.out.size
        clear hc2 hy2
        go_wp2_with fail
        go_ret
        exact ⟨by rw [HN.out]; rfl, (by repeat (first | with_reducible exact HW2.out | (with_reducible refine Below.setCell ?_ ?hs _; case hs => ((try simp); try omega)) | (with_reducible refine Below.alloc ?_ ?hs _; case hs => ((try simp); try omega)) | with_reducible refine Below.drew ?_ | with_reducible refine below_drewN ?_ _))⟩
      have G5 := (show Hid (_ = _) from g5)
      clear g5
      cases g6 : inB (nth En.z s.log k).act 0 (((nth [] p.bodies bn).length : Int) - 1)
      · have HN : Hid (mLgB p s = false) := HNO.out (by rw [in_pl] at g6; unfold mEnB; rw [HACT.out]; unfold enN; simp [g6])
        have G6 := (show Hid (_ = _) from g6)
        clear g6
        go_wp2_with fail
        refine (l6In_b G1.out _).mono ?_
        rintro e wq ⟨rfl, hw⟩
        have hw := hw.symm
        subst hw
        go_wp2_with fail
        refine (l6In_b G2.out _).mono ?_
        rintro e wq ⟨rfl, hw⟩
        have hw := hw.symm
        subst hw
        go_wp2_with fail
        refine (l6In_b G3.out _).mono ?_
        rintro e wq ⟨rfl, hw⟩
        have hw := hw.symm
        subst hw
        go_wp2_with fail
        refine (list_b G4.out _ (by exact PusAt.mono H3.out (by repeat (first | with_reducible exact HBW.out | (with_reducible refine Below.setCell ?_ ?hs _; case hs => ((try simp); try omega)) | (with_reducible refine Below.alloc ?_ ?hs _; case hs => ((try simp); try omega)) | with_reducible refine Below.drew ?_ | with_reducible refine below_drewN ?_ _))) hcl).mono ?_
        rintro e w1 ⟨rfl, hc1⟩
        have HW1 : Hid (Below w.heap.size w w1) := below_then (by repeat (first | with_reducible exact HBW.out | (with_reducible refine Below.setCell ?_ ?hs _; case hs => ((try simp); try omega)) | (with_reducible refine Below.alloc ?_ ?hs _; case hs => ((try simp); try omega)) | with_reducible refine Below.drew ?_ | with_reducible refine below_drewN ?_ _)) (by (try simp); try omega) hc1
        have HV1 : Hid (Below (w.heap.size + 2) ((w.alloc (.cells #[.slice pa0 p.cells.length pc0, .slice (some ⟨b3, off3, none⟩) p.bodies.length pc1] 26)).alloc (.cells #[.slice sa0 s.cells.length sc0, .slice (some ⟨b2, off2, none⟩) s.tasks.length sc1, .int .i64 s.clock, .slice (some ⟨b, off, none⟩) s.log.length sc3] 32)) w1) := below_then (by repeat (first | with_reducible exact HB.out | (with_reducible refine Below.setCell ?_ ?hs _; case hs => ((try simp); try omega)) | (with_reducible refine Below.alloc ?_ ?hs _; case hs => ((try simp); try omega)) | with_reducible refine Below.drew ?_ | with_reducible refine below_drewN ?_ _)) (by (try simp); try omega) hc1
        obtain ⟨hx1, hy1⟩ := bcell hc1
        have t1a : w.heap.size < w1.heap.size := by have := hc1.size; (try simp at this); omega
        have t1b : w.heap.size + 1 < w1.heap.size := by have := hc1.size; (try simp at this); omega
        have t1d : wr.heap.size < w1.heap.size := by have := hc1.size; (try simp at this); omega
        have t1e : b2 < w1.heap.size := by omega
        have t1f : b3 < w1.heap.size := by omega
        have hsz1 := HW1.out.size
        clear hc1 hy1
        go_wp2_with fail
        refine (list_b G5.out _ (by exact PusAt.mono H4.out (by repeat (first | with_reducible exact HW1.out | (with_reducible refine Below.setCell ?_ ?hs _; case hs => ((try simp); try omega)) | (with_reducible refine Below.alloc ?_ ?hs _; case hs => ((try simp); try omega)) | with_reducible refine Below.drew ?_ | with_reducible refine below_drewN ?_ _))) hcl).mono ?_
        rintro e w2 ⟨rfl, hc2⟩
        have HW2 : Hid (Below w.heap.size w w2) := below_then (by repeat (first | with_reducible exact HW1.out | (with_reducible refine Below.setCell ?_ ?hs _; case hs => ((try simp); try omega)) | (with_reducible refine Below.alloc ?_ ?hs _; case hs => ((try simp); try omega)) | with_reducible refine Below.drew ?_ | with_reducible refine below_drewN ?_ _)) (by (try simp); try omega) hc2
        have HV2 : Hid (Below (w.heap.size + 2) ((w.alloc (.cells #[.slice pa0 p.cells.length pc0, .slice (some ⟨b3, off3, none⟩) p.bodies.length pc1] 26)).alloc (.cells #[.slice sa0 s.cells.length sc0, .slice (some ⟨b2, off2, none⟩) s.tasks.length sc1, .int .i64 s.clock, .slice (some ⟨b, off, none⟩) s.log.length sc3] 32)) w2) := below_then (by repeat (first | with_reducible exact HV1.out | (with_reducible refine Below.setCell ?_ ?hs _; case hs => ((try simp); try omega)) | (with_reducible refine Below.alloc ?_ ?hs _; case hs => ((try simp); try omega)) | with_reducible refine Below.drew ?_ | with_reducible refine below_drewN ?_ _)) (by (try simp); try omega) hc2
        obtain ⟨hx2, hy2⟩ := bcell hc2
        have t2a : w.heap.size < w2.heap.size := by have := hc2.size; (try simp at this); omega
        have t2b : w.heap.size + 1 < w2.heap.size := by have := hc2.size; (try simp at this); omega
        have t2d : wr.heap.size < w2.heap.size := by have := hc2.size; (try simp at this); omega
        have t2e : b2 < w2.heap.size := by omega
        have t2f : b3 < w2.heap.size := by omega
        have hsz2 := HW2.out.size
        clear hc2 hy2
        go_wp2_with fail
        go_quiet ((go_at_call 52; with_reducible exact Calls.quiet_of_same (l6In_b G6.out _)))
        go_wp2_with fail
        go_ret
        exact ⟨by rw [HN.out]; rfl, (by repeat (first | with_reducible exact HW2.out | (with_reducible refine Below.setCell ?_ ?hs _; case hs => ((try simp); try omega)) | (with_reducible refine Below.alloc ?_ ?hs _; case hs => ((try simp); try omega)) | with_reducible refine Below.drew ?_ | with_reducible refine below_drewN ?_ _))⟩
      have P6 := (show Hid (_ = _) from (in_pl (nth En.z s.log k).act (nth [] p.bodies bn).length).symm.trans g6)
      have G6 := (show Hid (_ = _) from g6)
      clear g6
      have HA1 : Hid (∀ j, j < k + 1 → mEnB p s j = true) := so_far HA.out (by
        unfold mEnB; rw [HACT.out]; unfold enN; rw [HG1.out, G2.out, G3.out, G4.out, G5.out, P6.out]; rfl)
      go_wp2_with fail
      refine (l6In_b G1.out _).mono ?_
      rintro e wq ⟨rfl, hw⟩
      have hw := hw.symm
      subst hw
      go_wp2_with fail
      refine (l6In_b G2.out _).mono ?_
      rintro e wq ⟨rfl, hw⟩
      have hw := hw.symm
      subst hw
      go_wp2_with fail
      refine (l6In_b G3.out _).mono ?_
      rintro e wq ⟨rfl, hw⟩
      have hw := hw.symm
      subst hw
      go_wp2_with fail
      refine (list_b G4.out _ (by exact PusAt.mono H3.out (by repeat (first | with_reducible exact HBW.out | (with_reducible refine Below.setCell ?_ ?hs _; case hs => ((try simp); try omega)) | (with_reducible refine Below.alloc ?_ ?hs _; case hs => ((try simp); try omega)) | with_reducible refine Below.drew ?_ | with_reducible refine below_drewN ?_ _))) hcl).mono ?_
      rintro e w1 ⟨rfl, hc1⟩
      have HW1 : Hid (Below w.heap.size w w1) := below_then (by repeat (first | with_reducible exact HBW.out | (with_reducible refine Below.setCell ?_ ?hs _; case hs => ((try simp); try omega)) | (with_reducible refine Below.alloc ?_ ?hs _; case hs => ((try simp); try omega)) | with_reducible refine Below.drew ?_ | with_reducible refine below_drewN ?_ _)) (by (try simp); try omega) hc1
      have HV1 : Hid (Below (w.heap.size + 2) ((w.alloc (.cells #[.slice pa0 p.cells.length pc0, .slice (some ⟨b3, off3, none⟩) p.bodies.length pc1] 26)).alloc (.cells #[.slice sa0 s.cells.length sc0, .slice (some ⟨b2, off2, none⟩) s.tasks.length sc1, .int .i64 s.clock, .slice (some ⟨b, off, none⟩) s.log.length sc3] 32)) w1) := below_then (by repeat (first | with_reducible exact HB.out | (with_reducible refine Below.setCell ?_ ?hs _; case hs => ((try simp); try omega)) | (with_reducible refine Below.alloc ?_ ?hs _; case hs => ((try simp); try omega)) | with_reducible refine Below.drew ?_ | with_reducible refine below_drewN ?_ _)) (by (try simp); try omega) hc1
      obtain ⟨hx1, hy1⟩ := bcell hc1
      have t1a : w.heap.size < w1.heap.size := by have := hc1.size; (try simp at this); omega
      have t1b : w.heap.size + 1 < w1.heap.size := by have := hc1.size; (try simp at this); omega
      have t1d : wr.heap.size < w1.heap.size := by have := hc1.size; (try simp at this); omega
      have t1e : b2 < w1.heap.size := by omega
      have t1f : b3 < w1.heap.size := by omega
      have hsz1 := HW1.out.size
      clear hc1 hy1
      go_wp2_with fail
      refine (list_b G5.out _ (by exact PusAt.mono H4.out (by repeat (first | with_reducible exact HW1.out | (with_reducible refine Below.setCell ?_ ?hs _; case hs => ((try simp); try omega)) | (with_reducible refine Below.alloc ?_ ?hs _; case hs => ((try simp); try omega)) | with_reducible refine Below.drew ?_ | with_reducible refine below_drewN ?_ _))) hcl).mono ?_
      rintro e w2 ⟨rfl, hc2⟩
      have HW2 : Hid (Below w.heap.size w w2) := below_then (by repeat (first | with_reducible exact HW1.out | (with_reducible refine Below.setCell ?_ ?hs _; case hs => ((try simp); try omega)) | (with_reducible refine Below.alloc ?_ ?hs _; case hs => ((try simp); try omega)) | with_reducible refine Below.drew ?_ | with_reducible refine below_drewN ?_ _)) (by (try simp); try omega) hc2
      have HV2 : Hid (Below (w.heap.size + 2) ((w.alloc (.cells #[.slice pa0 p.cells.length pc0, .slice (some ⟨b3, off3, none⟩) p.bodies.length pc1] 26)).alloc (.cells #[.slice sa0 s.cells.length sc0, .slice (some ⟨b2, off2, none⟩) s.tasks.length sc1, .int .i64 s.clock, .slice (some ⟨b, off, none⟩) s.log.length sc3] 32)) w2) := below_then (by repeat (first | with_reducible exact HV1.out | (with_reducible refine Below.setCell ?_ ?hs _; case hs => ((try simp); try omega)) | (with_reducible refine Below.alloc ?_ ?hs _; case hs => ((try simp); try omega)) | with_reducible refine Below.drew ?_ | with_reducible refine below_drewN ?_ _)) (by (try simp); try omega) hc2
      obtain ⟨hx2, hy2⟩ := bcell hc2
      have t2a : w.heap.size < w2.heap.size := by have := hc2.size; (try simp at this); omega
      have t2b : w.heap.size + 1 < w2.heap.size := by have := hc2.size; (try simp at this); omega
      have t2d : wr.heap.size < w2.heap.size := by have := hc2.size; (try simp at this); omega
      have t2e : b2 < w2.heap.size := by omega
      have t2f : b3 < w2.heap.size := by omega
      have hsz2 := HW2.out.size
      clear hc2 hy2
      go_wp2_with fail
      go_quiet ((go_at_call 52; with_reducible exact Calls.quiet_of_same (l6In_b G6.out _)))
      go_wp2_with fail
      go_roundw
      case rel => exact ⟨k + 1, by omega, by go_num, (by repeat (first | with_reducible exact HV2.out | (with_reducible refine Below.setCell ?_ ?hs _; case hs => ((try simp); try omega)) | (with_reducible refine Below.alloc ?_ ?hs _; case hs => ((try simp); try omega)) | with_reducible refine Below.drew ?_ | with_reducible refine below_drewN ?_ _)), HA1.out⟩
      case measure => simp [intOf]; omega
    · have HN : Hid (mLgB p s = true) := by unfold Hid mLgB; rw [List.all_eq_true]; intro j hj; exact hall j (by have := List.mem_range.1 hj; omega)
      clear hc hall hb
      go_wp2_with fail
      go_ret
      exact ⟨by rw [HN.out]; rfl, HBW.out⟩
end Go.Proofs.Ytgbgjljflgbcaaa

namespace Go.Proofs.Ytgbgjljflgbcaaa
open Go.RowKit
set_option linter.unusedSimpArgs false
set_option linter.unusedVariables false
set_option maxRecDepth 20000
set_option maxHeartbeats 8000000 in
theorem l12Task_num (p : Pr) (pa0 pa1 : Option Addr) (pc0 pc1 : Nat) (s : Sy) (sa0 sa1 sa3 : Option Addr) (sc0 sc1 sc3 : Nat) (i : Nat) (w : World) (hp : PrAt w (.slice pa0 p.cells.length pc0) (.slice pa1 p.bodies.length pc1) p) (hT : TasAt w (.slice sa1 s.tasks.length sc1) s.tasks) (hi : i < s.tasks.length) (hn7 : s.tasks.length ≤ 7) (hcl : s.cells.length ≤ 1048576) (hbl0 : p.bodies.length ≤ 1048576) (h0 : 0 ≤ s.clock) (h200 : s.clock ≤ 200) (hll : s.log.length ≤ 1048576) (nr : (nth Ta.z s.tasks i).reads.length ≤ 1048576) (nu : (nth Ta.z s.tasks i).puts.length ≤ 1048576) (hN : mNumB p (nth Ta.z s.tasks i) = false) :
    Calls Try.prog 53 #[.agg #[.slice pa0 p.cells.length pc0, .slice pa1 p.bodies.length pc1], .agg #[.slice sa0 s.cells.length sc0, .slice sa1 s.tasks.length sc1, .int .i64 s.clock, .slice sa3 s.log.length sc3], .int .i64 (i : Int)] w fun r w' => r = .returned (.bool (mTkB p s i)) ∧ Below w.heap.size w w' := by
  obtain ⟨a, cap, e, hm, hc⟩ := id hT
  injection e with e1 e2 e3
  subst e1 e3
  have hi' : (i : Int) < (s.tasks.length : Int) := by omega
  obtain ⟨b, off, v3, v8, v9, v10, rfl, hbw, c0, c1, c2, c3, c4, c5, c6, c7, c8, c9, c10, c11, c12, h3, h8, h9, h10⟩ := hc i hi
  obtain ⟨a3, e3, rfl, _⟩ := h3.shape
  obtain ⟨a8, e8, rfl, _⟩ := h8.shape
  obtain ⟨a9, e9, rfl, _⟩ := h9.shape
  obtain ⟨a10, e10, rfl, _⟩ := h10.shape
  have HT := (show Hid (TasAt _ _ _) from hT)
  clear h3 h8 h9 h10 hc hT
  have hbw1 : b < w.heap.size + 1 := by omega
  have hbw2 : b < w.heap.size + 1 + 1 := by omega
  have hwb : IntKind.i64.wrap ((p.bodies.length : Int) - 1) = (p.bodies.length : Int) - 1 := by rw [IntKind.wrap_i64]; omega
  have HF : Hid (mTkB p s i = false) := by unfold Hid mTkB tkN; rw [hN]; rfl
  have HN := (show Hid (_ = _) from hN)
  have HP := (show Hid (PrAt _ _ _ _) from hp)
  clear hN hp HT
  cases g1 : inB (nth Ta.z s.tasks i).body 0 ((p.bodies.length : Int) - 1)
  · have G1 := (show Hid (_ = _) from g1)
    clear g1
    go_enter Try.func53, Try.ntmps53
    go_wp2_with fail
    go_quiet ((go_at_call 52; first | with_reducible exact Calls.quiet_of_same (l6In_b G1.out _)))
    go_wp2_with fail
    go_ret
    exact ⟨by rw [HF.out]; rfl, (by repeat (first | with_reducible exact Below.refl _ _ | (with_reducible refine Below.setCell ?_ ?hs _; case hs => ((try simp); try omega)) | (with_reducible refine Below.alloc ?_ ?hs _; case hs => ((try simp); try omega)) | with_reducible refine Below.drew ?_ | with_reducible refine below_drewN ?_ _))⟩
  have hpl : plB (nth Ta.z s.tasks i).body p.bodies.length = true := by rw [← in_pl]; exact g1
  obtain ⟨bn, hb, hbn⟩ : ∃ bn : Nat, (nth Ta.z s.tasks i).body = (bn : Int) ∧ bn < p.bodies.length := by
    have : 0 ≤ (nth Ta.z s.tasks i).body ∧ (nth Ta.z s.tasks i).body < (p.bodies.length : Int) := by simpa [plB] using hpl
    exact ⟨(nth Ta.z s.tasks i).body.toNat, by omega, by omega⟩
  rw [hb] at g1
  have G1 := (show Hid (_ = _) from g1)
  clear g1
  have hp := HP.out
  obtain ⟨pa, pcap, pe, phm, phc⟩ := hp.2
  injection pe with pe1 pe2 pe3
  subst pe1 pe3
  obtain ⟨b2, off2, av, rfl, hbx, d0, ha⟩ := phc bn hbn
  obtain ⟨aa, ac, rfl, hma, hac⟩ := ha
  have hbx1 : b2 < w.heap.size + 1 := by omega
  have hbx2 : b2 < w.heap.size + 1 + 1 := by omega
  have hbx3 : b2 < w.heap.size + 1 + 1 + 1 := by omega
  have hbw3 : b < w.heap.size + 1 + 1 + 1 := by omega
  have hbl : (bn : Int) < (p.bodies.length : Int) := by omega
  have hA : acts p (nth Ta.z s.tasks i) = nth [] p.bodies bn := by unfold acts; rw [hb]; rfl
  have HNN : Hid ((inB (nth Ta.z s.tasks i).pc 0 (nth [] p.bodies bn).length && inB (nth Ta.z s.tasks i).way 0 4 && inB (nth Ta.z s.tasks i).stage 0 5) = false) := by
    have := HN.out; unfold mNumB at this; rw [hpl, hA] at this; unfold Hid; simpa [Bool.and_assoc] using this
  clear hp HP hA phc hac hpl HN
  cases g2 : inB (nth Ta.z s.tasks i).pc 0 (nth [] p.bodies bn).length
  · have G2 := (show Hid (_ = _) from g2)
    clear g2 HNN
    go_enter Try.func53, Try.ntmps53
    go_wp2_with fail
    go_quiet ((go_at_call 52; first | with_reducible exact Calls.quiet_of_same (l6In_b G1.out _) | with_reducible exact Calls.quiet_of_same (l6In_b G2.out _)))
    go_wp2_with fail
    go_ret
    exact ⟨by rw [HF.out]; rfl, (by repeat (first | with_reducible exact Below.refl _ _ | (with_reducible refine Below.setCell ?_ ?hs _; case hs => ((try simp); try omega)) | (with_reducible refine Below.alloc ?_ ?hs _; case hs => ((try simp); try omega)) | with_reducible refine Below.drew ?_ | with_reducible refine below_drewN ?_ _))⟩
  have G2 := (show Hid (_ = _) from g2)
  cases g3 : inB (nth Ta.z s.tasks i).way 0 4
  · have G3 := (show Hid (_ = _) from g3)
    clear g2 g3 HNN
    go_enter Try.func53, Try.ntmps53
    go_wp2_with fail
    go_quiet ((go_at_call 52; first | with_reducible exact Calls.quiet_of_same (l6In_b G1.out _) | with_reducible exact Calls.quiet_of_same (l6In_b G2.out _) | with_reducible exact Calls.quiet_of_same (l6In_b G3.out _)))
    go_wp2_with fail
    go_ret
    exact ⟨by rw [HF.out]; rfl, (by repeat (first | with_reducible exact Below.refl _ _ | (with_reducible refine Below.setCell ?_ ?hs _; case hs => ((try simp); try omega)) | (with_reducible refine Below.alloc ?_ ?hs _; case hs => ((try simp); try omega)) | with_reducible refine Below.drew ?_ | with_reducible refine below_drewN ?_ _))⟩
  have G3 := (show Hid (_ = _) from g3)
  have g4 : inB (nth Ta.z s.tasks i).stage 0 5 = false := by have := HNN.out; rw [g2, g3] at this; simpa using this
  have G4 := (show Hid (_ = _) from g4)
  clear g2 g3 g4 HNN
  · go_enter Try.func53, Try.ntmps53
    go_wp2_with fail
    go_quiet ((go_at_call 52; first | with_reducible exact Calls.quiet_of_same (l6In_b G1.out _) | with_reducible exact Calls.quiet_of_same (l6In_b G2.out _) | with_reducible exact Calls.quiet_of_same (l6In_b G3.out _) | with_reducible exact Calls.quiet_of_same (l6In_b G4.out _)))
    go_wp2_with fail
    go_ret
    exact ⟨by rw [HF.out]; rfl, (by repeat (first | with_reducible exact Below.refl _ _ | (with_reducible refine Below.setCell ?_ ?hs _; case hs => ((try simp); try omega)) | (with_reducible refine Below.alloc ?_ ?hs _; case hs => ((try simp); try omega)) | with_reducible refine Below.drew ?_ | with_reducible refine below_drewN ?_ _))⟩
end Go.Proofs.Ytgbgjljflgbcaaa

namespace Go.Proofs.Ytgbgjljflgbcaaa
open Go.RowKit
set_option linter.unusedSimpArgs false
set_option linter.unusedVariables false
set_option maxRecDepth 20000
theorem lAt_b (t : Ta) {bb : Bool} (a3 a8 a9 a10 : Option Addr) (c3 c8 c9 c10 : Nat) (n : Nat) (w : World) (hs : t.stage = 0 ∨ t.stage = 1 ∨ t.stage = 2 ∨ t.stage = 3 ∨ t.stage = 4 ∨ t.stage = 5) (nr : t.reads.length ≤ 1048576) (nu : t.puts.length ≤ 1048576) (h : mAtB t n = bb) : Calls Try.prog 134 #[.agg #[.int .i64 t.body, .int .i64 t.pc, .int .i64 t.up, .slice a3 t.regs.length c3, .int .i64 t.way, .int .i64 t.stage, .int .i64 t.at_, .int .i64 t.since, .slice a8 t.old.length c8, .slice a9 t.reads.length c9, .slice a10 t.puts.length c10, .int .i64 t.when_, .int .i64 t.from_], .int .i64 (n : Int)] w fun r w' => r = .returned (.bool bb) ∧ Below w.heap.size w w' := by
  subst h; exact l12At_any t a3 a8 a9 a10 c3 c8 c9 c10 n w hs nr nu
set_option maxHeartbeats 8000000 in
theorem l12Act_rest (p : Pr) (pa0 pa1 : Option Addr) (pc0 pc1 : Nat) (s : Sy) (sa0 sa1 sa3 : Option Addr) (sc0 sc1 sc3 : Nat) (i bn pn : Nat) (w : World) (hp : PrAt w (.slice pa0 p.cells.length pc0) (.slice pa1 p.bodies.length pc1) p) (hT : TasAt w (.slice sa1 s.tasks.length sc1) s.tasks) (hi : i < s.tasks.length) (hb : (nth Ta.z s.tasks i).body = (bn : Int)) (hbn : bn < p.bodies.length) (hpc : (nth Ta.z s.tasks i).pc = (pn : Int)) (hpn : pn ≤ (nth [] p.bodies bn).length) (hw0 : ¬ (nth Ta.z s.tasks i).way = 0) (hw1 : ¬ (nth Ta.z s.tasks i).way = 1) :
    Calls Try.prog 104 #[.agg #[.slice pa0 p.cells.length pc0, .slice pa1 p.bodies.length pc1], .agg #[.slice sa0 s.cells.length sc0, .slice sa1 s.tasks.length sc1, .int .i64 s.clock, .slice sa3 s.log.length sc3], .int .i64 (i : Int)] w fun r w' => r = .returned (.bool (mActB p s i)) ∧ Below w.heap.size w w' := by
  obtain ⟨a, cap, e, hm, hc⟩ := id hT
  injection e with e1 e2 e3
  subst e1 e3
  have hi' : (i : Int) < (s.tasks.length : Int) := by omega
  obtain ⟨b, off, v3, v8, v9, v10, rfl, hbw, c0, c1, c2, c3, c4, c5, c6, c7, c8, c9, c10, c11, c12, h3, h8, h9, h10⟩ := hc i hi
  obtain ⟨a3, e3, rfl, _⟩ := h3.shape
  obtain ⟨a8, e8, rfl, _⟩ := h8.shape
  obtain ⟨a9, e9, rfl, _⟩ := h9.shape
  obtain ⟨a10, e10, rfl, _⟩ := h10.shape
  have HT := (show Hid (TasAt _ _ _) from hT)
  clear h3 h8 h9 h10 hc hT
  have hbw1 : b < w.heap.size + 1 := by omega
  have hbw2 : b < w.heap.size + 1 + 1 := by omega
  obtain ⟨pa, pcap, pe, phm, phc⟩ := hp.2
  injection pe with pe1 pe2 pe3
  subst pe1 pe3
  obtain ⟨b2, off2, av, rfl, hbx, d0, ha⟩ := phc bn hbn
  obtain ⟨aa, ac, rfl, hma, _⟩ := ha
  have hbx1 : b2 < w.heap.size + 1 := by omega
  have hbx2 : b2 < w.heap.size + 1 + 1 := by omega
  have hbl : (bn : Int) < (p.bodies.length : Int) := by omega
  have hA : acts p (nth Ta.z s.tasks i) = nth [] p.bodies bn := by unfold acts; rw [hb]; rfl
  have q0 : ((nth Ta.z s.tasks i).way == 0) = false := by simp [hw0]
  have q1 : ((nth Ta.z s.tasks i).way == 1) = false := by simp [hw1]
  by_cases q2 : (nth Ta.z s.tasks i).way = 2
  · have q2' : ((nth Ta.z s.tasks i).way == 2) = true := by simp [q2]
    have HF : Hid (mActB p s i = ((pn : Int) == ((nth [] p.bodies bn).length : Int))) := by
      unfold Hid mActB tkN; rw [if_neg hw0, if_neg hw1, if_pos q2, hA, hpc]; rfl
    clear phc hA hp HT hw0 hw1
    go_enter Try.func104, Try.ntmps104
    go_wp2_with fail
    go_ret
    exact ⟨by rw [HF.out]; rfl, (by repeat (first | with_reducible exact Below.refl _ _ | (with_reducible refine Below.setCell ?_ ?hs _; case hs => ((try simp); try omega)) | (with_reducible refine Below.alloc ?_ ?hs _; case hs => ((try simp); try omega)) | with_reducible refine Below.drew ?_))⟩
  · have q2' : ((nth Ta.z s.tasks i).way == 2) = false := by simp [q2]
    have HF : Hid (mActB p s i = true) := by unfold Hid mActB tkN; rw [if_neg hw0, if_neg hw1, if_neg q2]
    clear phc hA hp HT
    go_enter Try.func104, Try.ntmps104
    go_wp2_with fail
    go_ret
    exact ⟨by rw [HF.out]; rfl, (by repeat (first | with_reducible exact Below.refl _ _ | (with_reducible refine Below.setCell ?_ ?hs _; case hs => ((try simp); try omega)) | (with_reducible refine Below.alloc ?_ ?hs _; case hs => ((try simp); try omega)) | with_reducible refine Below.drew ?_))⟩
end Go.Proofs.Ytgbgjljflgbcaaa
