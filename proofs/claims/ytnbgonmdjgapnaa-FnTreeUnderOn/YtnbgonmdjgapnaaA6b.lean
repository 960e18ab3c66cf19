import Derived.Test.YtnbgonmdjgapnaaA6
namespace Go.Proofs.Ytnbgonmdjgapnaa
open Go.RowKit
set_option linter.unusedSimpArgs false
set_option linter.unusedVariables false
set_option maxRecDepth 20000
theorem aboveV_at {s : Sy} {k : Nat} (h : plB (k : Int) s.tasks.length = true) : aboveV s (k : Int) = ((nth Ta.z s.tasks k).up, plB (nth Ta.z s.tasks k).up k) := by simp [aboveV, h, upOf]
theorem plB_no {n e : Int} (h : ¬ (0 ≤ n ∧ n < e)) : plB n e = false := by simpa [plB] using h
set_option maxHeartbeats 2000000 in
theorem sTreeUnder_any (s : Sy) (ac at' al : Option Addr) (cc ct cl : Nat) (task up : Int) (w : World) (h : TasAt w (.slice at' s.tasks.length ct) s.tasks) (hn : s.tasks.length ≤ 1048576) :
    Calls Try.prog 44 #[.agg #[.slice ac s.cells.length cc, .slice at' s.tasks.length ct, .int .i64 s.clock, .slice al s.log.length cl], .int .i64 task, .int .i64 up] w fun r w' => r = .returned (.bool (undB s task up)) ∧ Below w.heap.size w w' := by
  obtain ⟨at'', ct'', e0, hm, hc⟩ := h
  injection e0 with e1 e2 e3
  subst e1 e3
  clear e2
  go_enter Try.func44, Try.ntmps44
  go_wp2_with fail
  go_loopw [1] (fun a w' => ∃ t : Int, a = .int .i64 t ∧ Hid (undB s task up = undB s t up) ∧ w' = w.alloc (.cells #[.slice ac s.cells.length cc, .slice at' s.tasks.length ct, .int .i64 s.clock, .slice al s.log.length cl] 32)) (fun a _ => (intOf a + 1).toNat)
  case atStart => exact ⟨task, rfl, rfl, rfl⟩
  case round =>
    obtain ⟨t, rfl, HX, rfl⟩ := hrel
    cases q1 : plB t s.tasks.length
    · have HF : Hid (undB s task up = false) := HX.out.trans (undB_no (by simp [aboveV, q1]) up)
      have Q1 : Hid (inB t 0 ((s.tasks.length : Int) - 1) = false) := (inB_pl _ _).trans q1
      clear q1 hc
      go_wp2_with fail
      refine (lin_is Q1.out _).mono ?_
      rintro e w2 ⟨rfl, hw⟩
      have hw := hw.symm
      subst hw
      go_wp2_with fail
      go_ret
      exact ⟨by rw [HF.out]; first | done | rfl, (by repeat (first | with_reducible exact Below.refl _ _ | (with_reducible refine Below.setCell ?_ ?hs _; case hs => ((try simp); try omega)) | (with_reducible refine Below.alloc ?_ ?hs _; case hs => ((try simp); try omega)) | with_reducible refine Below.drew ?_ | with_reducible refine below_drewN ?_ _))⟩
    obtain ⟨k, hk, hlt⟩ := plB_nat q1
    subst hk
    have hlt' : (k : Int) < (s.tasks.length : Int) := by omega
    obtain ⟨b, off, _, _, _, _, rfl, hbw', _, _, c2, _⟩ := hc k hlt
    have hne : b ≠ w.heap.size := by omega
    have Q1 : Hid (inB (k : Int) 0 ((s.tasks.length : Int) - 1) = true) := (inB_pl _ _).trans q1
    by_cases q2 : (nth Ta.z s.tasks k).up < (k : Int)
    case neg =>
      have HF : Hid (undB s task up = false) := HX.out.trans (undB_no (by rw [aboveV_at q1]; exact plB_no (by omega)) up)
      clear q1 hc
      go_wp2_with fail
      refine (lin_is Q1.out _).mono ?_
      rintro e w2 ⟨rfl, hw⟩
      have hw := hw.symm
      subst hw
      go_wp2_with fail
      go_ret
      exact ⟨by rw [HF.out]; first | done | rfl, (by repeat (first | with_reducible exact Below.refl _ _ | (with_reducible refine Below.setCell ?_ ?hs _; case hs => ((try simp); try omega)) | (with_reducible refine Below.alloc ?_ ?hs _; case hs => ((try simp); try omega)) | with_reducible refine Below.drew ?_ | with_reducible refine below_drewN ?_ _))⟩
    by_cases q3 : (nth Ta.z s.tasks k).up = up
    · have q3' : ((nth Ta.z s.tasks k).up == up) = true := by simp [q3]
      have HF : Hid (undB s task up = decide (up ≥ 0)) := by
        unfold Hid
        rw [HX.out]
        by_cases q4 : 0 ≤ up
        · rw [undB_yes (by rw [aboveV_at q1]; exact plB_iff.2 (by omega))]
          simp [aboveV_at q1, q3, q4]
        · rw [undB_no (by rw [aboveV_at q1]; exact plB_no (by omega))]
          simp [q4]
      clear q1 hc q3
      go_wp2_with fail
      refine (lin_is Q1.out _).mono ?_
      rintro e w2 ⟨rfl, hw⟩
      have hw := hw.symm
      subst hw
      go_wp2_with fail
      go_ret
      exact ⟨by rw [HF.out]; first | done | rfl, (by repeat (first | with_reducible exact Below.refl _ _ | (with_reducible refine Below.setCell ?_ ?hs _; case hs => ((try simp); try omega)) | (with_reducible refine Below.alloc ?_ ?hs _; case hs => ((try simp); try omega)) | with_reducible refine Below.drew ?_ | with_reducible refine below_drewN ?_ _))⟩
    · have q3' : ((nth Ta.z s.tasks k).up == up) = false := by simp [q3]
      have HY : Hid (undB s task up = undB s (nth Ta.z s.tasks k).up up) := by
        unfold Hid
        rw [HX.out]
        by_cases q4 : 0 ≤ (nth Ta.z s.tasks k).up
        · rw [undB_yes (by rw [aboveV_at q1]; exact plB_iff.2 (by omega))]
          simp [aboveV_at q1, q3]
        · rw [undB_no (by rw [aboveV_at q1]; exact plB_no (by omega)), undB_no (by have : plB (nth Ta.z s.tasks k).up s.tasks.length = false := plB_no (by omega); simp [aboveV, this])]
      clear q1 hc q3
      go_wp2_with fail
      refine (lin_is Q1.out _).mono ?_
      rintro e w2 ⟨rfl, hw⟩
      have hw := hw.symm
      subst hw
      go_wp2_with fail
      go_roundw
      case rel => exact ⟨(nth Ta.z s.tasks k).up, rfl, HY, by first | trivial | rfl⟩
      case measure => simp [intOf]; omega
end Go.Proofs.Ytnbgonmdjgapnaa
