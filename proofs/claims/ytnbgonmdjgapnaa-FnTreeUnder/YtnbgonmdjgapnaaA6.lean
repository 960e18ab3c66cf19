import Derived.Test.YtnbgonmdjgapnaaA4b
namespace Go.Proofs.Ytnbgonmdjgapnaa
open Go.RowKit
set_option linter.unusedSimpArgs false
set_option linter.unusedVariables false
set_option maxRecDepth 20000
def upOf (s : Sy) (t : Int) : Int := (nth Ta.z s.tasks t.toNat).up
theorem plB_iff {n e : Int} : plB n e = true ↔ 0 ≤ n ∧ n < e := by simp [plB]
def undB (s : Sy) (t up : Int) : Bool :=
  if h : plB t s.tasks.length = true ∧ plB (upOf s t) t = true then (if upOf s t = up then true else undB s (upOf s t) up) else false
termination_by t.toNat
decreasing_by
  have := plB_iff.1 h.2
  omega
def aboveV (s : Sy) (t : Int) : Int × Bool := if plB t s.tasks.length then (upOf s t, plB (upOf s t) t) else (-1, false)
theorem undB_no {s : Sy} {t : Int} (h : (aboveV s t).2 = false) (up : Int) : undB s t up = false := by
  rw [undB, dif_neg]
  rintro ⟨h1, h2⟩
  simp [aboveV, h1, h2] at h
theorem undB_yes {s : Sy} {t : Int} (h : (aboveV s t).2 = true) (up : Int) : undB s t up = if (aboveV s t).1 = up then true else undB s (aboveV s t).1 up := by
  cases h1 : plB t s.tasks.length
  · simp [aboveV, h1] at h
  · simp [aboveV, h1] at h
    rw [undB, dif_pos ⟨h1, h⟩]
    simp [aboveV, h1]
theorem aboveV_lt {s : Sy} {t : Int} (h : (aboveV s t).2 = true) : 0 ≤ (aboveV s t).1 ∧ (aboveV s t).1 < t := by
  cases h1 : plB t s.tasks.length
  · simp [aboveV, h1] at h
  · simp [aboveV, h1] at h ⊢
    exact plB_iff.1 h
set_option maxHeartbeats 1000000 in
theorem above1_any (s : Sy) (at' : Option Addr) (ct : Nat) (B : Nat) (t : Int) (w : World) (h : TasAt w (.slice at' s.tasks.length ct) s.tasks) (hB : w.cell? ⟨B, 1, none⟩ = some (.slice at' s.tasks.length ct)) :
    Calls Try.prog 171 #[.int .i64 t, .pointer (some ⟨B, 0, none⟩)] w fun r w' => r = .returned (.tuple #[.int .i64 (aboveV s t).1, .bool (aboveV s t).2]) ∧ w' = w := by
  obtain ⟨at'', ct'', e0, hm, hc⟩ := h
  injection e0 with e1 e2 e3
  subst e1 e3
  clear e2
  cases q1 : plB t s.tasks.length
  · have HF : Hid (aboveV s t = (-1, false)) := by simp [Hid, aboveV, q1]
    have Q1 := (show Hid (_ = _) from q1)
    clear q1
    go_enter Try.func171, Try.ntmps171
    go_wp2_with fail
    refine (plc_is Q1.out _).mono ?_
    rintro e w2 ⟨rfl, hw⟩
    have hw := hw.symm
    subst hw
    go_wp2_with fail
    go_ret2
    exact ⟨by rw [HF.out]; first | done | rfl, rfl⟩
  · obtain ⟨k, hk, hlt⟩ := plB_nat q1
    subst hk
    have hlt' : (k : Int) < (s.tasks.length : Int) := by omega
    obtain ⟨b, off, _, _, _, _, rfl, hbw', _, _, c2, _⟩ := hc k hlt
    have HF : Hid (aboveV s (k : Int) = ((nth Ta.z s.tasks k).up, plB (nth Ta.z s.tasks k).up k)) := by simp [Hid, aboveV, q1, upOf]
    have Q1 := (show Hid (_ = _) from q1)
    clear q1
    go_enter Try.func171, Try.ntmps171
    go_wp2_with fail
    refine (plc_is Q1.out _).mono ?_
    rintro e w2 ⟨rfl, hw⟩
    have hw := hw.symm
    subst hw
    go_wp2_with fail
    refine (isPlace_any _ _ _).mono ?_
    rintro e w2 ⟨rfl, hw⟩
    have hw := hw.symm
    subst hw
    go_wp2_with fail
    go_ret2
    exact ⟨by rw [HF.out]; first | done | rfl, rfl⟩
set_option maxHeartbeats 2000000 in
theorem under1_any (s : Sy) (at' : Option Addr) (ct : Nat) (B C : Nat) (task up : Int) (w : World) (h : TasAt w (.slice at' s.tasks.length ct) s.tasks) (hB : w.cell? ⟨B, 1, none⟩ = some (.slice at' s.tasks.length ct)) (hC : w.cell? ⟨C, 0, none⟩ = some (.func (.func 171) #[] #[.pointer (some ⟨B, 0, none⟩)])) :
    Calls Try.prog 142 #[.int .i64 task, .int .i64 up, .pointer (some ⟨C, 0, none⟩)] w fun r w' => r = .returned (.bool (undB s task up)) ∧ w' = w := by
  have HT := (show Hid (TasAt _ _ _) from h)
  clear h
  go_enter Try.func142, Try.ntmps142
  go_wp2_with fail
  refine (above1_any s at' ct B task _ HT.out hB).mono ?_
  rintro e w2 ⟨rfl, hw⟩
  have hw := hw.symm
  subst hw
  go_wp2_with fail
  go_loopw [6, 7] (fun a th w' => ∃ t : Int, a = .int .i64 (aboveV s t).1 ∧ th = .bool (aboveV s t).2 ∧ Hid (undB s task up = undB s t up) ∧ w' = w) (fun a th _ => match th with | .bool true => (intOf a).toNat + 1 | _ => 0)
  case atStart => exact ⟨task, rfl, rfl, rfl, rfl⟩
  case round =>
    obtain ⟨t, rfl, rfl, HX, hw⟩ := hrel
    subst hw
    cases q1 : (aboveV s t).2
    · have HF : Hid (undB s task up = false) := HX.out.trans (undB_no q1 up)
      clear q1
      go_wp2_with fail
      go_ret
      exact ⟨by rw [HF.out]; first | done | rfl, rfl⟩
    · have hlt := aboveV_lt q1
      have hy := undB_yes q1 up
      by_cases q2 : (aboveV s t).1 = up
      · have HF : Hid (undB s task up = true) := by unfold Hid; rw [HX.out, hy, if_pos q2]
        have q2' : ((aboveV s t).1 == up) = true := by simp [q2]
        clear q1 hy q2
        go_wp2_with fail
        go_ret
        exact ⟨by rw [HF.out]; first | done | rfl, rfl⟩
      · have HY : Hid (undB s task up = undB s (aboveV s t).1 up) := by unfold Hid; rw [HX.out, hy, if_neg q2]
        have q2' : ((aboveV s t).1 == up) = false := by simp [q2]
        clear q1 hy q2
        go_wp2_with fail
        refine (above1_any s at' ct B (aboveV s t).1 _ HT.out hB).mono ?_
        rintro e w2 ⟨rfl, hw⟩
        have hw := hw.symm
        subst hw
        go_wp2_with fail
        go_roundw
        case rel => exact ⟨(aboveV s t).1, rfl, rfl, HY, by first | trivial | rfl⟩
        case measure =>
          cases q3 : (aboveV s (aboveV s t).1).2
          · simp [intOf]
          · have := aboveV_lt q3
            simp [intOf]; omega
theorem treeAbove_any (s : Sy) (ac at' al : Option Addr) (cc ct cl : Nat) (w : World) :
    Calls Try.prog 141 #[.agg #[.slice ac s.cells.length cc, .slice at' s.tasks.length ct, .int .i64 s.clock, .slice al s.log.length cl]] w fun r w' => r = .returned (.func (.func 171) #[] #[.pointer (some ⟨w.heap.size, 0, none⟩)]) ∧ w' = w.alloc (.cells #[.slice ac s.cells.length cc, .slice at' s.tasks.length ct, .int .i64 s.clock, .slice al s.log.length cl] 32) := by
  go_enter Try.func141, Try.ntmps141
  go_wp2_with fail
  go_ret
  exact ⟨rfl, rfl⟩
set_option maxHeartbeats 1000000 in
theorem treeUnderF_any (s : Sy) (ac at' al : Option Addr) (cc ct cl : Nat) (w : World) :
    Calls Try.prog 95 #[.agg #[.slice ac s.cells.length cc, .slice at' s.tasks.length ct, .int .i64 s.clock, .slice al s.log.length cl]] w fun r w' => ∃ B C, r = .returned (.func (.func 142) #[] #[.pointer (some ⟨C, 0, none⟩)]) ∧ w'.cell? ⟨B, 1, none⟩ = some (.slice at' s.tasks.length ct) ∧ w'.cell? ⟨C, 0, none⟩ = some (.func (.func 171) #[] #[.pointer (some ⟨B, 0, none⟩)]) ∧ Below w.heap.size w w' := by
  go_enter Try.func95, Try.ntmps95
  go_wp2_with fail
  refine (treeAbove_any s _ _ _ _ _ _ _).mono ?_
  rintro e w2 ⟨rfl, rfl⟩
  go_wp2_with fail
  go_ret
  exact ⟨w.heap.size + 1, w.heap.size + 1 + 1, rfl, by simp [go_sem], by simp [go_sem], (by repeat (first | with_reducible exact Below.refl _ _ | (with_reducible refine Below.setCell ?_ ?hs _; case hs => ((try simp); try omega)) | (with_reducible refine Below.alloc ?_ ?hs _; case hs => ((try simp); try omega)) | with_reducible refine Below.drew ?_ | with_reducible refine below_drewN ?_ _))⟩
set_option maxHeartbeats 1000000 in
theorem treeUnder_any (s : Sy) (ac at' al : Option Addr) (cc ct cl : Nat) (task up : Int) (w : World) (h : TasAt w (.slice at' s.tasks.length ct) s.tasks) :
    Calls Try.prog 43 #[.agg #[.slice ac s.cells.length cc, .slice at' s.tasks.length ct, .int .i64 s.clock, .slice al s.log.length cl], .int .i64 task, .int .i64 up] w fun r w' => r = .returned (.bool (undB s task up)) ∧ Below w.heap.size w w' := by
  have HT := (show Hid (TasAt _ _ _) from h)
  clear h
  go_enter Try.func43, Try.ntmps43
  go_wp2_with fail
  refine (treeUnderF_any s _ _ _ _ _ _ _).mono ?_
  rintro e w2 ⟨B, C, rfl, hB, hC, hb⟩
  have HB : Hid (Below w.heap.size w w2) := below_then (by repeat (first | with_reducible exact Below.refl _ _ | (with_reducible refine Below.setCell ?_ ?hs _; case hs => ((try simp); try omega)) | (with_reducible refine Below.alloc ?_ ?hs _; case hs => ((try simp); try omega)) | with_reducible refine Below.drew ?_ | with_reducible refine below_drewN ?_ _)) (by (try simp); try omega) hb
  clear hb
  go_wp2_with fail
  refine (under1_any s at' ct B C task up _ (HT.out.mono HB.out) hB hC).mono ?_
  rintro e w3 ⟨rfl, hw⟩
  have hw := hw.symm
  subst hw
  go_wp2_with fail
  go_ret
  exact ⟨rfl, HB.out⟩
end Go.Proofs.Ytnbgonmdjgapnaa
