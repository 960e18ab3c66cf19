import Derived.Test.YtdgihncobihbgaaGreatK4
/-
  Tasks in form: the program (by mky.py).
-/
namespace Go.Proofs.YtdgihncobihbgaaGreat
open Go.RowKit
set_option linter.unusedSimpArgs false
set_option linter.unusedVariables false
set_option maxRecDepth 20000
set_option maxHeartbeats 20000000 in
theorem taskNumsInForm_any (p : Pr) (pa0 pa1 : Option Addr) (pc0 pc1 : Nat) (t : Ta) (a3 a8 a9 a10 : Option Addr) (c3 c8 c9 c10 : Nat) (w : World) (hp : PrAt w (.slice pa0 p.cells.length pc0) (.slice pa1 p.bodies.length pc1) p) (h3 : IntsAt w (.slice a3 t.regs.length c3) t.regs) (h8 : IntsAt w (.slice a8 t.old.length c8) t.old) :
    Calls Tryz.prog 72 #[.agg #[.slice pa0 p.cells.length pc0, .slice pa1 p.bodies.length pc1], .agg #[.int .i64 t.body, .int .i64 t.pc, .int .i64 t.up, .slice a3 t.regs.length c3, .int .i64 t.way, .int .i64 t.stage, .int .i64 t.at_, .int .i64 t.since, .slice a8 t.old.length c8, .slice a9 t.reads.length c9, .slice a10 t.puts.length c10, .int .i64 t.when_, .int .i64 t.from_]] w fun r w' => r = .returned (.bool (tnB p t)) ∧ Below w.heap.size w w' := by
  have H3 := (show Hid (∀ W, Below w.heap.size w W → IntsAt W _ _) from fun W hW => h3.mono hW)
  have H8 := (show Hid (∀ W, Below w.heap.size w W → IntsAt W _ _) from fun W hW => h8.mono hW)
  obtain ⟨a, cap, e, hm, hc⟩ := hp.2
  injection e with e1 e2 e3
  subst e1 e3
  clear hp h3 h8
  cases g1 : plB t.body p.bodies.length
  · have G1 := (show Hid (_ = _) from g1)
    have HF : Hid (tnB p t = false) := by simp [Hid, tnB, g1]
    clear hc
    go_enter Tryz.func72, Tryz.ntmps72
    go_wp2_with fail
    clear g1
    go_quiet ((go_at_call 77; with_reducible exact Calls.quiet_of_same (isPlace_b G1.out _)))
    go_wp2_with fail
    go_ret
    exact ⟨by rw [HF.out]; rfl, (by repeat (first | with_reducible exact Below.refl _ _ | (with_reducible refine Below.setCell ?_ ?hs _; case hs => ((try simp); try omega)) | (with_reducible refine Below.alloc ?_ ?hs _; case hs => ((try simp); try omega)) | with_reducible refine Below.drew ?_ | with_reducible refine below_drewN ?_ _))⟩
  obtain ⟨bn, hbn⟩ : ∃ bn : Nat, t.body = (bn : Int) := ⟨t.body.toNat, by rw [plB] at g1; simp at g1; omega⟩
  have hbl : (bn : Int) < (p.bodies.length : Int) := by rw [plB] at g1; simp at g1; omega
  have hbl' : bn < p.bodies.length := by omega
  obtain ⟨b, off, av, rfl, hbw, c0, ha⟩ := hc bn hbl'
  obtain ⟨aa, ac, rfl, hma, _⟩ := ha
  have hA : acts p t = nth [] p.bodies bn := by unfold acts; rw [hbn]; rfl
  have g1' : plB (bn : Int) p.bodies.length = true := by rw [← hbn]; exact g1
  have hbw1 : b < w.heap.size + 1 := by omega
  have G1 := (show Hid (_ = _) from g1')
  have HA := (show Hid (_ = _) from hA)
  have HG1 := (show Hid (_ = _) from g1)
  clear hc g1 g1' hA
  cases g2 : inB t.pc 0 (nth [] p.bodies bn).length
  · have HF : Hid (tnB p t = false) := by simp [Hid, tnB, HA.out, g2]
    have G2 := (show Hid (_ = _) from g2)
    clear g2
    go_enter Tryz.func72, Tryz.ntmps72
    go_wp2_with fail
    go_quiet ((first | (go_at_call 77; with_reducible exact Calls.quiet_of_same (isPlace_b G1.out _)) | (go_at_call 39; with_reducible exact Calls.quiet_of_same (isUpTo_b G2.out _))))
    go_wp2_with fail
    go_ret
    exact ⟨by rw [HF.out]; rfl, (by repeat (first | with_reducible exact Below.refl _ _ | (with_reducible refine Below.setCell ?_ ?hs _; case hs => ((try simp); try omega)) | (with_reducible refine Below.alloc ?_ ?hs _; case hs => ((try simp); try omega)) | with_reducible refine Below.drew ?_ | with_reducible refine below_drewN ?_ _))⟩
  have G2 := (show Hid (_ = _) from g2)
  clear g2
  cases g3 : rgB t.regs
  · have HF : Hid (tnB p t = false) := by simp [Hid, tnB, HA.out, g3]
    have G3 := (show Hid (_ = _) from g3)
    clear g3
    go_enter Tryz.func72, Tryz.ntmps72
    go_wp2_with fail
    go_quiet ((first | (go_at_call 77; with_reducible exact Calls.quiet_of_same (isPlace_b G1.out _)) | (go_at_call 39; with_reducible exact Calls.quiet_of_same (isUpTo_b G2.out _)) | (go_at_call 97; with_reducible refine Calls.quiet_of_same (regs_b G3.out _ (H3.out _ ?hb)); case hb => exact (by repeat (first | with_reducible exact Below.refl _ _ | (with_reducible refine Below.setCell ?_ ?hs _; case hs => ((try simp); try omega)) | (with_reducible refine Below.alloc ?_ ?hs _; case hs => ((try simp); try omega)) | with_reducible refine Below.drew ?_ | with_reducible refine below_drewN ?_ _)))))
    go_wp2_with fail
    go_ret
    exact ⟨by rw [HF.out]; rfl, (by repeat (first | with_reducible exact Below.refl _ _ | (with_reducible refine Below.setCell ?_ ?hs _; case hs => ((try simp); try omega)) | (with_reducible refine Below.alloc ?_ ?hs _; case hs => ((try simp); try omega)) | with_reducible refine Below.drew ?_ | with_reducible refine below_drewN ?_ _))⟩
  have G3 := (show Hid (_ = _) from g3)
  clear g3
  cases g4 : rgB t.old
  · have HF : Hid (tnB p t = false) := by simp [Hid, tnB, HA.out, g4]
    have G4 := (show Hid (_ = _) from g4)
    clear g4
    go_enter Tryz.func72, Tryz.ntmps72
    go_wp2_with fail
    go_quiet ((first | (go_at_call 77; with_reducible exact Calls.quiet_of_same (isPlace_b G1.out _)) | (go_at_call 39; with_reducible exact Calls.quiet_of_same (isUpTo_b G2.out _)) | (go_at_call 97; with_reducible refine Calls.quiet_of_same (regs_b G3.out _ (H3.out _ ?hb)); case hb => exact (by repeat (first | with_reducible exact Below.refl _ _ | (with_reducible refine Below.setCell ?_ ?hs _; case hs => ((try simp); try omega)) | (with_reducible refine Below.alloc ?_ ?hs _; case hs => ((try simp); try omega)) | with_reducible refine Below.drew ?_ | with_reducible refine below_drewN ?_ _))) | (go_at_call 97; with_reducible refine Calls.quiet_of_same (regs_b G4.out _ (H8.out _ ?hb)); case hb => exact (by repeat (first | with_reducible exact Below.refl _ _ | (with_reducible refine Below.setCell ?_ ?hs _; case hs => ((try simp); try omega)) | (with_reducible refine Below.alloc ?_ ?hs _; case hs => ((try simp); try omega)) | with_reducible refine Below.drew ?_ | with_reducible refine below_drewN ?_ _)))))
    go_wp2_with fail
    go_ret
    exact ⟨by rw [HF.out]; rfl, (by repeat (first | with_reducible exact Below.refl _ _ | (with_reducible refine Below.setCell ?_ ?hs _; case hs => ((try simp); try omega)) | (with_reducible refine Below.alloc ?_ ?hs _; case hs => ((try simp); try omega)) | with_reducible refine Below.drew ?_ | with_reducible refine below_drewN ?_ _))⟩
  have G4 := (show Hid (_ = _) from g4)
  clear g4
  cases g5 : inB t.way 0 4
  · have HF : Hid (tnB p t = false) := by simp [Hid, tnB, HA.out, g5]
    have G5 := (show Hid (_ = _) from g5)
    clear g5
    go_enter Tryz.func72, Tryz.ntmps72
    go_wp2_with fail
    go_quiet ((first | (go_at_call 77; with_reducible exact Calls.quiet_of_same (isPlace_b G1.out _)) | (go_at_call 39; with_reducible exact Calls.quiet_of_same (isUpTo_b G2.out _)) | (go_at_call 97; with_reducible refine Calls.quiet_of_same (regs_b G3.out _ (H3.out _ ?hb)); case hb => exact (by repeat (first | with_reducible exact Below.refl _ _ | (with_reducible refine Below.setCell ?_ ?hs _; case hs => ((try simp); try omega)) | (with_reducible refine Below.alloc ?_ ?hs _; case hs => ((try simp); try omega)) | with_reducible refine Below.drew ?_ | with_reducible refine below_drewN ?_ _))) | (go_at_call 97; with_reducible refine Calls.quiet_of_same (regs_b G4.out _ (H8.out _ ?hb)); case hb => exact (by repeat (first | with_reducible exact Below.refl _ _ | (with_reducible refine Below.setCell ?_ ?hs _; case hs => ((try simp); try omega)) | (with_reducible refine Below.alloc ?_ ?hs _; case hs => ((try simp); try omega)) | with_reducible refine Below.drew ?_ | with_reducible refine below_drewN ?_ _))) | (go_at_call 39; with_reducible exact Calls.quiet_of_same (isUpTo_b G5.out _))))
    go_wp2_with fail
    go_ret
    exact ⟨by rw [HF.out]; rfl, (by repeat (first | with_reducible exact Below.refl _ _ | (with_reducible refine Below.setCell ?_ ?hs _; case hs => ((try simp); try omega)) | (with_reducible refine Below.alloc ?_ ?hs _; case hs => ((try simp); try omega)) | with_reducible refine Below.drew ?_ | with_reducible refine below_drewN ?_ _))⟩
  have G5 := (show Hid (_ = _) from g5)
  clear g5
  have HF : Hid (tnB p t = inB t.stage 0 5) := by simp [Hid, tnB, HG1.out, HA.out, G2.out, G3.out, G4.out, G5.out]
  go_enter Tryz.func72, Tryz.ntmps72
  go_wp2_with fail
  go_quiet ((first | (go_at_call 77; with_reducible exact Calls.quiet_of_same (isPlace_b G1.out _)) | (go_at_call 39; with_reducible exact Calls.quiet_of_same (isUpTo_b G2.out _)) | (go_at_call 97; with_reducible refine Calls.quiet_of_same (regs_b G3.out _ (H3.out _ ?hb)); case hb => exact (by repeat (first | with_reducible exact Below.refl _ _ | (with_reducible refine Below.setCell ?_ ?hs _; case hs => ((try simp); try omega)) | (with_reducible refine Below.alloc ?_ ?hs _; case hs => ((try simp); try omega)) | with_reducible refine Below.drew ?_ | with_reducible refine below_drewN ?_ _))) | (go_at_call 97; with_reducible refine Calls.quiet_of_same (regs_b G4.out _ (H8.out _ ?hb)); case hb => exact (by repeat (first | with_reducible exact Below.refl _ _ | (with_reducible refine Below.setCell ?_ ?hs _; case hs => ((try simp); try omega)) | (with_reducible refine Below.alloc ?_ ?hs _; case hs => ((try simp); try omega)) | with_reducible refine Below.drew ?_ | with_reducible refine below_drewN ?_ _))) | (go_at_call 39; with_reducible exact Calls.quiet_of_same (isUpTo_b G5.out _)) | (go_at_call 39; with_reducible exact Calls.quiet_of_same (isUpTo_any _ _ _))))
  go_wp2_with fail
  go_ret
  exact ⟨by rw [HF.out]; rfl, (by repeat (first | with_reducible exact Below.refl _ _ | (with_reducible refine Below.setCell ?_ ?hs _; case hs => ((try simp); try omega)) | (with_reducible refine Below.alloc ?_ ?hs _; case hs => ((try simp); try omega)) | with_reducible refine Below.drew ?_ | with_reducible refine below_drewN ?_ _))⟩


end Go.Proofs.YtdgihncobihbgaaGreat

/-
  Tasks in form: the program (by mky.py).
-/
namespace Go.Proofs.YtdgihncobihbgaaGreat
open Go.RowKit
set_option linter.unusedSimpArgs false
set_option linter.unusedVariables false
set_option maxRecDepth 20000
set_option maxHeartbeats 400000 in
theorem isLive_v (t : Ta) (b : Bool) (hb : liB t = b) (x0 x1 x2 x5 x6 x7 x11 x12 : Int) (n3 n8 n9 n10 : Nat) (a3 a8 a9 a10 : Option Addr) (c3 c8 c9 c10 : Nat) (w : World) :
    Calls Tryz.prog 98 #[.agg #[.int .i64 x0, .int .i64 x1, .int .i64 x2, .slice a3 n3 c3, .int .i64 t.way, .int .i64 x5, .int .i64 x6, .int .i64 x7, .slice a8 n8 c8, .slice a9 n9 c9, .slice a10 n10 c10, .int .i64 x11, .int .i64 x12]] w fun r w' => r = .returned (.bool b) ∧ Below w.heap.size w w' := by
  subst hb
  by_cases h1 : t.way = 0
  · have HF : Hid (liB t = true) := by simp [Hid, liB, h1]
    have h1' : (t.way == 0) = true := by simp [h1]
    go_enter Tryz.func98, Tryz.ntmps98
    go_wp2_with fail
    go_ret
    exact ⟨by rw [HF.out]; rfl, (by repeat (first | with_reducible exact Below.refl _ _ | (with_reducible refine Below.setCell ?_ ?hs _; case hs => ((try simp); try omega)) | (with_reducible refine Below.alloc ?_ ?hs _; case hs => ((try simp); try omega)) | with_reducible refine Below.drew ?_))⟩
  · have HF : Hid (liB t = decide (t.way = 1)) := by simp [Hid, liB, h1]
    have h1' : (t.way == 0) = false := by simp [h1]
    go_enter Tryz.func98, Tryz.ntmps98
    go_wp2_with fail
    go_ret
    exact ⟨by rw [HF.out]; rfl, (by repeat (first | with_reducible exact Below.refl _ _ | (with_reducible refine Below.setCell ?_ ?hs _; case hs => ((try simp); try omega)) | (with_reducible refine Below.alloc ?_ ?hs _; case hs => ((try simp); try omega)) | with_reducible refine Below.drew ?_))⟩

set_option maxHeartbeats 2000000 in
theorem upInForm_any (s : Sy) (sa0 sa1 sa3 : Option Addr) (sc0 sc1 sc3 : Nat) (i : Nat) (w : World) (hT : TasAt w (.slice sa1 s.tasks.length sc1) s.tasks) (hi : i < s.tasks.length) :
    Calls Tryz.prog 73 #[.agg #[.slice sa0 s.cells.length sc0, .slice sa1 s.tasks.length sc1, .int .i64 s.clock, .slice sa3 s.log.length sc3], .int .i64 (i : Int)] w fun r w' => r = .returned (.bool (upfB s i)) ∧ Below w.heap.size w w' := by
  obtain ⟨a, cap, e, hm, hc⟩ := hT
  injection e with e1 e2 e3
  subst e1 e3
  have hi' : (i : Int) < (s.tasks.length : Int) := by omega
  obtain ⟨b, off, v3, v8, v9, v10, rfl, hbw, c0, c1, c2, c3, c4, c5, c6, c7, c8, c9, c10, c11, c12, h3, h8, h9, h10⟩ := hc i hi
  obtain ⟨a3, e3, rfl, _⟩ := h3.shape
  obtain ⟨a8, e8, rfl, _⟩ := h8.shape
  obtain ⟨a9, e9, rfl, _⟩ := h9.shape
  obtain ⟨a10, e10, rfl, _⟩ := h10.shape
  clear h3 h8 h9 h10
  have hbw1 : b < w.heap.size + 1 := by omega
  by_cases hz : i = 0
  · have HF : Hid (upfB s i = decide ((nth Ta.z s.tasks i).up = -1)) := by unfold Hid upfB; rw [if_pos hz]; rfl
    have hz' : ((i : Int) == 0) = true := by simp [hz]
    clear hz hc
    go_enter Tryz.func73, Tryz.ntmps73
    go_wp2_with fail
    go_ret
    exact ⟨by rw [HF.out]; rfl, (by repeat (first | with_reducible exact Below.refl _ _ | (with_reducible refine Below.setCell ?_ ?hs _; case hs => ((try simp); try omega)) | (with_reducible refine Below.alloc ?_ ?hs _; case hs => ((try simp); try omega)) | with_reducible refine Below.drew ?_))⟩
  have hz' : ((i : Int) == 0) = false := by simp [hz]
  have hz2 : ¬ (i : Int) = 0 := by omega
  cases g1 : plB (nth Ta.z s.tasks i).up i
  · have HF : Hid (upfB s i = false) := by unfold Hid upfB tkN; rw [if_neg hz, g1]; rfl
    have G1 := (show Hid (_ = _) from g1)
    clear hz hc g1
    go_enter Tryz.func73, Tryz.ntmps73
    go_wp2_with (go_at_call 77; refine (isPlace_b G1.out _).mono ?_; rintro e w' ⟨rfl, hw⟩; have hw := hw.symm; subst hw)
    go_ret
    exact ⟨by rw [HF.out]; rfl, (by repeat (first | with_reducible exact Below.refl _ _ | (with_reducible refine Below.setCell ?_ ?hs _; case hs => ((try simp); try omega)) | (with_reducible refine Below.alloc ?_ ?hs _; case hs => ((try simp); try omega)) | with_reducible refine Below.drew ?_))⟩
  obtain ⟨un, hun⟩ : ∃ un : Nat, (nth Ta.z s.tasks i).up = (un : Int) := ⟨(nth Ta.z s.tasks i).up.toNat, by rw [plB] at g1; simp at g1; omega⟩
  have hui : un < s.tasks.length := by rw [plB] at g1; simp at g1; omega
  have hui' : (un : Int) < (s.tasks.length : Int) := by omega
  have g1' : plB (un : Int) i = true := by rw [← hun]; exact g1
  have G1 := (show Hid (_ = _) from g1')
  clear g1'
  cases g2 : liB (nth Ta.z s.tasks i)
  · have HF : Hid (upfB s i = true) := by unfold Hid upfB tkN; rw [if_neg hz, g1, g2]; rfl
    have G2 := (show Hid (_ = _) from g2)
    clear hz hc g1 g2
    go_enter Tryz.func73, Tryz.ntmps73
    go_wp2_with (first | (go_at_call 77; refine (isPlace_b G1.out _).mono ?_; rintro e w' ⟨rfl, hw⟩; have hw := hw.symm; subst hw) | (go_at_call 98; refine (isLive_v (nth Ta.z s.tasks i) _ G2.out _ _ _ _ _ _ _ _ _ _ _ _ _ _ _ _ _ _ _ _ _).mono ?_; rintro e w1 ⟨rfl, hb1⟩; have HB : Hid (Below w.heap.size w w1) := below_then (by repeat (first | with_reducible exact Below.refl _ _ | (with_reducible refine Below.setCell ?_ ?hs _; case hs => ((try simp); try omega)) | (with_reducible refine Below.alloc ?_ ?hs _; case hs => ((try simp); try omega)) | with_reducible refine Below.drew ?_)) (by (try simp); try omega) hb1; clear hb1))
    go_ret
    exact ⟨by rw [HF.out]; rfl, HB.out⟩
  · obtain ⟨b', off', u3, u8, u9, u10, e', hbw', d0, d1, d2, d3, d4, _⟩ := hc un hui
    injection e' with e2; injection e2 with e5 e6; subst e5 e6
    have HF : Hid (upfB s i = decide ((nth Ta.z s.tasks un).way = 1)) := by unfold Hid upfB tkN; rw [if_neg hz, g1, g2, hun]; rfl
    have G2 := (show Hid (_ = _) from g2)
    clear hz hc g1 g2 d0 d1 d2 d3
    go_enter Tryz.func73, Tryz.ntmps73
    go_wp2_with (first | (go_at_call 77; refine (isPlace_b G1.out _).mono ?_; rintro e w' ⟨rfl, hw⟩; have hw := hw.symm; subst hw) | (go_at_call 98; refine (isLive_v (nth Ta.z s.tasks i) _ G2.out _ _ _ _ _ _ _ _ _ _ _ _ _ _ _ _ _ _ _ _ _).mono ?_; rintro e w1 ⟨rfl, hb1⟩; have HB : Hid (Below w.heap.size w w1) := below_then (by repeat (first | with_reducible exact Below.refl _ _ | (with_reducible refine Below.setCell ?_ ?hs _; case hs => ((try simp); try omega)) | (with_reducible refine Below.alloc ?_ ?hs _; case hs => ((try simp); try omega)) | with_reducible refine Below.drew ?_)) (by (try simp); try omega) hb1; obtain ⟨hq1, hq2⟩ := bcell hb1; have s1 : w.heap.size < w1.heap.size := (by have := hb1.size; (try simp at this); omega); have s2 : w.heap.size + 1 < w1.heap.size := (by have := hb1.size; (try simp at this); omega); clear hb1))
    go_ret
    exact ⟨by rw [HF.out]; rfl, HB.out⟩

end Go.Proofs.YtdgihncobihbgaaGreat
