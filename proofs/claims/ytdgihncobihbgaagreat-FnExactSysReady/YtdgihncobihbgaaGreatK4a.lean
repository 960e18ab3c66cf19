/-
  Tasks in form: the program (by mky.py).
-/
import Derived.Test.YtdgihncobihbgaaGreatK4
namespace Go.Proofs.YtdgihncobihbgaaGreat
open Go.RowKit
set_option linter.unusedSimpArgs false
set_option linter.unusedVariables false
set_option maxRecDepth 20000
set_option maxHeartbeats 20000000 in
theorem taskNumsInForm_any (p : Pr) (pa0 pa1 : Option Addr) (pc0 pc1 : Nat) (t : Ta) (a3 a8 a9 a10 : Option Addr) (c3 c8 c9 c10 : Nat) (w : World) (hp : PrAt w (.slice pa0 p.cells.length pc0) (.slice pa1 p.bodies.length pc1) p) (h3 : IntsAt w (.slice a3 t.regs.length c3) t.regs) (h8 : IntsAt w (.slice a8 t.old.length c8) t.old) :
    Calls Tryz.prog 72 #[.agg #[.slice pa0 p.cells.length pc0, .slice pa1 p.bodies.length pc1], .agg #[.int .i64 t.body, .int .i64 t.pc, .int .i64 t.up, .slice a3 t.regs.length c3, .int .i64 t.way, .int .i64 t.stage, .int .i64 t.at_, .int .i64 t.since, .slice a8 t.old.length c8, .slice a9 t.reads.length c9, .slice a10 t.puts.length c10, .int .i64 t.when_, .int .i64 t.from_]] w fun r w' => r = .returned (.bool (tnB p t)) ∧ Below w.heap.size w w' := by
  have H3 := (show Hid (∀ W, Below w.heap.size w W → IntsAt W _ _) from fun W hW => h3.mono hW)
  have H8 := (show Hid (∀ W, Below w.heap.size w W → IntsAt W _ _) from fun W hW => h8.mono hW)
  obtain ⟨a, cap, e, hm, hc⟩ := hp.2
  injection e with e1 e2 e3
  subst e1 e3
  clear hp h3 h8
  cases g1 : plB t.body p.bodies.length
  · have G1 := (show Hid (_ = _) from g1)
    have HF : Hid (tnB p t = false) := by simp [Hid, tnB, g1]
    clear hc
    go_enter Tryz.func72, Tryz.ntmps72
    go_wp2_with fail
    clear g1
    go_quiet ((go_at_call 77; with_reducible exact Calls.quiet_of_same (isPlace_b G1.out _)))
    go_wp2_with fail
    go_ret
    exact ⟨by rw [HF.out]; rfl, (by repeat (first | with_reducible exact Below.refl _ _ | (with_reducible refine Below.setCell ?_ ?hs _; case hs => ((try simp); try omega)) | (with_reducible refine Below.alloc ?_ ?hs _; case hs => ((try simp); try omega)) | with_reducible refine Below.drew ?_ | with_reducible refine below_drewN ?_ _))⟩
  obtain ⟨bn, hbn⟩ : ∃ bn : Nat, t.body = (bn : Int) := ⟨t.body.toNat, by rw [plB] at g1; simp at g1; omega⟩
  have hbl : (bn : Int) < (p.bodies.length : Int) := by rw [plB] at g1; simp at g1; omega
  have hbl' : bn < p.bodies.length := by omega
  obtain ⟨b, off, av, rfl, hbw, c0, ha⟩ := hc bn hbl'
  obtain ⟨aa, ac, rfl, hma, _⟩ := ha
  have hA : acts p t = nth [] p.bodies bn := by unfold acts; rw [hbn]; rfl
  have g1' : plB (bn : Int) p.bodies.length = true := by rw [← hbn]; exact g1
  have hbw1 : b < w.heap.size + 1 := by omega
  have G1 := (show Hid (_ = _) from g1')
  have HA := (show Hid (_ = _) from hA)
  have HG1 := (show Hid (_ = _) from g1)
  clear hc g1 g1' hA
  cases g2 : inB t.pc 0 (nth [] p.bodies bn).length
  · have HF : Hid (tnB p t = false) := by simp [Hid, tnB, HA.out, g2]
    have G2 := (show Hid (_ = _) from g2)
    clear g2
    go_enter Tryz.func72, Tryz.ntmps72
    go_wp2_with fail
    go_quiet ((first | (go_at_call 77; with_reducible exact Calls.quiet_of_same (isPlace_b G1.out _)) | (go_at_call 39; with_reducible exact Calls.quiet_of_same (isUpTo_b G2.out _))))
    go_wp2_with fail
    go_ret
    exact ⟨by rw [HF.out]; rfl, (by repeat (first | with_reducible exact Below.refl _ _ | (with_reducible refine Below.setCell ?_ ?hs _; case hs => ((try simp); try omega)) | (with_reducible refine Below.alloc ?_ ?hs _; case hs => ((try simp); try omega)) | with_reducible refine Below.drew ?_ | with_reducible refine below_drewN ?_ _))⟩
  have G2 := (show Hid (_ = _) from g2)
  clear g2
  cases g3 : rgB t.regs
  · have HF : Hid (tnB p t = false) := by simp [Hid, tnB, HA.out, g3]
    have G3 := (show Hid (_ = _) from g3)
    clear g3
    go_enter Tryz.func72, Tryz.ntmps72
    go_wp2_with fail
    go_quiet ((first | (go_at_call 77; with_reducible exact Calls.quiet_of_same (isPlace_b G1.out _)) | (go_at_call 39; with_reducible exact Calls.quiet_of_same (isUpTo_b G2.out _)) | (go_at_call 97; with_reducible refine Calls.quiet_of_same (regs_b G3.out _ (H3.out _ ?hb)); case hb => exact (by repeat (first | with_reducible exact Below.refl _ _ | (with_reducible refine Below.setCell ?_ ?hs _; case hs => ((try simp); try omega)) | (with_reducible refine Below.alloc ?_ ?hs _; case hs => ((try simp); try omega)) | with_reducible refine Below.drew ?_ | with_reducible refine below_drewN ?_ _)))))
    go_wp2_with fail
    go_ret
    exact ⟨by rw [HF.out]; rfl, (by repeat (first | with_reducible exact Below.refl _ _ | (with_reducible refine Below.setCell ?_ ?hs _; case hs => ((try simp); try omega)) | (with_reducible refine Below.alloc ?_ ?hs _; case hs => ((try simp); try omega)) | with_reducible refine Below.drew ?_ | with_reducible refine below_drewN ?_ _))⟩
  have G3 := (show Hid (_ = _) from g3)
  clear g3
  cases g4 : rgB t.old
  · have HF : Hid (tnB p t = false) := by simp [Hid, tnB, HA.out, g4]
    have G4 := (show Hid (_ = _) from g4)
    clear g4
    go_enter Tryz.func72, Tryz.ntmps72
    go_wp2_with fail
    go_quiet ((first | (go_at_call 77; with_reducible exact Calls.quiet_of_same (isPlace_b G1.out _)) | (go_at_call 39; with_reducible exact Calls.quiet_of_same (isUpTo_b G2.out _)) | (go_at_call 97; with_reducible refine Calls.quiet_of_same (regs_b G3.out _ (H3.out _ ?hb)); case hb => exact (by repeat (first | with_reducible exact Below.refl _ _ | (with_reducible refine Below.setCell ?_ ?hs _; case hs => ((try simp); try omega)) | (with_reducible refine Below.alloc ?_ ?hs _; case hs => ((try simp); try omega)) | with_reducible refine Below.drew ?_ | with_reducible refine below_drewN ?_ _))) | (go_at_call 97; with_reducible refine Calls.quiet_of_same (regs_b G4.out _ (H8.out _ ?hb)); case hb => exact (by repeat (first | with_reducible exact Below.refl _ _ | (with_reducible refine Below.setCell ?_ ?hs _; case hs => ((try simp); try omega)) | (with_reducible refine Below.alloc ?_ ?hs _; case hs => ((try simp); try omega)) | with_reducible refine Below.drew ?_ | with_reducible refine below_drewN ?_ _)))))
    go_wp2_with fail
    go_ret
    exact ⟨by rw [HF.out]; rfl, (by repeat (first | with_reducible exact Below.refl _ _ | (with_reducible refine Below.setCell ?_ ?hs _; case hs => ((try simp); try omega)) | (with_reducible refine Below.alloc ?_ ?hs _; case hs => ((try simp); try omega)) | with_reducible refine Below.drew ?_ | with_reducible refine below_drewN ?_ _))⟩
  have G4 := (show Hid (_ = _) from g4)
  clear g4
  cases g5 : inB t.way 0 4
  · have HF : Hid (tnB p t = false) := by simp [Hid, tnB, HA.out, g5]
    have G5 := (show Hid (_ = _) from g5)
    clear g5
    go_enter Tryz.func72, Tryz.ntmps72
    go_wp2_with fail
    go_quiet ((first | (go_at_call 77; with_reducible exact Calls.quiet_of_same (isPlace_b G1.out _)) | (go_at_call 39; with_reducible exact Calls.quiet_of_same (isUpTo_b G2.out _)) | (go_at_call 97; with_reducible refine Calls.quiet_of_same (regs_b G3.out _ (H3.out _ ?hb)); case hb => exact (by repeat (first | with_reducible exact Below.refl _ _ | (with_reducible refine Below.setCell ?_ ?hs _; case hs => ((try simp); try omega)) | (with_reducible refine Below.alloc ?_ ?hs _; case hs => ((try simp); try omega)) | with_reducible refine Below.drew ?_ | with_reducible refine below_drewN ?_ _))) | (go_at_call 97; with_reducible refine Calls.quiet_of_same (regs_b G4.out _ (H8.out _ ?hb)); case hb => exact (by repeat (first | with_reducible exact Below.refl _ _ | (with_reducible refine Below.setCell ?_ ?hs _; case hs => ((try simp); try omega)) | (with_reducible refine Below.alloc ?_ ?hs _; case hs => ((try simp); try omega)) | with_reducible refine Below.drew ?_ | with_reducible refine below_drewN ?_ _))) | (go_at_call 39; with_reducible exact Calls.quiet_of_same (isUpTo_b G5.out _))))
    go_wp2_with fail
    go_ret
    exact ⟨by rw [HF.out]; rfl, (by repeat (first | with_reducible exact Below.refl _ _ | (with_reducible refine Below.setCell ?_ ?hs _; case hs => ((try simp); try omega)) | (with_reducible refine Below.alloc ?_ ?hs _; case hs => ((try simp); try omega)) | with_reducible refine Below.drew ?_ | with_reducible refine below_drewN ?_ _))⟩
  have G5 := (show Hid (_ = _) from g5)
  clear g5
  have HF : Hid (tnB p t = inB t.stage 0 5) := by simp [Hid, tnB, HG1.out, HA.out, G2.out, G3.out, G4.out, G5.out]
  go_enter Tryz.func72, Tryz.ntmps72
  go_wp2_with fail
  go_quiet ((first | (go_at_call 77; with_reducible exact Calls.quiet_of_same (isPlace_b G1.out _)) | (go_at_call 39; with_reducible exact Calls.quiet_of_same (isUpTo_b G2.out _)) | (go_at_call 97; with_reducible refine Calls.quiet_of_same (regs_b G3.out _ (H3.out _ ?hb)); case hb => exact (by repeat (first | with_reducible exact Below.refl _ _ | (with_reducible refine Below.setCell ?_ ?hs _; case hs => ((try simp); try omega)) | (with_reducible refine Below.alloc ?_ ?hs _; case hs => ((try simp); try omega)) | with_reducible refine Below.drew ?_ | with_reducible refine below_drewN ?_ _))) | (go_at_call 97; with_reducible refine Calls.quiet_of_same (regs_b G4.out _ (H8.out _ ?hb)); case hb => exact (by repeat (first | with_reducible exact Below.refl _ _ | (with_reducible refine Below.setCell ?_ ?hs _; case hs => ((try simp); try omega)) | (with_reducible refine Below.alloc ?_ ?hs _; case hs => ((try simp); try omega)) | with_reducible refine Below.drew ?_ | with_reducible refine below_drewN ?_ _))) | (go_at_call 39; with_reducible exact Calls.quiet_of_same (isUpTo_b G5.out _)) | (go_at_call 39; with_reducible exact Calls.quiet_of_same (isUpTo_any _ _ _))))
  go_wp2_with fail
  go_ret
  exact ⟨by rw [HF.out]; rfl, (by repeat (first | with_reducible exact Below.refl _ _ | (with_reducible refine Below.setCell ?_ ?hs _; case hs => ((try simp); try omega)) | (with_reducible refine Below.alloc ?_ ?hs _; case hs => ((try simp); try omega)) | with_reducible refine Below.drew ?_ | with_reducible refine below_drewN ?_ _))⟩


end Go.Proofs.YtdgihncobihbgaaGreat
