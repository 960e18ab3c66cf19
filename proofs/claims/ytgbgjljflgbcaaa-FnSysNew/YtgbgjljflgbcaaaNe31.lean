import Derived.Test.YtgbgjljflgbcaaaNe27
import Derived.Test.YtgbgjljflgbcaaaNe29
import Derived.Test.YtgbgjljflgbcaaaNe30
import Derived.Test.YtgbgjljflgbcaaaNe16
import Derived.Test.YtgbgjljflgbcaaaNe07
namespace Go.Proofs.Ytgbgjljflgbcaaa
open Go.RowKit
set_option linter.unusedSimpArgs false
set_option linter.unusedVariables false
set_option maxRecDepth 20000
theorem tksB_all {p : Pr} {s : Sy} (h : tksB p s = true) : ∀ i, i < s.tasks.length → tkB p s i = true := fun i hi => by
  unfold tksB at h
  simp only [Bool.and_eq_true, List.all_eq_true, List.mem_range] at h
  exact h.2 i hi
theorem tkB_hold {p : Pr} {s : Sy} {i : Nat} (hc : s.cells.length = p.cells.length) (h : tkB p s i = true) : ((nth Ta.z s.tasks i).stage = 0 ∨ (nth Ta.z s.tasks i).stage = 1 ∨ (nth Ta.z s.tasks i).stage = 2 ∨ (nth Ta.z s.tasks i).stage = 3 ∨ (nth Ta.z s.tasks i).stage = 4 ∨ (nth Ta.z s.tasks i).stage = 5) ∧ ((nth Ta.z s.tasks i).stage = 2 ∨ (nth Ta.z s.tasks i).stage = 5 → ∃ n : Nat, (nth Ta.z s.tasks i).at_ = (n : Int) ∧ n < (nth Ta.z s.tasks i).puts.length) ∧ CellsOk (phL (nth Ta.z s.tasks i)) s.cells.length := by
  have hp := tkB_puts h
  have ht : tnB p (tkN s i) = true := by unfold tkB at h; simp only [Bool.and_eq_true] at h; exact h.1.1.1
  obtain ⟨_, _, _, _, _, _, hs⟩ := tnB_parts ht
  refine ⟨hs, fun h25 => ?_, ?_⟩
  · have ha : atB (tkN s i) (acN p (tkN s i)).ds.length = true := by
      unfold tkB cgB at h
      simp only [Bool.and_eq_true] at h
      exact h.2.2.2.2.1
    have h0 := hp.2
    unfold atB at ha
    split at ha
    · cases ha
    · split at ha
      · rename_i e; change (nth Ta.z s.tasks i).stage = 1 at e; omega
      · split at ha
        · rw [plB_iff'] at ha
          have ha1 : 0 ≤ (nth Ta.z s.tasks i).at_ := h0
          have ha2 : (nth Ta.z s.tasks i).at_ < ((nth Ta.z s.tasks i).puts.length : Int) := ha.2
          exact ⟨(nth Ta.z s.tasks i).at_.toNat, by omega, by omega⟩
        · rename_i e; exact absurd h25 e
  · have := hp.1
    rw [← hc] at this
    exact cellsOk_ph this
theorem progOk_b (p : Pr) (pa0 pa1 : Option Addr) (pc0 pc1 : Nat) {bb : Bool} (w : World) (hp : PrAt w (.slice pa0 p.cells.length pc0) (.slice pa1 p.bodies.length pc1) p) (h : okB p = bb) : Calls Try.prog 35 #[.agg #[.slice pa0 p.cells.length pc0, .slice pa1 p.bodies.length pc1]] w fun r w' => r = .returned (.bool bb) ∧ Below w.heap.size w w' := by
  subst h; exact progOk_any p _ _ w hp.1 hp.2
theorem tasks_b (p : Pr) (pa0 pa1 : Option Addr) (pc0 pc1 : Nat) (s : Sy) (sa0 sa1 sa3 : Option Addr) (sc0 sc1 sc3 : Nat) {bb : Bool} (w : World) (hp : PrAt w (.slice pa0 p.cells.length pc0) (.slice pa1 p.bodies.length pc1) p) (hT : TasAt w (.slice sa1 s.tasks.length sc1) s.tasks) (hsm : SmsTa s.tasks) (h0 : 0 ≤ s.clock) (h200 : s.clock ≤ 200) (h : tksB p s = bb) : Calls Try.prog 40 #[.agg #[.slice pa0 p.cells.length pc0, .slice pa1 p.bodies.length pc1], .agg #[.slice sa0 s.cells.length sc0, .slice sa1 s.tasks.length sc1, .int .i64 s.clock, .slice sa3 s.log.length sc3]] w fun r w' => r = .returned (.bool bb) ∧ Below w.heap.size w w' := by
  subst h; exact tasksInForm_any p pa0 pa1 pc0 pc1 s sa0 sa1 sa3 sc0 sc1 sc3 w hp hT hsm h0 h200
theorem cells_b (p : Pr) (pa0 pa1 : Option Addr) (pc0 pc1 : Nat) (s : Sy) (sa0 sa1 sa3 : Option Addr) (sc0 sc1 sc3 : Nat) {bb : Bool} (w : World) (hC : CesAt w (.slice sa0 s.cells.length sc0) s.cells) (hT : TasAt w (.slice sa1 s.tasks.length sc1) s.tasks) (hn : s.cells.length ≤ 1048576) (hpn : p.cells.length ≤ 1048576) (h0 : 0 ≤ s.clock) (h200 : s.clock ≤ 200) (ht : tksB p s = true) (h : cesB p s = bb) : Calls Try.prog 41 #[.agg #[.slice pa0 p.cells.length pc0, .slice pa1 p.bodies.length pc1], .agg #[.slice sa0 s.cells.length sc0, .slice sa1 s.tasks.length sc1, .int .i64 s.clock, .slice sa3 s.log.length sc3]] w fun r w' => r = .returned (.bool bb) ∧ Below w.heap.size w w' := by
  subst h; exact sysCellsInForm_any p pa0 pa1 pc0 pc1 s sa0 sa1 sa3 sc0 sc1 sc3 w hC hT hn hpn h0 h200 (fun hc i hi => tkB_hold hc (tksB_all ht i hi))
theorem log_b (p : Pr) (pa0 pa1 : Option Addr) (pc0 pc1 : Nat) (s : Sy) (sa0 sa1 sa3 : Option Addr) (sc0 sc1 sc3 : Nat) {bb : Bool} (w : World) (hp : PrAt w (.slice pa0 p.cells.length pc0) (.slice pa1 p.bodies.length pc1) p) (hT : TasAt w (.slice sa1 s.tasks.length sc1) s.tasks) (hE : EnsAt w (.slice sa3 s.log.length sc3) s.log) (ht : tksB p s = true) (h : lgB p s = bb) : Calls Try.prog 42 #[.agg #[.slice pa0 p.cells.length pc0, .slice pa1 p.bodies.length pc1], .agg #[.slice sa0 s.cells.length sc0, .slice sa1 s.tasks.length sc1, .int .i64 s.clock, .slice sa3 s.log.length sc3]] w fun r w' => r = .returned (.bool bb) ∧ Below w.heap.size w w' := by
  subst h
  refine logInForm_any p pa0 pa1 pc0 pc1 s sa0 sa1 sa3 sc0 sc1 sc3 w hp hT hE (fun i hi => ?_)
  have hk := tksB_all ht i hi
  unfold tkB at hk
  simp only [Bool.and_eq_true] at hk
  obtain ⟨bn, _, e1, e2, _⟩ := tnB_parts hk.1.1.1
  exact ⟨bn, e1, e2⟩
set_option maxHeartbeats 8000000 in
theorem sysOk_any (p : Pr) (pa0 pa1 : Option Addr) (pc0 pc1 : Nat) (s : Sy) (sa0 sa1 sa3 : Option Addr) (sc0 sc1 sc3 : Nat) (w : World) (hp : PrAt w (.slice pa0 p.cells.length pc0) (.slice pa1 p.bodies.length pc1) p) (hS : SyAt w (.slice sa0 s.cells.length sc0) (.slice sa1 s.tasks.length sc1) (.slice sa3 s.log.length sc3) s) (hsm : SmSy s) (hpn : p.cells.length ≤ 1048576) :
    Calls Try.prog 13 #[.agg #[.slice pa0 p.cells.length pc0, .slice pa1 p.bodies.length pc1], .agg #[.slice sa0 s.cells.length sc0, .slice sa1 s.tasks.length sc1, .int .i64 s.clock, .slice sa3 s.log.length sc3]] w fun r w' => r = .returned (.bool (soB p s)) ∧ Below w.heap.size w w' := by
  have HP := (show Hid (PrAt _ _ _ _) from hp)
  have HS := (show Hid (SyAt _ _ _ _ _) from hS)
  have HM := (show Hid (SmSy _) from hsm)
  clear hp hS hsm
  cases g1 : okB p
  · have HF : Hid (soB p s = false) := by unfold Hid soB; simp [g1]
    have G1 := (show Hid (_ = _) from g1)
    clear g1
    go_enter Try.func13, Try.ntmps13
    go_wp2_with fail
    refine (progOk_b p _ _ _ _ _ (by exact PrAt.mono HP.out (by repeat (first | with_reducible exact Below.refl _ _ | (with_reducible refine Below.setCell ?_ ?hs _; case hs => ((try simp); try omega)) | (with_reducible refine Below.alloc ?_ ?hs _; case hs => ((try simp); try omega)) | with_reducible refine Below.drew ?_))) G1.out).mono ?_
    rintro e w1 ⟨rfl, hc1⟩
    have HW1 : Hid (Below w.heap.size w w1) := below_then (by repeat (first | with_reducible exact Below.refl _ _ | (with_reducible refine Below.setCell ?_ ?hs _; case hs => ((try simp); try omega)) | (with_reducible refine Below.alloc ?_ ?hs _; case hs => ((try simp); try omega)) | with_reducible refine Below.drew ?_)) (by (try simp); try omega) hc1
    obtain ⟨hx1, hy1⟩ := bcell hc1
    have t1a : w.heap.size < w1.heap.size := by have := hc1.size; (try simp at this); omega
    have t1b : w.heap.size + 1 < w1.heap.size := by have := hc1.size; (try simp at this); omega
    have hsz1 := HW1.out.size
    clear hc1 hy1
    go_wp2_with fail
    go_ret
    exact ⟨by rw [HF.out]; rfl, (by repeat (first | with_reducible exact HW1.out | (with_reducible refine Below.setCell ?_ ?hs _; case hs => ((try simp); try omega)) | (with_reducible refine Below.alloc ?_ ?hs _; case hs => ((try simp); try omega)) | with_reducible refine Below.drew ?_))⟩
  have G1 := (show Hid (_ = _) from g1)
  clear g1
  cases g2 : inB s.clock 0 200
  · have HF : Hid (soB p s = false) := by unfold Hid soB; simp [g2]
    have G2 := (show Hid (_ = _) from g2)
    clear g2
    go_enter Try.func13, Try.ntmps13
    go_wp2_with fail
    refine (progOk_b p _ _ _ _ _ (by exact PrAt.mono HP.out (by repeat (first | with_reducible exact Below.refl _ _ | (with_reducible refine Below.setCell ?_ ?hs _; case hs => ((try simp); try omega)) | (with_reducible refine Below.alloc ?_ ?hs _; case hs => ((try simp); try omega)) | with_reducible refine Below.drew ?_))) G1.out).mono ?_
    rintro e w1 ⟨rfl, hc1⟩
    have HW1 : Hid (Below w.heap.size w w1) := below_then (by repeat (first | with_reducible exact Below.refl _ _ | (with_reducible refine Below.setCell ?_ ?hs _; case hs => ((try simp); try omega)) | (with_reducible refine Below.alloc ?_ ?hs _; case hs => ((try simp); try omega)) | with_reducible refine Below.drew ?_)) (by (try simp); try omega) hc1
    obtain ⟨hx1, hy1⟩ := bcell hc1
    have t1a : w.heap.size < w1.heap.size := by have := hc1.size; (try simp at this); omega
    have t1b : w.heap.size + 1 < w1.heap.size := by have := hc1.size; (try simp at this); omega
    have hsz1 := HW1.out.size
    clear hc1 hy1
    go_wp2_with fail
    refine (isUpTo_b G2.out _).mono ?_
    rintro e wq ⟨rfl, hw⟩
    have hw := hw.symm
    subst hw
    go_wp2_with fail
    go_ret
    exact ⟨by rw [HF.out]; rfl, (by repeat (first | with_reducible exact HW1.out | (with_reducible refine Below.setCell ?_ ?hs _; case hs => ((try simp); try omega)) | (with_reducible refine Below.alloc ?_ ?hs _; case hs => ((try simp); try omega)) | with_reducible refine Below.drew ?_))⟩
  have c0 : 0 ≤ s.clock := by rw [inB] at g2; simp at g2; omega
  have c200 : s.clock ≤ 200 := by rw [inB] at g2; simp at g2; omega
  have G2 := (show Hid (_ = _) from g2)
  clear g2
  cases g3 : tksB p s
  · have HF : Hid (soB p s = false) := by unfold Hid soB; simp [g3]
    have G3 := (show Hid (_ = _) from g3)
    clear g3
    go_enter Try.func13, Try.ntmps13
    go_wp2_with fail
    refine (progOk_b p _ _ _ _ _ (by exact PrAt.mono HP.out (by repeat (first | with_reducible exact Below.refl _ _ | (with_reducible refine Below.setCell ?_ ?hs _; case hs => ((try simp); try omega)) | (with_reducible refine Below.alloc ?_ ?hs _; case hs => ((try simp); try omega)) | with_reducible refine Below.drew ?_))) G1.out).mono ?_
    rintro e w1 ⟨rfl, hc1⟩
    have HW1 : Hid (Below w.heap.size w w1) := below_then (by repeat (first | with_reducible exact Below.refl _ _ | (with_reducible refine Below.setCell ?_ ?hs _; case hs => ((try simp); try omega)) | (with_reducible refine Below.alloc ?_ ?hs _; case hs => ((try simp); try omega)) | with_reducible refine Below.drew ?_)) (by (try simp); try omega) hc1
    obtain ⟨hx1, hy1⟩ := bcell hc1
    have t1a : w.heap.size < w1.heap.size := by have := hc1.size; (try simp at this); omega
    have t1b : w.heap.size + 1 < w1.heap.size := by have := hc1.size; (try simp at this); omega
    have hsz1 := HW1.out.size
    clear hc1 hy1
    go_wp2_with fail
    refine (isUpTo_b G2.out _).mono ?_
    rintro e wq ⟨rfl, hw⟩
    have hw := hw.symm
    subst hw
    go_wp2_with fail
    refine (tasks_b p _ _ _ _ s _ _ _ _ _ _ _ (by exact PrAt.mono HP.out (by repeat (first | with_reducible exact HW1.out | (with_reducible refine Below.setCell ?_ ?hs _; case hs => ((try simp); try omega)) | (with_reducible refine Below.alloc ?_ ?hs _; case hs => ((try simp); try omega)) | with_reducible refine Below.drew ?_))) (by exact (SyAt.mono HS.out (by repeat (first | with_reducible exact HW1.out | (with_reducible refine Below.setCell ?_ ?hs _; case hs => ((try simp); try omega)) | (with_reducible refine Below.alloc ?_ ?hs _; case hs => ((try simp); try omega)) | with_reducible refine Below.drew ?_))).2.1) HM.out.2.1 c0 c200 G3.out).mono ?_
    rintro e w2 ⟨rfl, hc2⟩
    have HW2 : Hid (Below w.heap.size w w2) := below_then (by repeat (first | with_reducible exact HW1.out | (with_reducible refine Below.setCell ?_ ?hs _; case hs => ((try simp); try omega)) | (with_reducible refine Below.alloc ?_ ?hs _; case hs => ((try simp); try omega)) | with_reducible refine Below.drew ?_)) (by (try simp); try omega) hc2
    obtain ⟨hx2, hy2⟩ := bcell hc2
    have t2a : w.heap.size < w2.heap.size := by have := hc2.size; (try simp at this); omega
    have t2b : w.heap.size + 1 < w2.heap.size := by have := hc2.size; (try simp at this); omega
    have hsz2 := HW2.out.size
    clear hc2 hy2
    go_wp2_with fail
    go_ret
    exact ⟨by rw [HF.out]; rfl, (by repeat (first | with_reducible exact HW2.out | (with_reducible refine Below.setCell ?_ ?hs _; case hs => ((try simp); try omega)) | (with_reducible refine Below.alloc ?_ ?hs _; case hs => ((try simp); try omega)) | with_reducible refine Below.drew ?_))⟩
  have G3 := (show Hid (_ = _) from g3)
  clear g3
  cases g4 : cesB p s
  · have HF : Hid (soB p s = false) := by unfold Hid soB; simp [g4]
    have G4 := (show Hid (_ = _) from g4)
    clear g4
    go_enter Try.func13, Try.ntmps13
    go_wp2_with fail
    refine (progOk_b p _ _ _ _ _ (by exact PrAt.mono HP.out (by repeat (first | with_reducible exact Below.refl _ _ | (with_reducible refine Below.setCell ?_ ?hs _; case hs => ((try simp); try omega)) | (with_reducible refine Below.alloc ?_ ?hs _; case hs => ((try simp); try omega)) | with_reducible refine Below.drew ?_))) G1.out).mono ?_
    rintro e w1 ⟨rfl, hc1⟩
    have HW1 : Hid (Below w.heap.size w w1) := below_then (by repeat (first | with_reducible exact Below.refl _ _ | (with_reducible refine Below.setCell ?_ ?hs _; case hs => ((try simp); try omega)) | (with_reducible refine Below.alloc ?_ ?hs _; case hs => ((try simp); try omega)) | with_reducible refine Below.drew ?_)) (by (try simp); try omega) hc1
    obtain ⟨hx1, hy1⟩ := bcell hc1
    have t1a : w.heap.size < w1.heap.size := by have := hc1.size; (try simp at this); omega
    have t1b : w.heap.size + 1 < w1.heap.size := by have := hc1.size; (try simp at this); omega
    have hsz1 := HW1.out.size
    clear hc1 hy1
    go_wp2_with fail
    refine (isUpTo_b G2.out _).mono ?_
    rintro e wq ⟨rfl, hw⟩
    have hw := hw.symm
    subst hw
    go_wp2_with fail
    refine (tasks_b p _ _ _ _ s _ _ _ _ _ _ _ (by exact PrAt.mono HP.out (by repeat (first | with_reducible exact HW1.out | (with_reducible refine Below.setCell ?_ ?hs _; case hs => ((try simp); try omega)) | (with_reducible refine Below.alloc ?_ ?hs _; case hs => ((try simp); try omega)) | with_reducible refine Below.drew ?_))) (by exact (SyAt.mono HS.out (by repeat (first | with_reducible exact HW1.out | (with_reducible refine Below.setCell ?_ ?hs _; case hs => ((try simp); try omega)) | (with_reducible refine Below.alloc ?_ ?hs _; case hs => ((try simp); try omega)) | with_reducible refine Below.drew ?_))).2.1) HM.out.2.1 c0 c200 G3.out).mono ?_
    rintro e w2 ⟨rfl, hc2⟩
    have HW2 : Hid (Below w.heap.size w w2) := below_then (by repeat (first | with_reducible exact HW1.out | (with_reducible refine Below.setCell ?_ ?hs _; case hs => ((try simp); try omega)) | (with_reducible refine Below.alloc ?_ ?hs _; case hs => ((try simp); try omega)) | with_reducible refine Below.drew ?_)) (by (try simp); try omega) hc2
    obtain ⟨hx2, hy2⟩ := bcell hc2
    have t2a : w.heap.size < w2.heap.size := by have := hc2.size; (try simp at this); omega
    have t2b : w.heap.size + 1 < w2.heap.size := by have := hc2.size; (try simp at this); omega
    have hsz2 := HW2.out.size
    clear hc2 hy2
    go_wp2_with fail
    refine (cells_b p _ _ _ _ s _ _ _ _ _ _ _ (by exact (SyAt.mono HS.out (by repeat (first | with_reducible exact HW2.out | (with_reducible refine Below.setCell ?_ ?hs _; case hs => ((try simp); try omega)) | (with_reducible refine Below.alloc ?_ ?hs _; case hs => ((try simp); try omega)) | with_reducible refine Below.drew ?_))).1) (by exact (SyAt.mono HS.out (by repeat (first | with_reducible exact HW2.out | (with_reducible refine Below.setCell ?_ ?hs _; case hs => ((try simp); try omega)) | (with_reducible refine Below.alloc ?_ ?hs _; case hs => ((try simp); try omega)) | with_reducible refine Below.drew ?_))).2.1) HM.out.1 hpn c0 c200 G3.out G4.out).mono ?_
    rintro e w3 ⟨rfl, hc3⟩
    have HW3 : Hid (Below w.heap.size w w3) := below_then (by repeat (first | with_reducible exact HW2.out | (with_reducible refine Below.setCell ?_ ?hs _; case hs => ((try simp); try omega)) | (with_reducible refine Below.alloc ?_ ?hs _; case hs => ((try simp); try omega)) | with_reducible refine Below.drew ?_)) (by (try simp); try omega) hc3
    obtain ⟨hx3, hy3⟩ := bcell hc3
    have t3a : w.heap.size < w3.heap.size := by have := hc3.size; (try simp at this); omega
    have t3b : w.heap.size + 1 < w3.heap.size := by have := hc3.size; (try simp at this); omega
    have hsz3 := HW3.out.size
    clear hc3 hy3
    go_wp2_with fail
    go_ret
    exact ⟨by rw [HF.out]; rfl, (by repeat (first | with_reducible exact HW3.out | (with_reducible refine Below.setCell ?_ ?hs _; case hs => ((try simp); try omega)) | (with_reducible refine Below.alloc ?_ ?hs _; case hs => ((try simp); try omega)) | with_reducible refine Below.drew ?_))⟩
  have G4 := (show Hid (_ = _) from g4)
  clear g4
  have HF : Hid (soB p s = lgB p s) := by unfold Hid soB; simp [G1.out, G2.out, G3.out, G4.out]
  go_enter Try.func13, Try.ntmps13
  go_wp2_with fail
  refine (progOk_b p _ _ _ _ _ (by exact PrAt.mono HP.out (by repeat (first | with_reducible exact Below.refl _ _ | (with_reducible refine Below.setCell ?_ ?hs _; case hs => ((try simp); try omega)) | (with_reducible refine Below.alloc ?_ ?hs _; case hs => ((try simp); try omega)) | with_reducible refine Below.drew ?_))) G1.out).mono ?_
  rintro e w1 ⟨rfl, hc1⟩
  have HW1 : Hid (Below w.heap.size w w1) := below_then (by repeat (first | with_reducible exact Below.refl _ _ | (with_reducible refine Below.setCell ?_ ?hs _; case hs => ((try simp); try omega)) | (with_reducible refine Below.alloc ?_ ?hs _; case hs => ((try simp); try omega)) | with_reducible refine Below.drew ?_)) (by (try simp); try omega) hc1
  obtain ⟨hx1, hy1⟩ := bcell hc1
  have t1a : w.heap.size < w1.heap.size := by have := hc1.size; (try simp at this); omega
  have t1b : w.heap.size + 1 < w1.heap.size := by have := hc1.size; (try simp at this); omega
  have hsz1 := HW1.out.size
  clear hc1 hy1
  go_wp2_with fail
  refine (isUpTo_b G2.out _).mono ?_
  rintro e wq ⟨rfl, hw⟩
  have hw := hw.symm
  subst hw
  go_wp2_with fail
  refine (tasks_b p _ _ _ _ s _ _ _ _ _ _ _ (by exact PrAt.mono HP.out (by repeat (first | with_reducible exact HW1.out | (with_reducible refine Below.setCell ?_ ?hs _; case hs => ((try simp); try omega)) | (with_reducible refine Below.alloc ?_ ?hs _; case hs => ((try simp); try omega)) | with_reducible refine Below.drew ?_))) (by exact (SyAt.mono HS.out (by repeat (first | with_reducible exact HW1.out | (with_reducible refine Below.setCell ?_ ?hs _; case hs => ((try simp); try omega)) | (with_reducible refine Below.alloc ?_ ?hs _; case hs => ((try simp); try omega)) | with_reducible refine Below.drew ?_))).2.1) HM.out.2.1 c0 c200 G3.out).mono ?_
  rintro e w2 ⟨rfl, hc2⟩
  have HW2 : Hid (Below w.heap.size w w2) := below_then (by repeat (first | with_reducible exact HW1.out | (with_reducible refine Below.setCell ?_ ?hs _; case hs => ((try simp); try omega)) | (with_reducible refine Below.alloc ?_ ?hs _; case hs => ((try simp); try omega)) | with_reducible refine Below.drew ?_)) (by (try simp); try omega) hc2
  obtain ⟨hx2, hy2⟩ := bcell hc2
  have t2a : w.heap.size < w2.heap.size := by have := hc2.size; (try simp at this); omega
  have t2b : w.heap.size + 1 < w2.heap.size := by have := hc2.size; (try simp at this); omega
  have hsz2 := HW2.out.size
  clear hc2 hy2
  go_wp2_with fail
  refine (cells_b p _ _ _ _ s _ _ _ _ _ _ _ (by exact (SyAt.mono HS.out (by repeat (first | with_reducible exact HW2.out | (with_reducible refine Below.setCell ?_ ?hs _; case hs => ((try simp); try omega)) | (with_reducible refine Below.alloc ?_ ?hs _; case hs => ((try simp); try omega)) | with_reducible refine Below.drew ?_))).1) (by exact (SyAt.mono HS.out (by repeat (first | with_reducible exact HW2.out | (with_reducible refine Below.setCell ?_ ?hs _; case hs => ((try simp); try omega)) | (with_reducible refine Below.alloc ?_ ?hs _; case hs => ((try simp); try omega)) | with_reducible refine Below.drew ?_))).2.1) HM.out.1 hpn c0 c200 G3.out G4.out).mono ?_
  rintro e w3 ⟨rfl, hc3⟩
  have HW3 : Hid (Below w.heap.size w w3) := below_then (by repeat (first | with_reducible exact HW2.out | (with_reducible refine Below.setCell ?_ ?hs _; case hs => ((try simp); try omega)) | (with_reducible refine Below.alloc ?_ ?hs _; case hs => ((try simp); try omega)) | with_reducible refine Below.drew ?_)) (by (try simp); try omega) hc3
  obtain ⟨hx3, hy3⟩ := bcell hc3
  have t3a : w.heap.size < w3.heap.size := by have := hc3.size; (try simp at this); omega
  have t3b : w.heap.size + 1 < w3.heap.size := by have := hc3.size; (try simp at this); omega
  have hsz3 := HW3.out.size
  clear hc3 hy3
  go_wp2_with fail
  refine (log_b p _ _ _ _ s _ _ _ _ _ _ _ (by exact PrAt.mono HP.out (by repeat (first | with_reducible exact HW3.out | (with_reducible refine Below.setCell ?_ ?hs _; case hs => ((try simp); try omega)) | (with_reducible refine Below.alloc ?_ ?hs _; case hs => ((try simp); try omega)) | with_reducible refine Below.drew ?_))) (by exact (SyAt.mono HS.out (by repeat (first | with_reducible exact HW3.out | (with_reducible refine Below.setCell ?_ ?hs _; case hs => ((try simp); try omega)) | (with_reducible refine Below.alloc ?_ ?hs _; case hs => ((try simp); try omega)) | with_reducible refine Below.drew ?_))).2.1) (by exact (SyAt.mono HS.out (by repeat (first | with_reducible exact HW3.out | (with_reducible refine Below.setCell ?_ ?hs _; case hs => ((try simp); try omega)) | (with_reducible refine Below.alloc ?_ ?hs _; case hs => ((try simp); try omega)) | with_reducible refine Below.drew ?_))).2.2) G3.out rfl).mono ?_
  rintro e w4 ⟨rfl, hc4⟩
  have HW4 : Hid (Below w.heap.size w w4) := below_then (by repeat (first | with_reducible exact HW3.out | (with_reducible refine Below.setCell ?_ ?hs _; case hs => ((try simp); try omega)) | (with_reducible refine Below.alloc ?_ ?hs _; case hs => ((try simp); try omega)) | with_reducible refine Below.drew ?_)) (by (try simp); try omega) hc4
  obtain ⟨hx4, hy4⟩ := bcell hc4
  have t4a : w.heap.size < w4.heap.size := by have := hc4.size; (try simp at this); omega
  have t4b : w.heap.size + 1 < w4.heap.size := by have := hc4.size; (try simp at this); omega
  have hsz4 := HW4.out.size
  clear hc4 hy4
  go_wp2_with fail
  go_ret
  exact ⟨by rw [HF.out]; rfl, (by repeat (first | with_reducible exact HW4.out | (with_reducible refine Below.setCell ?_ ?hs _; case hs => ((try simp); try omega)) | (with_reducible refine Below.alloc ?_ ?hs _; case hs => ((try simp); try omega)) | with_reducible refine Below.drew ?_))⟩
end Go.Proofs.Ytgbgjljflgbcaaa

namespace Go.Proofs.Ytgbgjljflgbcaaa
open Go.RowKit
set_option linter.unusedSimpArgs false
set_option linter.unusedVariables false
set_option maxRecDepth 20000
theorem sysOk_c (p : Pr) (pa0 pa1 : Option Addr) (pc0 pc1 : Nat) (s : Sy) (sa0 sa1 sa3 : Option Addr) (sc0 sc1 sc3 : Nat) (w : World) (hp : PrAt w (.slice pa0 p.cells.length pc0) (.slice pa1 p.bodies.length pc1) p) (hS : SyAt w (.slice sa0 s.cells.length sc0) (.slice sa1 s.tasks.length sc1) (.slice sa3 s.log.length sc3) s) (hsm : SmSy s) (hsp : SmallP p) :
    Calls Try.prog 13 #[.agg #[.slice pa0 p.cells.length pc0, .slice pa1 p.bodies.length pc1], .agg #[.slice sa0 s.cells.length sc0, .slice sa1 s.tasks.length sc1, .int .i64 s.clock, .slice sa3 s.log.length sc3]] w fun r w' => r = .returned (.bool (mSoB p s)) ∧ Below w.heap.size w w' := by
  rw [← so_eq]; exact sysOk_any p pa0 pa1 pc0 pc1 s sa0 sa1 sa3 sc0 sc1 sc3 w hp hS hsm hsp.1
end Go.Proofs.Ytgbgjljflgbcaaa
