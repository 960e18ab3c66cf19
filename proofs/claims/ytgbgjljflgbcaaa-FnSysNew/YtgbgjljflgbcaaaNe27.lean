import Derived.Test.YtgbgjljflgbcaaaNe24
import Derived.Test.YtgbgjljflgbcaaaNe25
import Derived.Test.YtgbgjljflgbcaaaNe26
import Derived.Test.YtgbgjljflgbcaaaNe07
namespace Go.Proofs.Ytgbgjljflgbcaaa
open Go.RowKit
set_option linter.unusedSimpArgs false
set_option linter.unusedVariables false
set_option maxRecDepth 20000
theorem tnB_parts {p : Pr} {t : Ta} (h : tnB p t = true) : ∃ bn pn : Nat, t.body = (bn : Int) ∧ bn < p.bodies.length ∧ t.pc = (pn : Int) ∧ pn ≤ (nth [] p.bodies bn).length ∧ (t.stage = 0 ∨ t.stage = 1 ∨ t.stage = 2 ∨ t.stage = 3 ∨ t.stage = 4 ∨ t.stage = 5) := by
  unfold tnB at h
  simp only [Bool.and_eq_true] at h
  obtain ⟨⟨⟨⟨⟨h1, h2⟩, _⟩, _⟩, _⟩, h6⟩ := h
  simp only [plB, inB, decide_eq_true_eq] at h1 h2 h6
  have e1 : t.body = (t.body.toNat : Int) := by omega
  refine ⟨t.body.toNat, t.pc.toNat, e1, by omega, by omega, ?_, by omega⟩
  unfold acts at h2
  omega
theorem task_b (p : Pr) (pa0 pa1 : Option Addr) (pc0 pc1 : Nat) (t : Ta) {bb : Bool} (a3 a8 a9 a10 : Option Addr) (c3 c8 c9 c10 : Nat) (w : World) (hp : PrAt w (.slice pa0 p.cells.length pc0) (.slice pa1 p.bodies.length pc1) p) (h3 : IntsAt w (.slice a3 t.regs.length c3) t.regs) (h8 : IntsAt w (.slice a8 t.old.length c8) t.old) (h : tnB p t = bb) : Calls Try.prog 88 #[.agg #[.slice pa0 p.cells.length pc0, .slice pa1 p.bodies.length pc1], .agg #[.int .i64 t.body, .int .i64 t.pc, .int .i64 t.up, .slice a3 t.regs.length c3, .int .i64 t.way, .int .i64 t.stage, .int .i64 t.at_, .int .i64 t.since, .slice a8 t.old.length c8, .slice a9 t.reads.length c9, .slice a10 t.puts.length c10, .int .i64 t.when_, .int .i64 t.from_]] w fun r w' => r = .returned (.bool bb) ∧ Below w.heap.size w w' := by
  subst h; exact taskNumsInForm_any p pa0 pa1 pc0 pc1 t a3 a8 a9 a10 c3 c8 c9 c10 w hp h3 h8
theorem up_b (s : Sy) (sa0 sa1 sa3 : Option Addr) (sc0 sc1 sc3 : Nat) (i : Nat) {bb : Bool} (w : World) (hT : TasAt w (.slice sa1 s.tasks.length sc1) s.tasks) (hi : i < s.tasks.length) (h : upfB s i = bb) : Calls Try.prog 89 #[.agg #[.slice sa0 s.cells.length sc0, .slice sa1 s.tasks.length sc1, .int .i64 s.clock, .slice sa3 s.log.length sc3], .int .i64 (i : Int)] w fun r w' => r = .returned (.bool bb) ∧ Below w.heap.size w w' := by
  subst h; exact upInForm_any s sa0 sa1 sa3 sc0 sc1 sc3 i w hT hi
theorem way_b (p : Pr) (pa0 pa1 : Option Addr) (pc0 pc1 : Nat) (s : Sy) (sa0 sa1 sa3 : Option Addr) (sc0 sc1 sc3 : Nat) (i bn pn : Nat) {bb : Bool} (w : World) (hp : PrAt w (.slice pa0 p.cells.length pc0) (.slice pa1 p.bodies.length pc1) p) (hT : TasAt w (.slice sa1 s.tasks.length sc1) s.tasks) (hi : i < s.tasks.length) (hb : (nth Ta.z s.tasks i).body = (bn : Int)) (hbn : bn < p.bodies.length) (hpc : (nth Ta.z s.tasks i).pc = (pn : Int)) (hpn : pn ≤ (nth [] p.bodies bn).length) (h : wyB p s i = bb) : Calls Try.prog 90 #[.agg #[.slice pa0 p.cells.length pc0, .slice pa1 p.bodies.length pc1], .agg #[.slice sa0 s.cells.length sc0, .slice sa1 s.tasks.length sc1, .int .i64 s.clock, .slice sa3 s.log.length sc3], .int .i64 (i : Int)] w fun r w' => r = .returned (.bool bb) ∧ Below w.heap.size w w' := by
  subst h; exact wayInForm_any p pa0 pa1 pc0 pc1 s sa0 sa1 sa3 sc0 sc1 sc3 i bn pn w hp hT hi hb hbn hpc hpn
theorem change_b (p : Pr) (pa0 pa1 : Option Addr) (pc0 pc1 : Nat) (s : Sy) (sa0 sa1 sa3 : Option Addr) (sc0 sc1 sc3 : Nat) (t : Ta) {bb : Bool} (a3 a8 a9 a10 : Option Addr) (c3 c8 c9 c10 : Nat) (bn pn : Nat) (w : World) (hp : PrAt w (.slice pa0 p.cells.length pc0) (.slice pa1 p.bodies.length pc1) p) (h9 : PusAt w (.slice a9 t.reads.length c9) t.reads) (h10 : PusAt w (.slice a10 t.puts.length c10) t.puts) (hb : t.body = (bn : Int)) (hbn : bn < p.bodies.length) (hpc : t.pc = (pn : Int)) (hpn : pn ≤ (nth [] p.bodies bn).length)
    (hs : t.stage = 0 ∨ t.stage = 1 ∨ t.stage = 2 ∨ t.stage = 3 ∨ t.stage = 4 ∨ t.stage = 5) (h0 : 0 ≤ s.clock) (h200 : s.clock ≤ 200) (nr : t.reads.length ≤ 1048576) (nu : t.puts.length ≤ 1048576) (h : cgB p s t = bb) : Calls Try.prog 91 #[.agg #[.slice pa0 p.cells.length pc0, .slice pa1 p.bodies.length pc1], .agg #[.slice sa0 s.cells.length sc0, .slice sa1 s.tasks.length sc1, .int .i64 s.clock, .slice sa3 s.log.length sc3], .agg #[.int .i64 t.body, .int .i64 t.pc, .int .i64 t.up, .slice a3 t.regs.length c3, .int .i64 t.way, .int .i64 t.stage, .int .i64 t.at_, .int .i64 t.since, .slice a8 t.old.length c8, .slice a9 t.reads.length c9, .slice a10 t.puts.length c10, .int .i64 t.when_, .int .i64 t.from_]] w fun r w' => r = .returned (.bool bb) ∧ Below w.heap.size w w' := by
  subst h; exact changeInForm_any p pa0 pa1 pc0 pc1 s sa0 sa1 sa3 sc0 sc1 sc3 t a3 a8 a9 a10 c3 c8 c9 c10 bn pn w hp h9 h10 hb hbn hpc hpn hs h0 h200 nr nu
set_option maxHeartbeats 20000000 in
theorem tasksInForm_any (p : Pr) (pa0 pa1 : Option Addr) (pc0 pc1 : Nat) (s : Sy) (sa0 sa1 sa3 : Option Addr) (sc0 sc1 sc3 : Nat) (w : World) (hp : PrAt w (.slice pa0 p.cells.length pc0) (.slice pa1 p.bodies.length pc1) p) (hT : TasAt w (.slice sa1 s.tasks.length sc1) s.tasks) (hsm : SmsTa s.tasks) (h0 : 0 ≤ s.clock) (h200 : s.clock ≤ 200) :
    Calls Try.prog 40 #[.agg #[.slice pa0 p.cells.length pc0, .slice pa1 p.bodies.length pc1], .agg #[.slice sa0 s.cells.length sc0, .slice sa1 s.tasks.length sc1, .int .i64 s.clock, .slice sa3 s.log.length sc3]] w fun r w' => r = .returned (.bool (tksB p s)) ∧ Below w.heap.size w w' := by
  have HP := (show Hid (PrAt _ _ _ _) from hp)
  have HT := (show Hid (TasAt _ _ _) from hT)
  obtain ⟨a, cap, e, hm, hc⟩ := id hT
  injection e with e1 e2 e3
  subst e1 e3
  clear hp hT
  by_cases k1 : s.tasks.length < 1
  · have HF : Hid (tksB p s = false) := by unfold Hid tksB; simp [inB]; omega
    have k1' : (s.tasks.length : Int) < 1 := by omega
    clear hc
    go_enter Try.func40, Try.ntmps40
    go_wp2_with fail
    go_ret
    exact ⟨by rw [HF.out]; rfl, (by repeat (first | with_reducible exact Below.refl _ _ | (with_reducible refine Below.setCell ?_ ?hs _; case hs => ((try simp); try omega)) | (with_reducible refine Below.alloc ?_ ?hs _; case hs => ((try simp); try omega)) | with_reducible refine Below.drew ?_))⟩
  have k1' : ¬ (s.tasks.length : Int) < 1 := by omega
  by_cases k2 : 7 < s.tasks.length
  · have HF : Hid (tksB p s = false) := by unfold Hid tksB; simp [inB]; omega
    have k2' : (7 : Int) < (s.tasks.length : Int) := by omega
    clear hc
    go_enter Try.func40, Try.ntmps40
    go_wp2_with fail
    go_ret
    exact ⟨by rw [HF.out]; rfl, (by repeat (first | with_reducible exact Below.refl _ _ | (with_reducible refine Below.setCell ?_ ?hs _; case hs => ((try simp); try omega)) | (with_reducible refine Below.alloc ?_ ?hs _; case hs => ((try simp); try omega)) | with_reducible refine Below.drew ?_))⟩
  have k2' : ¬ (7 : Int) < (s.tasks.length : Int) := by omega
  have HIN : Hid (inB s.tasks.length 1 7 = true) := by unfold Hid; simp [inB]; omega
  go_enter Try.func40, Try.ntmps40
  go_wp2_with fail
  go_loopw [20] (fun q w' => ∃ k : Nat, k ≤ s.tasks.length ∧ q = .int .i64 k ∧ Below (w.heap.size + 2) ((w.alloc (.cells #[.slice pa0 p.cells.length pc0, .slice pa1 p.bodies.length pc1] 26)).alloc (.cells #[.slice sa0 s.cells.length sc0, .slice sa1 s.tasks.length sc1, .int .i64 s.clock, .slice sa3 s.log.length sc3] 32)) w' ∧ (∀ j, j < k → tkB p s j = true)) (fun q _ => s.tasks.length - (intOf q).toNat)
  case atStart => exact ⟨0, Nat.zero_le _, rfl, Below.refl _ _, fun j hj => absurd hj (Nat.not_lt_zero _)⟩
  case round =>
    obtain ⟨k, hk, rfl, hb, hall⟩ := hrel
    have hbw : Below w.heap.size w wr := below_then (by repeat (first | with_reducible exact Below.refl _ _ | (with_reducible refine Below.setCell ?_ ?hs _; case hs => ((try simp); try omega)) | (with_reducible refine Below.alloc ?_ ?hs _; case hs => ((try simp); try omega)) | with_reducible refine Below.drew ?_)) (by (try simp); try omega) (hb.mono (by simp))
    have hsz : w.heap.size + 2 ≤ wr.heap.size := by have := hb.size; simpa using this
    have z0 : w.heap.size < wr.heap.size := by omega
    have z1 : w.heap.size + 1 < wr.heap.size := by omega
    have b00 : wr.cell? ⟨w.heap.size, 0, none⟩ = some (.slice pa0 p.cells.length pc0) := by rw [hb.cell (p := ⟨w.heap.size, 0, none⟩) (by simp)]; simp [go_sem]
    have b01 : wr.cell? ⟨w.heap.size, 1, none⟩ = some (.slice pa1 p.bodies.length pc1) := by rw [hb.cell (p := ⟨w.heap.size, 1, none⟩) (by simp)]; simp [go_sem]
    have b10 : wr.cell? ⟨w.heap.size + 1, 0, none⟩ = some (.slice sa0 s.cells.length sc0) := by rw [hb.cell (p := ⟨w.heap.size + 1, 0, none⟩) (by simp)]; simp [go_sem]
    have b11 : wr.cell? ⟨w.heap.size + 1, 1, none⟩ = some (.slice sa1 s.tasks.length sc1) := by rw [hb.cell (p := ⟨w.heap.size + 1, 1, none⟩) (by simp)]; simp [go_sem]
    have b12 : wr.cell? ⟨w.heap.size + 1, 2, none⟩ = some (.int .i64 s.clock) := by rw [hb.cell (p := ⟨w.heap.size + 1, 2, none⟩) (by simp)]; simp [go_sem]
    have b13 : wr.cell? ⟨w.heap.size + 1, 3, none⟩ = some (.slice sa3 s.log.length sc3) := by rw [hb.cell (p := ⟨w.heap.size + 1, 3, none⟩) (by simp)]; simp [go_sem]
    have HB := (show Hid (Below (w.heap.size + 2) _ wr) from hb)
    have HBW := (show Hid (Below w.heap.size w wr) from hbw)
    by_cases hlt : k < s.tasks.length
    · have hlt' : (k : Int) < (s.tasks.length : Int) := by omega
      obtain ⟨b, off, v3, v8, v9, v10, rfl, hbb, c0, c1, c2, c3, c4, c5, c6, c7, c8, c9, c10, c11, c12, h3, h8, h9, h10⟩ := hc k hlt
      rw [← hbw.cell (p := ⟨b, _, none⟩) hbb] at c0 c1 c2 c3 c4 c5 c6 c7 c8 c9 c10 c11 c12
      have hbr : b < wr.heap.size := by have := hbw.size; omega
      obtain ⟨a3, e3, rfl, _⟩ := h3.shape
      obtain ⟨a8, e8, rfl, _⟩ := h8.shape
      obtain ⟨a9, e9, rfl, _⟩ := h9.shape
      obtain ⟨a10, e10, rfl, _⟩ := h10.shape
      have H3 := (show Hid (IntsAt _ _ _) from h3)
      have H8 := (show Hid (IntsAt _ _ _) from h8)
      have H9 := (show Hid (PusAt _ _ _) from h9)
      have H10 := (show Hid (PusAt _ _ _) from h10)
      have HSM := (show Hid (SmTa _) from hsm.2 k hlt)
      have HA := (show Hid (∀ j, j < k → _) from hall)
      clear h3 h8 h9 h10 hc hall hb hbw hsm
      cases g1 : tnB p (nth Ta.z s.tasks k)
      · have HF : Hid (tksB p s = false) := by
          have hf : tkB p s k = false := by unfold tkB tkN; simp [g1]
          unfold Hid tksB; rw [HIN.out, Bool.true_and, List.all_eq_false]; exact ⟨k, List.mem_range.2 hlt, by simp [hf]⟩
        have G1 := (show Hid (_ = _) from g1)
        clear g1
        go_wp2_with fail
        refine (task_b p _ _ _ _ (nth Ta.z s.tasks k) _ _ _ _ _ _ _ _ _ (by exact PrAt.mono HP.out (by repeat (first | with_reducible exact HBW.out | (with_reducible refine Below.setCell ?_ ?hs _; case hs => ((try simp); try omega)) | (with_reducible refine Below.alloc ?_ ?hs _; case hs => ((try simp); try omega)) | with_reducible refine Below.drew ?_))) (by exact IntsAt.mono H3.out (by repeat (first | with_reducible exact HBW.out | (with_reducible refine Below.setCell ?_ ?hs _; case hs => ((try simp); try omega)) | (with_reducible refine Below.alloc ?_ ?hs _; case hs => ((try simp); try omega)) | with_reducible refine Below.drew ?_))) (by exact IntsAt.mono H8.out (by repeat (first | with_reducible exact HBW.out | (with_reducible refine Below.setCell ?_ ?hs _; case hs => ((try simp); try omega)) | (with_reducible refine Below.alloc ?_ ?hs _; case hs => ((try simp); try omega)) | with_reducible refine Below.drew ?_))) G1.out).mono ?_
        rintro e w1 ⟨rfl, hc1⟩
        have HW1 : Hid (Below w.heap.size w w1) := below_then (by repeat (first | with_reducible exact HBW.out | (with_reducible refine Below.setCell ?_ ?hs _; case hs => ((try simp); try omega)) | (with_reducible refine Below.alloc ?_ ?hs _; case hs => ((try simp); try omega)) | with_reducible refine Below.drew ?_)) (by (try simp); try omega) hc1
        have HV1 : Hid (Below (w.heap.size + 2) ((w.alloc (.cells #[.slice pa0 p.cells.length pc0, .slice pa1 p.bodies.length pc1] 26)).alloc (.cells #[.slice sa0 s.cells.length sc0, .slice (some ⟨b, off, none⟩) s.tasks.length sc1, .int .i64 s.clock, .slice sa3 s.log.length sc3] 32)) w1) := below_then (by repeat (first | with_reducible exact HB.out | (with_reducible refine Below.setCell ?_ ?hs _; case hs => ((try simp); try omega)) | (with_reducible refine Below.alloc ?_ ?hs _; case hs => ((try simp); try omega)) | with_reducible refine Below.drew ?_)) (by (try simp); try omega) hc1
        obtain ⟨hx1, hy1⟩ := bcell hc1
        have t1a : w.heap.size < w1.heap.size := by have := hc1.size; (try simp at this); omega
        have t1b : w.heap.size + 1 < w1.heap.size := by have := hc1.size; (try simp at this); omega
        have t1d : wr.heap.size < w1.heap.size := by have := hc1.size; (try simp at this); omega
        have hsz1 := HW1.out.size
        clear hc1 hy1
        go_wp2_with fail
        go_ret
        exact ⟨by rw [HF.out]; rfl, HW1.out⟩
      have G1 := (show Hid (_ = _) from g1)
      clear g1
      obtain ⟨bn, pn, hb0, hbn, hc0, hpn, hs0⟩ := tnB_parts G1.out
      have HB0 := (show Hid (_ = _) from hb0)
      have HC0 := (show Hid (_ = _) from hc0)
      have HS := (show Hid ((nth Ta.z s.tasks k).stage = 0 ∨ _) from hs0)
      clear hb0 hc0 hs0
      cases g2 : upfB s k
      · have HF : Hid (tksB p s = false) := by
          have hf : tkB p s k = false := by unfold tkB tkN; simp [g2]
          unfold Hid tksB; rw [HIN.out, Bool.true_and, List.all_eq_false]; exact ⟨k, List.mem_range.2 hlt, by simp [hf]⟩
        have G2 := (show Hid (_ = _) from g2)
        clear g2
        go_wp2_with fail
        refine (task_b p _ _ _ _ (nth Ta.z s.tasks k) _ _ _ _ _ _ _ _ _ (by exact PrAt.mono HP.out (by repeat (first | with_reducible exact HBW.out | (with_reducible refine Below.setCell ?_ ?hs _; case hs => ((try simp); try omega)) | (with_reducible refine Below.alloc ?_ ?hs _; case hs => ((try simp); try omega)) | with_reducible refine Below.drew ?_))) (by exact IntsAt.mono H3.out (by repeat (first | with_reducible exact HBW.out | (with_reducible refine Below.setCell ?_ ?hs _; case hs => ((try simp); try omega)) | (with_reducible refine Below.alloc ?_ ?hs _; case hs => ((try simp); try omega)) | with_reducible refine Below.drew ?_))) (by exact IntsAt.mono H8.out (by repeat (first | with_reducible exact HBW.out | (with_reducible refine Below.setCell ?_ ?hs _; case hs => ((try simp); try omega)) | (with_reducible refine Below.alloc ?_ ?hs _; case hs => ((try simp); try omega)) | with_reducible refine Below.drew ?_))) G1.out).mono ?_
        rintro e w1 ⟨rfl, hc1⟩
        have HW1 : Hid (Below w.heap.size w w1) := below_then (by repeat (first | with_reducible exact HBW.out | (with_reducible refine Below.setCell ?_ ?hs _; case hs => ((try simp); try omega)) | (with_reducible refine Below.alloc ?_ ?hs _; case hs => ((try simp); try omega)) | with_reducible refine Below.drew ?_)) (by (try simp); try omega) hc1
        have HV1 : Hid (Below (w.heap.size + 2) ((w.alloc (.cells #[.slice pa0 p.cells.length pc0, .slice pa1 p.bodies.length pc1] 26)).alloc (.cells #[.slice sa0 s.cells.length sc0, .slice (some ⟨b, off, none⟩) s.tasks.length sc1, .int .i64 s.clock, .slice sa3 s.log.length sc3] 32)) w1) := below_then (by repeat (first | with_reducible exact HB.out | (with_reducible refine Below.setCell ?_ ?hs _; case hs => ((try simp); try omega)) | (with_reducible refine Below.alloc ?_ ?hs _; case hs => ((try simp); try omega)) | with_reducible refine Below.drew ?_)) (by (try simp); try omega) hc1
        obtain ⟨hx1, hy1⟩ := bcell hc1
        have t1a : w.heap.size < w1.heap.size := by have := hc1.size; (try simp at this); omega
        have t1b : w.heap.size + 1 < w1.heap.size := by have := hc1.size; (try simp at this); omega
        have t1d : wr.heap.size < w1.heap.size := by have := hc1.size; (try simp at this); omega
        have hsz1 := HW1.out.size
        clear hc1 hy1
        go_wp2_with fail
        refine (up_b s _ _ _ _ _ _ k _ (by exact TasAt.mono HT.out (by repeat (first | with_reducible exact HW1.out | (with_reducible refine Below.setCell ?_ ?hs _; case hs => ((try simp); try omega)) | (with_reducible refine Below.alloc ?_ ?hs _; case hs => ((try simp); try omega)) | with_reducible refine Below.drew ?_))) hlt G2.out).mono ?_
        rintro e w2 ⟨rfl, hc2⟩
        have HW2 : Hid (Below w.heap.size w w2) := below_then (by repeat (first | with_reducible exact HW1.out | (with_reducible refine Below.setCell ?_ ?hs _; case hs => ((try simp); try omega)) | (with_reducible refine Below.alloc ?_ ?hs _; case hs => ((try simp); try omega)) | with_reducible refine Below.drew ?_)) (by (try simp); try omega) hc2
        have HV2 : Hid (Below (w.heap.size + 2) ((w.alloc (.cells #[.slice pa0 p.cells.length pc0, .slice pa1 p.bodies.length pc1] 26)).alloc (.cells #[.slice sa0 s.cells.length sc0, .slice (some ⟨b, off, none⟩) s.tasks.length sc1, .int .i64 s.clock, .slice sa3 s.log.length sc3] 32)) w2) := below_then (by repeat (first | with_reducible exact HV1.out | (with_reducible refine Below.setCell ?_ ?hs _; case hs => ((try simp); try omega)) | (with_reducible refine Below.alloc ?_ ?hs _; case hs => ((try simp); try omega)) | with_reducible refine Below.drew ?_)) (by (try simp); try omega) hc2
        obtain ⟨hx2, hy2⟩ := bcell hc2
        have t2a : w.heap.size < w2.heap.size := by have := hc2.size; (try simp at this); omega
        have t2b : w.heap.size + 1 < w2.heap.size := by have := hc2.size; (try simp at this); omega
        have t2d : wr.heap.size < w2.heap.size := by have := hc2.size; (try simp at this); omega
        have hsz2 := HW2.out.size
        clear hc2 hy2
        go_wp2_with fail
        go_ret
        exact ⟨by rw [HF.out]; rfl, HW2.out⟩
      have G2 := (show Hid (_ = _) from g2)
      clear g2
      cases g3 : wyB p s k
      · have HF : Hid (tksB p s = false) := by
          have hf : tkB p s k = false := by unfold tkB tkN; simp [g3]
          unfold Hid tksB; rw [HIN.out, Bool.true_and, List.all_eq_false]; exact ⟨k, List.mem_range.2 hlt, by simp [hf]⟩
        have G3 := (show Hid (_ = _) from g3)
        clear g3
        go_wp2_with fail
        refine (task_b p _ _ _ _ (nth Ta.z s.tasks k) _ _ _ _ _ _ _ _ _ (by exact PrAt.mono HP.out (by repeat (first | with_reducible exact HBW.out | (with_reducible refine Below.setCell ?_ ?hs _; case hs => ((try simp); try omega)) | (with_reducible refine Below.alloc ?_ ?hs _; case hs => ((try simp); try omega)) | with_reducible refine Below.drew ?_))) (by exact IntsAt.mono H3.out (by repeat (first | with_reducible exact HBW.out | (with_reducible refine Below.setCell ?_ ?hs _; case hs => ((try simp); try omega)) | (with_reducible refine Below.alloc ?_ ?hs _; case hs => ((try simp); try omega)) | with_reducible refine Below.drew ?_))) (by exact IntsAt.mono H8.out (by repeat (first | with_reducible exact HBW.out | (with_reducible refine Below.setCell ?_ ?hs _; case hs => ((try simp); try omega)) | (with_reducible refine Below.alloc ?_ ?hs _; case hs => ((try simp); try omega)) | with_reducible refine Below.drew ?_))) G1.out).mono ?_
        rintro e w1 ⟨rfl, hc1⟩
        have HW1 : Hid (Below w.heap.size w w1) := below_then (by repeat (first | with_reducible exact HBW.out | (with_reducible refine Below.setCell ?_ ?hs _; case hs => ((try simp); try omega)) | (with_reducible refine Below.alloc ?_ ?hs _; case hs => ((try simp); try omega)) | with_reducible refine Below.drew ?_)) (by (try simp); try omega) hc1
        have HV1 : Hid (Below (w.heap.size + 2) ((w.alloc (.cells #[.slice pa0 p.cells.length pc0, .slice pa1 p.bodies.length pc1] 26)).alloc (.cells #[.slice sa0 s.cells.length sc0, .slice (some ⟨b, off, none⟩) s.tasks.length sc1, .int .i64 s.clock, .slice sa3 s.log.length sc3] 32)) w1) := below_then (by repeat (first | with_reducible exact HB.out | (with_reducible refine Below.setCell ?_ ?hs _; case hs => ((try simp); try omega)) | (with_reducible refine Below.alloc ?_ ?hs _; case hs => ((try simp); try omega)) | with_reducible refine Below.drew ?_)) (by (try simp); try omega) hc1
        obtain ⟨hx1, hy1⟩ := bcell hc1
        have t1a : w.heap.size < w1.heap.size := by have := hc1.size; (try simp at this); omega
        have t1b : w.heap.size + 1 < w1.heap.size := by have := hc1.size; (try simp at this); omega
        have t1d : wr.heap.size < w1.heap.size := by have := hc1.size; (try simp at this); omega
        have hsz1 := HW1.out.size
        clear hc1 hy1
        go_wp2_with fail
        refine (up_b s _ _ _ _ _ _ k _ (by exact TasAt.mono HT.out (by repeat (first | with_reducible exact HW1.out | (with_reducible refine Below.setCell ?_ ?hs _; case hs => ((try simp); try omega)) | (with_reducible refine Below.alloc ?_ ?hs _; case hs => ((try simp); try omega)) | with_reducible refine Below.drew ?_))) hlt G2.out).mono ?_
        rintro e w2 ⟨rfl, hc2⟩
        have HW2 : Hid (Below w.heap.size w w2) := below_then (by repeat (first | with_reducible exact HW1.out | (with_reducible refine Below.setCell ?_ ?hs _; case hs => ((try simp); try omega)) | (with_reducible refine Below.alloc ?_ ?hs _; case hs => ((try simp); try omega)) | with_reducible refine Below.drew ?_)) (by (try simp); try omega) hc2
        have HV2 : Hid (Below (w.heap.size + 2) ((w.alloc (.cells #[.slice pa0 p.cells.length pc0, .slice pa1 p.bodies.length pc1] 26)).alloc (.cells #[.slice sa0 s.cells.length sc0, .slice (some ⟨b, off, none⟩) s.tasks.length sc1, .int .i64 s.clock, .slice sa3 s.log.length sc3] 32)) w2) := below_then (by repeat (first | with_reducible exact HV1.out | (with_reducible refine Below.setCell ?_ ?hs _; case hs => ((try simp); try omega)) | (with_reducible refine Below.alloc ?_ ?hs _; case hs => ((try simp); try omega)) | with_reducible refine Below.drew ?_)) (by (try simp); try omega) hc2
        obtain ⟨hx2, hy2⟩ := bcell hc2
        have t2a : w.heap.size < w2.heap.size := by have := hc2.size; (try simp at this); omega
        have t2b : w.heap.size + 1 < w2.heap.size := by have := hc2.size; (try simp at this); omega
        have t2d : wr.heap.size < w2.heap.size := by have := hc2.size; (try simp at this); omega
        have hsz2 := HW2.out.size
        clear hc2 hy2
        go_wp2_with fail
        refine (way_b p _ _ _ _ s _ _ _ _ _ _ k bn pn _ (by exact PrAt.mono HP.out (by repeat (first | with_reducible exact HW2.out | (with_reducible refine Below.setCell ?_ ?hs _; case hs => ((try simp); try omega)) | (with_reducible refine Below.alloc ?_ ?hs _; case hs => ((try simp); try omega)) | with_reducible refine Below.drew ?_))) (by exact TasAt.mono HT.out (by repeat (first | with_reducible exact HW2.out | (with_reducible refine Below.setCell ?_ ?hs _; case hs => ((try simp); try omega)) | (with_reducible refine Below.alloc ?_ ?hs _; case hs => ((try simp); try omega)) | with_reducible refine Below.drew ?_))) hlt HB0.out hbn HC0.out hpn G3.out).mono ?_
        rintro e w3 ⟨rfl, hc3⟩
        have HW3 : Hid (Below w.heap.size w w3) := below_then (by repeat (first | with_reducible exact HW2.out | (with_reducible refine Below.setCell ?_ ?hs _; case hs => ((try simp); try omega)) | (with_reducible refine Below.alloc ?_ ?hs _; case hs => ((try simp); try omega)) | with_reducible refine Below.drew ?_)) (by (try simp); try omega) hc3
        have HV3 : Hid (Below (w.heap.size + 2) ((w.alloc (.cells #[.slice pa0 p.cells.length pc0, .slice pa1 p.bodies.length pc1] 26)).alloc (.cells #[.slice sa0 s.cells.length sc0, .slice (some ⟨b, off, none⟩) s.tasks.length sc1, .int .i64 s.clock, .slice sa3 s.log.length sc3] 32)) w3) := below_then (by repeat (first | with_reducible exact HV2.out | (with_reducible refine Below.setCell ?_ ?hs _; case hs => ((try simp); try omega)) | (with_reducible refine Below.alloc ?_ ?hs _; case hs => ((try simp); try omega)) | with_reducible refine Below.drew ?_)) (by (try simp); try omega) hc3
        obtain ⟨hx3, hy3⟩ := bcell hc3
        have t3a : w.heap.size < w3.heap.size := by have := hc3.size; (try simp at this); omega
        have t3b : w.heap.size + 1 < w3.heap.size := by have := hc3.size; (try simp at this); omega
        have t3d : wr.heap.size < w3.heap.size := by have := hc3.size; (try simp at this); omega
        have hsz3 := HW3.out.size
        clear hc3 hy3
        go_wp2_with fail
        go_ret
        exact ⟨by rw [HF.out]; rfl, HW3.out⟩
      have G3 := (show Hid (_ = _) from g3)
      clear g3
      cases g4 : cgB p s (nth Ta.z s.tasks k)
      · have HF : Hid (tksB p s = false) := by
          have hf : tkB p s k = false := by unfold tkB tkN; simp [g4]
          unfold Hid tksB; rw [HIN.out, Bool.true_and, List.all_eq_false]; exact ⟨k, List.mem_range.2 hlt, by simp [hf]⟩
        have G4 := (show Hid (_ = _) from g4)
        clear g4
        go_wp2_with fail
        refine (task_b p _ _ _ _ (nth Ta.z s.tasks k) _ _ _ _ _ _ _ _ _ (by exact PrAt.mono HP.out (by repeat (first | with_reducible exact HBW.out | (with_reducible refine Below.setCell ?_ ?hs _; case hs => ((try simp); try omega)) | (with_reducible refine Below.alloc ?_ ?hs _; case hs => ((try simp); try omega)) | with_reducible refine Below.drew ?_))) (by exact IntsAt.mono H3.out (by repeat (first | with_reducible exact HBW.out | (with_reducible refine Below.setCell ?_ ?hs _; case hs => ((try simp); try omega)) | (with_reducible refine Below.alloc ?_ ?hs _; case hs => ((try simp); try omega)) | with_reducible refine Below.drew ?_))) (by exact IntsAt.mono H8.out (by repeat (first | with_reducible exact HBW.out | (with_reducible refine Below.setCell ?_ ?hs _; case hs => ((try simp); try omega)) | (with_reducible refine Below.alloc ?_ ?hs _; case hs => ((try simp); try omega)) | with_reducible refine Below.drew ?_))) G1.out).mono ?_
        rintro e w1 ⟨rfl, hc1⟩
        have HW1 : Hid (Below w.heap.size w w1) := below_then (by repeat (first | with_reducible exact HBW.out | (with_reducible refine Below.setCell ?_ ?hs _; case hs => ((try simp); try omega)) | (with_reducible refine Below.alloc ?_ ?hs _; case hs => ((try simp); try omega)) | with_reducible refine Below.drew ?_)) (by (try simp); try omega) hc1
        have HV1 : Hid (Below (w.heap.size + 2) ((w.alloc (.cells #[.slice pa0 p.cells.length pc0, .slice pa1 p.bodies.length pc1] 26)).alloc (.cells #[.slice sa0 s.cells.length sc0, .slice (some ⟨b, off, none⟩) s.tasks.length sc1, .int .i64 s.clock, .slice sa3 s.log.length sc3] 32)) w1) := below_then (by repeat (first | with_reducible exact HB.out | (with_reducible refine Below.setCell ?_ ?hs _; case hs => ((try simp); try omega)) | (with_reducible refine Below.alloc ?_ ?hs _; case hs => ((try simp); try omega)) | with_reducible refine Below.drew ?_)) (by (try simp); try omega) hc1
        obtain ⟨hx1, hy1⟩ := bcell hc1
        have t1a : w.heap.size < w1.heap.size := by have := hc1.size; (try simp at this); omega
        have t1b : w.heap.size + 1 < w1.heap.size := by have := hc1.size; (try simp at this); omega
        have t1d : wr.heap.size < w1.heap.size := by have := hc1.size; (try simp at this); omega
        have hsz1 := HW1.out.size
        clear hc1 hy1
        go_wp2_with fail
        refine (up_b s _ _ _ _ _ _ k _ (by exact TasAt.mono HT.out (by repeat (first | with_reducible exact HW1.out | (with_reducible refine Below.setCell ?_ ?hs _; case hs => ((try simp); try omega)) | (with_reducible refine Below.alloc ?_ ?hs _; case hs => ((try simp); try omega)) | with_reducible refine Below.drew ?_))) hlt G2.out).mono ?_
        rintro e w2 ⟨rfl, hc2⟩
        have HW2 : Hid (Below w.heap.size w w2) := below_then (by repeat (first | with_reducible exact HW1.out | (with_reducible refine Below.setCell ?_ ?hs _; case hs => ((try simp); try omega)) | (with_reducible refine Below.alloc ?_ ?hs _; case hs => ((try simp); try omega)) | with_reducible refine Below.drew ?_)) (by (try simp); try omega) hc2
        have HV2 : Hid (Below (w.heap.size + 2) ((w.alloc (.cells #[.slice pa0 p.cells.length pc0, .slice pa1 p.bodies.length pc1] 26)).alloc (.cells #[.slice sa0 s.cells.length sc0, .slice (some ⟨b, off, none⟩) s.tasks.length sc1, .int .i64 s.clock, .slice sa3 s.log.length sc3] 32)) w2) := below_then (by repeat (first | with_reducible exact HV1.out | (with_reducible refine Below.setCell ?_ ?hs _; case hs => ((try simp); try omega)) | (with_reducible refine Below.alloc ?_ ?hs _; case hs => ((try simp); try omega)) | with_reducible refine Below.drew ?_)) (by (try simp); try omega) hc2
        obtain ⟨hx2, hy2⟩ := bcell hc2
        have t2a : w.heap.size < w2.heap.size := by have := hc2.size; (try simp at this); omega
        have t2b : w.heap.size + 1 < w2.heap.size := by have := hc2.size; (try simp at this); omega
        have t2d : wr.heap.size < w2.heap.size := by have := hc2.size; (try simp at this); omega
        have hsz2 := HW2.out.size
        clear hc2 hy2
        go_wp2_with fail
        refine (way_b p _ _ _ _ s _ _ _ _ _ _ k bn pn _ (by exact PrAt.mono HP.out (by repeat (first | with_reducible exact HW2.out | (with_reducible refine Below.setCell ?_ ?hs _; case hs => ((try simp); try omega)) | (with_reducible refine Below.alloc ?_ ?hs _; case hs => ((try simp); try omega)) | with_reducible refine Below.drew ?_))) (by exact TasAt.mono HT.out (by repeat (first | with_reducible exact HW2.out | (with_reducible refine Below.setCell ?_ ?hs _; case hs => ((try simp); try omega)) | (with_reducible refine Below.alloc ?_ ?hs _; case hs => ((try simp); try omega)) | with_reducible refine Below.drew ?_))) hlt HB0.out hbn HC0.out hpn G3.out).mono ?_
        rintro e w3 ⟨rfl, hc3⟩
        have HW3 : Hid (Below w.heap.size w w3) := below_then (by repeat (first | with_reducible exact HW2.out | (with_reducible refine Below.setCell ?_ ?hs _; case hs => ((try simp); try omega)) | (with_reducible refine Below.alloc ?_ ?hs _; case hs => ((try simp); try omega)) | with_reducible refine Below.drew ?_)) (by (try simp); try omega) hc3
        have HV3 : Hid (Below (w.heap.size + 2) ((w.alloc (.cells #[.slice pa0 p.cells.length pc0, .slice pa1 p.bodies.length pc1] 26)).alloc (.cells #[.slice sa0 s.cells.length sc0, .slice (some ⟨b, off, none⟩) s.tasks.length sc1, .int .i64 s.clock, .slice sa3 s.log.length sc3] 32)) w3) := below_then (by repeat (first | with_reducible exact HV2.out | (with_reducible refine Below.setCell ?_ ?hs _; case hs => ((try simp); try omega)) | (with_reducible refine Below.alloc ?_ ?hs _; case hs => ((try simp); try omega)) | with_reducible refine Below.drew ?_)) (by (try simp); try omega) hc3
        obtain ⟨hx3, hy3⟩ := bcell hc3
        have t3a : w.heap.size < w3.heap.size := by have := hc3.size; (try simp at this); omega
        have t3b : w.heap.size + 1 < w3.heap.size := by have := hc3.size; (try simp at this); omega
        have t3d : wr.heap.size < w3.heap.size := by have := hc3.size; (try simp at this); omega
        have hsz3 := HW3.out.size
        clear hc3 hy3
        go_wp2_with fail
        refine (change_b p _ _ _ _ s _ _ _ _ _ _ (nth Ta.z s.tasks k) _ _ _ _ _ _ _ _ bn pn _ (by exact PrAt.mono HP.out (by repeat (first | with_reducible exact HW3.out | (with_reducible refine Below.setCell ?_ ?hs _; case hs => ((try simp); try omega)) | (with_reducible refine Below.alloc ?_ ?hs _; case hs => ((try simp); try omega)) | with_reducible refine Below.drew ?_))) (by exact PusAt.mono H9.out (by repeat (first | with_reducible exact HW3.out | (with_reducible refine Below.setCell ?_ ?hs _; case hs => ((try simp); try omega)) | (with_reducible refine Below.alloc ?_ ?hs _; case hs => ((try simp); try omega)) | with_reducible refine Below.drew ?_))) (by exact PusAt.mono H10.out (by repeat (first | with_reducible exact HW3.out | (with_reducible refine Below.setCell ?_ ?hs _; case hs => ((try simp); try omega)) | (with_reducible refine Below.alloc ?_ ?hs _; case hs => ((try simp); try omega)) | with_reducible refine Below.drew ?_))) HB0.out hbn HC0.out hpn HS.out h0 h200 HSM.out.2.2.1 HSM.out.2.2.2 G4.out).mono ?_
        rintro e w4 ⟨rfl, hc4⟩
        have HW4 : Hid (Below w.heap.size w w4) := below_then (by repeat (first | with_reducible exact HW3.out | (with_reducible refine Below.setCell ?_ ?hs _; case hs => ((try simp); try omega)) | (with_reducible refine Below.alloc ?_ ?hs _; case hs => ((try simp); try omega)) | with_reducible refine Below.drew ?_)) (by (try simp); try omega) hc4
        have HV4 : Hid (Below (w.heap.size + 2) ((w.alloc (.cells #[.slice pa0 p.cells.length pc0, .slice pa1 p.bodies.length pc1] 26)).alloc (.cells #[.slice sa0 s.cells.length sc0, .slice (some ⟨b, off, none⟩) s.tasks.length sc1, .int .i64 s.clock, .slice sa3 s.log.length sc3] 32)) w4) := below_then (by repeat (first | with_reducible exact HV3.out | (with_reducible refine Below.setCell ?_ ?hs _; case hs => ((try simp); try omega)) | (with_reducible refine Below.alloc ?_ ?hs _; case hs => ((try simp); try omega)) | with_reducible refine Below.drew ?_)) (by (try simp); try omega) hc4
        obtain ⟨hx4, hy4⟩ := bcell hc4
        have t4a : w.heap.size < w4.heap.size := by have := hc4.size; (try simp at this); omega
        have t4b : w.heap.size + 1 < w4.heap.size := by have := hc4.size; (try simp at this); omega
        have t4d : wr.heap.size < w4.heap.size := by have := hc4.size; (try simp at this); omega
        have hsz4 := HW4.out.size
        clear hc4 hy4
        go_wp2_with fail
        go_ret
        exact ⟨by rw [HF.out]; rfl, HW4.out⟩
      have G4 := (show Hid (_ = _) from g4)
      clear g4
      have HA1 : Hid (∀ j, j < k + 1 → tkB p s j = true) := so_far HA.out (by unfold tkB tkN; rw [G1.out, G2.out, G3.out, G4.out]; rfl)
      go_wp2_with fail
      refine (task_b p _ _ _ _ (nth Ta.z s.tasks k) _ _ _ _ _ _ _ _ _ (by exact PrAt.mono HP.out (by repeat (first | with_reducible exact HBW.out | (with_reducible refine Below.setCell ?_ ?hs _; case hs => ((try simp); try omega)) | (with_reducible refine Below.alloc ?_ ?hs _; case hs => ((try simp); try omega)) | with_reducible refine Below.drew ?_))) (by exact IntsAt.mono H3.out (by repeat (first | with_reducible exact HBW.out | (with_reducible refine Below.setCell ?_ ?hs _; case hs => ((try simp); try omega)) | (with_reducible refine Below.alloc ?_ ?hs _; case hs => ((try simp); try omega)) | with_reducible refine Below.drew ?_))) (by exact IntsAt.mono H8.out (by repeat (first | with_reducible exact HBW.out | (with_reducible refine Below.setCell ?_ ?hs _; case hs => ((try simp); try omega)) | (with_reducible refine Below.alloc ?_ ?hs _; case hs => ((try simp); try omega)) | with_reducible refine Below.drew ?_))) G1.out).mono ?_
      rintro e w1 ⟨rfl, hc1⟩
      have HW1 : Hid (Below w.heap.size w w1) := below_then (by repeat (first | with_reducible exact HBW.out | (with_reducible refine Below.setCell ?_ ?hs _; case hs => ((try simp); try omega)) | (with_reducible refine Below.alloc ?_ ?hs _; case hs => ((try simp); try omega)) | with_reducible refine Below.drew ?_)) (by (try simp); try omega) hc1
      have HV1 : Hid (Below (w.heap.size + 2) ((w.alloc (.cells #[.slice pa0 p.cells.length pc0, .slice pa1 p.bodies.length pc1] 26)).alloc (.cells #[.slice sa0 s.cells.length sc0, .slice (some ⟨b, off, none⟩) s.tasks.length sc1, .int .i64 s.clock, .slice sa3 s.log.length sc3] 32)) w1) := below_then (by repeat (first | with_reducible exact HB.out | (with_reducible refine Below.setCell ?_ ?hs _; case hs => ((try simp); try omega)) | (with_reducible refine Below.alloc ?_ ?hs _; case hs => ((try simp); try omega)) | with_reducible refine Below.drew ?_)) (by (try simp); try omega) hc1
      obtain ⟨hx1, hy1⟩ := bcell hc1
      have t1a : w.heap.size < w1.heap.size := by have := hc1.size; (try simp at this); omega
      have t1b : w.heap.size + 1 < w1.heap.size := by have := hc1.size; (try simp at this); omega
      have t1d : wr.heap.size < w1.heap.size := by have := hc1.size; (try simp at this); omega
      have hsz1 := HW1.out.size
      clear hc1 hy1
      go_wp2_with fail
      refine (up_b s _ _ _ _ _ _ k _ (by exact TasAt.mono HT.out (by repeat (first | with_reducible exact HW1.out | (with_reducible refine Below.setCell ?_ ?hs _; case hs => ((try simp); try omega)) | (with_reducible refine Below.alloc ?_ ?hs _; case hs => ((try simp); try omega)) | with_reducible refine Below.drew ?_))) hlt G2.out).mono ?_
      rintro e w2 ⟨rfl, hc2⟩
      have HW2 : Hid (Below w.heap.size w w2) := below_then (by repeat (first | with_reducible exact HW1.out | (with_reducible refine Below.setCell ?_ ?hs _; case hs => ((try simp); try omega)) | (with_reducible refine Below.alloc ?_ ?hs _; case hs => ((try simp); try omega)) | with_reducible refine Below.drew ?_)) (by (try simp); try omega) hc2
      have HV2 : Hid (Below (w.heap.size + 2) ((w.alloc (.cells #[.slice pa0 p.cells.length pc0, .slice pa1 p.bodies.length pc1] 26)).alloc (.cells #[.slice sa0 s.cells.length sc0, .slice (some ⟨b, off, none⟩) s.tasks.length sc1, .int .i64 s.clock, .slice sa3 s.log.length sc3] 32)) w2) := below_then (by repeat (first | with_reducible exact HV1.out | (with_reducible refine Below.setCell ?_ ?hs _; case hs => ((try simp); try omega)) | (with_reducible refine Below.alloc ?_ ?hs _; case hs => ((try simp); try omega)) | with_reducible refine Below.drew ?_)) (by (try simp); try omega) hc2
      obtain ⟨hx2, hy2⟩ := bcell hc2
      have t2a : w.heap.size < w2.heap.size := by have := hc2.size; (try simp at this); omega
      have t2b : w.heap.size + 1 < w2.heap.size := by have := hc2.size; (try simp at this); omega
      have t2d : wr.heap.size < w2.heap.size := by have := hc2.size; (try simp at this); omega
      have hsz2 := HW2.out.size
      clear hc2 hy2
      go_wp2_with fail
      refine (way_b p _ _ _ _ s _ _ _ _ _ _ k bn pn _ (by exact PrAt.mono HP.out (by repeat (first | with_reducible exact HW2.out | (with_reducible refine Below.setCell ?_ ?hs _; case hs => ((try simp); try omega)) | (with_reducible refine Below.alloc ?_ ?hs _; case hs => ((try simp); try omega)) | with_reducible refine Below.drew ?_))) (by exact TasAt.mono HT.out (by repeat (first | with_reducible exact HW2.out | (with_reducible refine Below.setCell ?_ ?hs _; case hs => ((try simp); try omega)) | (with_reducible refine Below.alloc ?_ ?hs _; case hs => ((try simp); try omega)) | with_reducible refine Below.drew ?_))) hlt HB0.out hbn HC0.out hpn G3.out).mono ?_
      rintro e w3 ⟨rfl, hc3⟩
      have HW3 : Hid (Below w.heap.size w w3) := below_then (by repeat (first | with_reducible exact HW2.out | (with_reducible refine Below.setCell ?_ ?hs _; case hs => ((try simp); try omega)) | (with_reducible refine Below.alloc ?_ ?hs _; case hs => ((try simp); try omega)) | with_reducible refine Below.drew ?_)) (by (try simp); try omega) hc3
      have HV3 : Hid (Below (w.heap.size + 2) ((w.alloc (.cells #[.slice pa0 p.cells.length pc0, .slice pa1 p.bodies.length pc1] 26)).alloc (.cells #[.slice sa0 s.cells.length sc0, .slice (some ⟨b, off, none⟩) s.tasks.length sc1, .int .i64 s.clock, .slice sa3 s.log.length sc3] 32)) w3) := below_then (by repeat (first | with_reducible exact HV2.out | (with_reducible refine Below.setCell ?_ ?hs _; case hs => ((try simp); try omega)) | (with_reducible refine Below.alloc ?_ ?hs _; case hs => ((try simp); try omega)) | with_reducible refine Below.drew ?_)) (by (try simp); try omega) hc3
      obtain ⟨hx3, hy3⟩ := bcell hc3
      have t3a : w.heap.size < w3.heap.size := by have := hc3.size; (try simp at this); omega
      have t3b : w.heap.size + 1 < w3.heap.size := by have := hc3.size; (try simp at this); omega
      have t3d : wr.heap.size < w3.heap.size := by have := hc3.size; (try simp at this); omega
      have hsz3 := HW3.out.size
      clear hc3 hy3
      go_wp2_with fail
      refine (change_b p _ _ _ _ s _ _ _ _ _ _ (nth Ta.z s.tasks k) _ _ _ _ _ _ _ _ bn pn _ (by exact PrAt.mono HP.out (by repeat (first | with_reducible exact HW3.out | (with_reducible refine Below.setCell ?_ ?hs _; case hs => ((try simp); try omega)) | (with_reducible refine Below.alloc ?_ ?hs _; case hs => ((try simp); try omega)) | with_reducible refine Below.drew ?_))) (by exact PusAt.mono H9.out (by repeat (first | with_reducible exact HW3.out | (with_reducible refine Below.setCell ?_ ?hs _; case hs => ((try simp); try omega)) | (with_reducible refine Below.alloc ?_ ?hs _; case hs => ((try simp); try omega)) | with_reducible refine Below.drew ?_))) (by exact PusAt.mono H10.out (by repeat (first | with_reducible exact HW3.out | (with_reducible refine Below.setCell ?_ ?hs _; case hs => ((try simp); try omega)) | (with_reducible refine Below.alloc ?_ ?hs _; case hs => ((try simp); try omega)) | with_reducible refine Below.drew ?_))) HB0.out hbn HC0.out hpn HS.out h0 h200 HSM.out.2.2.1 HSM.out.2.2.2 G4.out).mono ?_
      rintro e w4 ⟨rfl, hc4⟩
      have HW4 : Hid (Below w.heap.size w w4) := below_then (by repeat (first | with_reducible exact HW3.out | (with_reducible refine Below.setCell ?_ ?hs _; case hs => ((try simp); try omega)) | (with_reducible refine Below.alloc ?_ ?hs _; case hs => ((try simp); try omega)) | with_reducible refine Below.drew ?_)) (by (try simp); try omega) hc4
      have HV4 : Hid (Below (w.heap.size + 2) ((w.alloc (.cells #[.slice pa0 p.cells.length pc0, .slice pa1 p.bodies.length pc1] 26)).alloc (.cells #[.slice sa0 s.cells.length sc0, .slice (some ⟨b, off, none⟩) s.tasks.length sc1, .int .i64 s.clock, .slice sa3 s.log.length sc3] 32)) w4) := below_then (by repeat (first | with_reducible exact HV3.out | (with_reducible refine Below.setCell ?_ ?hs _; case hs => ((try simp); try omega)) | (with_reducible refine Below.alloc ?_ ?hs _; case hs => ((try simp); try omega)) | with_reducible refine Below.drew ?_)) (by (try simp); try omega) hc4
      obtain ⟨hx4, hy4⟩ := bcell hc4
      have t4a : w.heap.size < w4.heap.size := by have := hc4.size; (try simp at this); omega
      have t4b : w.heap.size + 1 < w4.heap.size := by have := hc4.size; (try simp at this); omega
      have t4d : wr.heap.size < w4.heap.size := by have := hc4.size; (try simp at this); omega
      have hsz4 := HW4.out.size
      clear hc4 hy4
      go_wp2_with fail
      go_roundw
      case rel => exact ⟨k + 1, by omega, by go_num, HV4.out, HA1.out⟩
      case measure => simp [intOf]; omega
    · have HF : Hid (tksB p s = true) := by
        unfold Hid tksB; rw [HIN.out, Bool.true_and, List.all_eq_true]; intro j hj; exact hall j (by have := List.mem_range.1 hj; omega)
      clear hc hall hb
      go_wp2_with fail
      go_ret
      exact ⟨by rw [HF.out]; rfl, HBW.out⟩
end Go.Proofs.Ytgbgjljflgbcaaa
