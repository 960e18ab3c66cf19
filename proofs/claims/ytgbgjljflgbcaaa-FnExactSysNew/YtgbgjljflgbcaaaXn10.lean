import Derived.Test.YtgbgjljflgbcaaaXn09
namespace Go.Proofs.Ytgbgjljflgbcaaa
open Go.RowKit
theorem foB_form {p : Pr} (h : foB p = true) : Form p ∧ 1 ≤ p.bodies.length := by
  simp [foB, inB] at h
  exact ⟨⟨by omega, fun i hi => h.2 i hi⟩, by omega⟩
set_option maxHeartbeats 1000000 in
theorem progOk_any (p : Pr) (cv bv : Value) (w : World) (hc : IntsAt w cv p.cells) (hB : BodiesAt w bv p.bodies) :
    Calls Try.prog 35 #[.agg #[cv, bv]] w fun r w' => r = .returned (.bool (okB p)) ∧ Below w.heap.size w w' := by
  obtain ⟨ac, cc, hcv, hmc⟩ := hc.shape
  obtain ⟨ab, cb, hbv, hmb⟩ := hB.shape
  subst hcv hbv
  cases h1 : csB p.cells
  · have HF : Hid (okB p = false) := by simp [Hid, okB, foB, h1]
    have H1 := (show Hid _ from h1)
    clear h1
    go_enter Try.func35, Try.ntmps35
    go_wp2_with fail
    refine (cellsInForm_any _ p.cells _ (by exact hc.mono (by repeat (first | exact Below.refl _ _ | refine Below.alloc ?_ (by simp; try omega) _ | refine Below.drew ?_ | refine Below.setCell ?_ (by simp; try omega) _)))).mono ?_
    rintro e w1 ⟨rfl, rfl⟩
    rw [H1.out]
    go_wp2_with fail
    go_ret
    exact ⟨by rw [HF.out]; rfl, (by repeat (first | exact Below.refl _ _ | refine Below.alloc ?_ (by simp; try omega) _ | refine Below.drew ?_ | refine Below.setCell ?_ (by simp; try omega) _))⟩
  have H1 := (show Hid _ from h1)
  clear h1
  by_cases h2 : p.bodies.length < 1
  · have HF : Hid (okB p = false) := by simp [Hid, okB, foB, inB]; omega
    have g2 : decide ((p.bodies.length : Int) < 1) = true := by simp; omega
    clear h2
    go_enter Try.func35, Try.ntmps35
    go_wp2_with fail
    refine (cellsInForm_any _ p.cells _ (by exact hc.mono (by repeat (first | exact Below.refl _ _ | refine Below.alloc ?_ (by simp; try omega) _ | refine Below.drew ?_ | refine Below.setCell ?_ (by simp; try omega) _)))).mono ?_
    rintro e w1 ⟨rfl, rfl⟩
    rw [H1.out]
    go_wp2_with fail
    go_ret
    exact ⟨by rw [HF.out]; rfl, (by repeat (first | exact Below.refl _ _ | refine Below.alloc ?_ (by simp; try omega) _ | refine Below.drew ?_ | refine Below.setCell ?_ (by simp; try omega) _))⟩
  have g2 : decide ((p.bodies.length : Int) < 1) = false := by simp; omega
  by_cases h3 : 4 < p.bodies.length
  · have HF : Hid (okB p = false) := by simp [Hid, okB, foB, inB]; omega
    have g3 : (4 : Int) < p.bodies.length := by omega
    clear h2 h3
    go_enter Try.func35, Try.ntmps35
    go_wp2_with fail
    refine (cellsInForm_any _ p.cells _ (by exact hc.mono (by repeat (first | exact Below.refl _ _ | refine Below.alloc ?_ (by simp; try omega) _ | refine Below.drew ?_ | refine Below.setCell ?_ (by simp; try omega) _)))).mono ?_
    rintro e w1 ⟨rfl, rfl⟩
    rw [H1.out]
    go_wp2_with fail
    go_ret
    exact ⟨by rw [HF.out]; rfl, (by repeat (first | exact Below.refl _ _ | refine Below.alloc ?_ (by simp; try omega) _ | refine Below.drew ?_ | refine Below.setCell ?_ (by simp; try omega) _))⟩
  have g3 : ¬ (4 : Int) < p.bodies.length := by omega
  go_enter Try.func35, Try.ntmps35
  go_wp2_with fail
  refine (cellsInForm_any _ p.cells _ (by exact hc.mono (by repeat (first | exact Below.refl _ _ | refine Below.alloc ?_ (by simp; try omega) _ | refine Below.drew ?_ | refine Below.setCell ?_ (by simp; try omega) _)))).mono ?_
  rintro e w1 ⟨rfl, rfl⟩
  rw [H1.out]
  go_wp2_with fail
  go_loopw [23] (fun q w' => ∃ k : Nat, k ≤ p.bodies.length ∧ q = .int .i64 k ∧ Below (w.alloc (.cells #[.slice ac p.cells.length cc, .slice ab p.bodies.length cb] 26)).heap.size (w.alloc (.cells #[.slice ac p.cells.length cc, .slice ab p.bodies.length cb] 26)) w' ∧ (∀ j, j < k → boB p j = true)) (fun q _ => p.bodies.length - (intOf q).toNat)
  case atStart => exact ⟨0, Nat.zero_le _, rfl, Below.refl _ _, fun j hj => absurd hj (Nat.not_lt_zero _)⟩
  case round =>
    obtain ⟨k, hk, rfl, hb, hall⟩ := hrel
    have hbw' : Below w.heap.size w _ := below_after (Below.refl _ _) (Nat.le_refl _) hb
    have e0 : wr.cell? ⟨w.heap.size, 0, none⟩ = some (.slice ac p.cells.length cc) := by rw [hb.cell (p := ⟨w.heap.size, 0, none⟩) (by simp)]; simp [go_sem]
    have e1 : wr.cell? ⟨w.heap.size, 1, none⟩ = some (.slice ab p.bodies.length cb) := by rw [hb.cell (p := ⟨w.heap.size, 1, none⟩) (by simp)]; simp [go_sem]
    have hz : w.heap.size < wr.heap.size := by have := hb.size; simp at this; omega
    by_cases hlt : k < p.bodies.length
    · have HX : Hid (IntsAt wr _ p.cells ∧ BodiesAt wr _ p.bodies) := ⟨hc.mono hbw', hB.mono hbw'⟩
      go_wp2_with fail
      refine (bodyInForm_any p _ _ k _ HX.out.1 HX.out.2 hlt).mono ?_
      rintro e w1 ⟨rfl, hb1⟩
      have HB : Hid (Below (w.alloc (.cells #[.slice ac p.cells.length cc, .slice ab p.bodies.length cb] 26)).heap.size (w.alloc (.cells #[.slice ac p.cells.length cc, .slice ab p.bodies.length cb] 26)) w1) := hb.trans (hb1.mono hb.size)
      clear hb1 e0 e1 HX hbw' hb
      cases hd : boB p k
      · have HF : Hid (okB p = false) := by
          have : (List.range p.bodies.length).all (boB p) = false := by
            rw [List.all_eq_false]; exact ⟨k, by simpa using hlt, by simp [hd]⟩
          simp [Hid, okB, foB, this]
        clear hd hall
        go_wp2_with fail
        go_ret
        exact ⟨by rw [HF.out]; rfl, below_after (Below.refl _ _) (Nat.le_refl _) HB.out⟩
      · have HA : Hid (∀ j, j < k + 1 → boB p j = true) := so_far hall hd
        clear hd hall
        go_wp2_with fail
        go_roundw
        case rel => exact ⟨k + 1, by omega, by go_num, HB.out, HA.out⟩
        case measure => simp [intOf]; omega
    · have hf : foB p = true := by
        have : (List.range p.bodies.length).all (boB p) = true := by
          rw [List.all_eq_true]; intro j hj; exact hall j (by have := List.mem_range.1 hj; omega)
        simp [foB, inB, this, H1.out]; omega
      have HF : Hid (okB p = decide (tr p 4 0 ≤ 7)) := by simp [Hid, okB, hf]
      have HFo : Hid (Form p) := (foB_form hf).1
      have HX : Hid (IntsAt wr _ p.cells ∧ BodiesAt wr _ p.bodies) := ⟨hc.mono hbw', hB.mono hbw'⟩
      clear hall hf
      go_wp2_with fail
      refine (bodyTree_any p _ _ 0 _ HFo.out HX.out.1 HX.out.2 (by omega)).mono ?_
      rintro e w1 ⟨rfl, hb1⟩
      have HB : Hid (Below w.heap.size w w1) := hbw'.trans (hb1.mono hbw'.size)
      clear hb1 e0 e1 HX hbw' hb
      go_wp2_with fail
      go_ret
      exact ⟨by rw [HF.out]; simp; try omega, HB.out⟩
end Go.Proofs.Ytgbgjljflgbcaaa
