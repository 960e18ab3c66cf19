import Derived.Test.YtgbgjljflgbcaaaXn06
namespace Go.Proofs.Ytgbgjljflgbcaaa
open Go.RowKit
set_option maxHeartbeats 400000 in
theorem bodyInForm_any (p : Pr) (cv bv : Value) (i : Nat) (w : World) (hc : IntsAt w cv p.cells) (hB : BodiesAt w bv p.bodies) (hi : i < p.bodies.length) :
    Calls Try.prog 84 #[.agg #[cv, bv], .int .i64 i] w fun r w' => r = .returned (.bool (boB p i)) ∧ Below w.heap.size w w' := by
  obtain ⟨ac, cc, hcv, hmc⟩ := hc.shape
  obtain ⟨ab, cb, hbv, hmb, hbs⟩ := id hB
  obtain ⟨b, off, av, rfl, hbw, c0, ha⟩ := hbs i hi
  clear hbs
  obtain ⟨aa, ca, rfl, hma, has⟩ := id ha
  subst hcv hbv
  generalize HA : nth [] p.bodies i = acts at *
  have HA' := HA
  clear HA
  have HX : Hid (nth [] p.bodies i = acts) := HA'
  clear HA'
  by_cases h5 : acts.length ≤ 4
  · have h5' : ¬ (4 : Int) < (acts.length : Int) := by omega
    go_enter Try.func84, Try.ntmps84
    go_wp2_with fail
    go_loopw [20] (fun q w' => ∃ k : Nat, k ≤ acts.length ∧ q = .int .i64 k ∧ Below (w.alloc (.cells #[.slice ac p.cells.length cc, .slice (some ⟨b, off, none⟩) p.bodies.length cb] 26)).heap.size (w.alloc (.cells #[.slice ac p.cells.length cc, .slice (some ⟨b, off, none⟩) p.bodies.length cb] 26)) w' ∧ (∀ j, j < k → acB (nth Ac.z acts j) p.cells.length i p.bodies.length = true)) (fun q _ => acts.length - (intOf q).toNat)
    case atStart => exact ⟨0, Nat.zero_le _, rfl, Below.refl _ _, fun j hj => absurd hj (Nat.not_lt_zero _)⟩
    case round =>
      obtain ⟨k, hk, rfl, hb, hall⟩ := hrel
      have hbw' : Below w.heap.size w _ := below_after (Below.refl _ _) (Nat.le_refl _) hb
      by_cases hlt : k < acts.length
      · obtain ⟨b2, off2, dv, kv, rfl, hb2, d0, d1, d2, d3, hd, hk'⟩ := has k hlt
        rw [← hbw'.cell (p := ⟨b2, _, none⟩) hb2] at d0 d1 d2 d3
        obtain ⟨ad, cd, rfl, hmd⟩ := hd.shape
        obtain ⟨ak, ck, rfl, hmk⟩ := hk'.shape
        have e0 : wr.cell? ⟨w.heap.size, 0, none⟩ = some (.slice ac p.cells.length cc) := by rw [hb.cell (p := ⟨w.heap.size, 0, none⟩) (by simp)]; simp [go_sem]
        have e1 : wr.cell? ⟨w.heap.size, 1, none⟩ = some (.slice (some ⟨b, off, none⟩) p.bodies.length cb) := by rw [hb.cell (p := ⟨w.heap.size, 1, none⟩) (by simp)]; simp [go_sem]
        have hz : w.heap.size < wr.heap.size := by have := hb.size; simp at this; omega
        have hz2 : b2 < wr.heap.size := by omega
        go_wp2_with fail
        have HP : Hid (∀ o, Below w.heap.size w (wr.alloc o)) := fun o => hbw'.alloc (by omega) o
        refine (actInForm_any (nth Ac.z acts k) _ _ _ _ p.cells p.bodies _ _ (hd.mono (HP.out _)) (hk'.mono (HP.out _)) (hc.mono (HP.out _)) (hB.mono (HP.out _))).mono ?_
        rintro e w1 ⟨rfl, hb1⟩
        have HB : Hid (Below (w.alloc (.cells #[.slice ac p.cells.length cc, .slice (some ⟨b, off, none⟩) p.bodies.length cb] 26)).heap.size (w.alloc (.cells #[.slice ac p.cells.length cc, .slice (some ⟨b, off, none⟩) p.bodies.length cb] 26)) w1) := below_after hb hb.size hb1
        clear hb1 d0 d1 d2 d3 e0 e1 HP hd hk' hc hB ha has c0 hbw'
        cases hd : acB (nth Ac.z acts k) p.cells.length i p.bodies.length
        · have HF : Hid (boB p i = false) := by
            simp only [Hid, boB, HX.out, not_all_nth Ac.z (acB · p.cells.length i p.bodies.length) acts k hlt hd, Bool.and_false]
          clear hd hall hb
          go_wp2
          go_ret
          exact ⟨by rw [HF.out]; rfl, below_after (Below.refl _ _) (Nat.le_refl _) HB.out⟩
        · have HA : Hid (∀ j, j < k + 1 → acB (nth Ac.z acts j) p.cells.length i p.bodies.length = true) := so_far hall hd
          clear hd hall hb
          go_wp2
          go_roundw
          case rel => exact ⟨k + 1, by omega, by go_num, HB.out, HA.out⟩
          case measure => simp [intOf]; omega
      · have HF : Hid (boB p i = true) := by
          have := all_nth Ac.z (acB · p.cells.length i p.bodies.length) acts (fun j hj => hall j (by omega))
          simp only [Hid, boB, HX.out, this, h5]; rfl
        clear hall has hb
        go_wp2
        go_ret
        exact ⟨by rw [HF.out]; rfl, hbw'⟩
  · have h5' : (4 : Int) < (acts.length : Int) := by omega
    have HF : Hid (boB p i = false) := by simp [Hid, boB, HX.out, h5]
    clear has
    go_enter Try.func84, Try.ntmps84
    go_wp2
    go_ret
    exact ⟨by rw [HF.out]; rfl, (by repeat (first | exact Below.refl _ _ | refine Below.alloc ?_ (by simp; try omega) _ | refine Below.drew ?_ | refine Below.setCell ?_ (by simp; try omega) _))⟩
end Go.Proofs.Ytgbgjljflgbcaaa
