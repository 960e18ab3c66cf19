import Derived.Test.YtliakmgombpjpaaGreatDoorO1
import Derived.Deep.RegionHeld3
namespace Go.Proofs.YtliakmgombpjpaaGreatDoor
open Go.RowKit
set_option linter.unusedSimpArgs false
set_option linter.unusedVariables false

theorem pr_ext {p q : Pr} (h1 : p.cells = q.cells) (h2 : p.bodies = q.bodies) : p = q := by
  obtain ⟨a, b⟩ := p
  obtain ⟨c, d⟩ := q
  simp at h1 h2
  rw [h1, h2]
theorem ac_ext' {x y : Ac} (h1 : x.k = y.k) (h2 : x.ds = y.ds) (h3 : x.ks = y.ks) (h4 : x.r = y.r) : x = y := by
  obtain ⟨a, b, c, d⟩ := x
  obtain ⟨a', b', c', d'⟩ := y
  simp at h1 h2 h3 h4
  rw [h1, h2, h3, h4]

set_option maxRecDepth 20000 in
set_option maxHeartbeats 4000000 in
theorem lqProg_any (p q : Pr) (cv bv cv' bv' : Value) (w : World) (hc : IntsAt w cv p.cells) (hB : BodiesAt w bv p.bodies) (hc' : IntsAt w cv' q.cells) (hB' : BodiesAt w bv' q.bodies) :
    Calls Tryz.prog 10 #[.agg #[cv, bv], .agg #[cv', bv']] w fun r w' => r = .returned (.bool (isT (p = q))) ∧ Below w.heap.size w w' := by
  obtain ⟨ac, cc, rfl, hmc⟩ := hc.shape
  obtain ⟨ab, cb, rfl, hmb⟩ := hB.shape
  obtain ⟨ac', cc', rfl, hmc'⟩ := hc'.shape
  obtain ⟨ab', cb', rfl, hmb'⟩ := hB'.shape
  have HC := (show Hid (IntsAt _ _ _) from hc)
  have HB := (show Hid (BodiesAt _ _ _) from hB)
  have HC' := (show Hid (IntsAt _ _ _) from hc')
  have HB' := (show Hid (BodiesAt _ _ _) from hB')
  clear hc hB hc' hB'
  by_cases hce : p.cells = q.cells
  case neg =>
    have HN : Hid (isT (p = q) = false) := isT_no (fun e => hce (by rw [e]))
    have HD : Hid (decide (p.cells = q.cells) = false) := by simp [Hid, hce]
    clear hce
    go_enter Tryz.func10, Tryz.ntmps10
    go_wp2_with (go_at_call 25; refine (lqInts_any p.cells q.cells _ _ _ (HC.out.mono (((Below.refl _ _).alloc (Nat.le_refl _) _).alloc (by simp; try omega) _)) (HC'.out.mono (((Below.refl _ _).alloc (Nat.le_refl _) _).alloc (by simp; try omega) _))).mono ?_; rintro e w1 ⟨rfl, hb1⟩; rw [HD.out]; have H1 : Hid (Below w.heap.size w w1) := below_after2 (Below.refl _ _) (Nat.le_refl _) hb1; have hz1 : w.heap.size + 1 < w1.heap.size := (by have := hb1.size; simp at this; omega); have e1 : w1.cell? ⟨w.heap.size, 1, none⟩ = some (.slice ab p.bodies.length cb) := (by rw [hb1.cell (p := ⟨w.heap.size, 1, none⟩) (by simp; try omega)]; simp [go_sem]); have f1 : w1.cell? ⟨w.heap.size + 1, 1, none⟩ = some (.slice ab' q.bodies.length cb') := (by rw [hb1.cell (p := ⟨w.heap.size + 1, 1, none⟩) (by simp)]; simp [go_sem]); clear hb1)
    go_ret
    exact ⟨by rw [HN.out]; rfl, H1.out⟩
  have HD : Hid (decide (p.cells = q.cells) = true) := by simp [Hid, hce]
  have HCE := (show Hid (p.cells = q.cells) from hce)
  clear hce
  by_cases hbl : p.bodies.length = q.bodies.length
  case neg =>
    have HN : Hid (isT (p = q) = false) := isT_no (fun e => hbl (by rw [e]))
    have hbl' : ¬ (p.bodies.length : Int) = (q.bodies.length : Int) := by omega
    have hbl2 : ((p.bodies.length : Int) == (q.bodies.length : Int)) = false := by simp; omega
    clear hbl
    go_enter Tryz.func10, Tryz.ntmps10
    go_wp2_with (go_at_call 25; refine (lqInts_any p.cells q.cells _ _ _ (HC.out.mono (((Below.refl _ _).alloc (Nat.le_refl _) _).alloc (by simp; try omega) _)) (HC'.out.mono (((Below.refl _ _).alloc (Nat.le_refl _) _).alloc (by simp; try omega) _))).mono ?_; rintro e w1 ⟨rfl, hb1⟩; rw [HD.out]; have H1 : Hid (Below w.heap.size w w1) := below_after2 (Below.refl _ _) (Nat.le_refl _) hb1; have hz1 : w.heap.size + 1 < w1.heap.size := (by have := hb1.size; simp at this; omega); have e1 : w1.cell? ⟨w.heap.size, 1, none⟩ = some (.slice ab p.bodies.length cb) := (by rw [hb1.cell (p := ⟨w.heap.size, 1, none⟩) (by simp; try omega)]; simp [go_sem]); have f1 : w1.cell? ⟨w.heap.size + 1, 1, none⟩ = some (.slice ab' q.bodies.length cb') := (by rw [hb1.cell (p := ⟨w.heap.size + 1, 1, none⟩) (by simp)]; simp [go_sem]); clear hb1)
    go_ret
    exact ⟨by rw [HN.out]; rfl, H1.out⟩
  have HL := (show Hid (p.bodies.length = q.bodies.length) from hbl)
  rw [← hbl]
  clear hbl hmb'
  go_enter Tryz.func10, Tryz.ntmps10
  go_wp2_with (go_at_call 25; refine (lqInts_any p.cells q.cells _ _ _ (HC.out.mono (((Below.refl _ _).alloc (Nat.le_refl _) _).alloc (by simp; try omega) _)) (HC'.out.mono (((Below.refl _ _).alloc (Nat.le_refl _) _).alloc (by simp; try omega) _))).mono ?_; rintro e w1 ⟨rfl, hb1⟩; rw [HD.out]; have H1 : Hid (Below w.heap.size w w1) := below_after2 (Below.refl _ _) (Nat.le_refl _) hb1; have hz1 : w.heap.size + 1 < w1.heap.size := (by have := hb1.size; simp at this; omega); have e1 : w1.cell? ⟨w.heap.size, 1, none⟩ = some (.slice ab p.bodies.length cb) := (by rw [hb1.cell (p := ⟨w.heap.size, 1, none⟩) (by simp; try omega)]; simp [go_sem]); have f1 : w1.cell? ⟨w.heap.size + 1, 1, none⟩ = some (.slice ab' p.bodies.length cb') := (by rw [hb1.cell (p := ⟨w.heap.size + 1, 1, none⟩) (by simp)]; simp [go_sem]); clear hb1)
  go_loopw [5] (fun t w' => ∃ (i : Nat), i ≤ p.bodies.length ∧ t = .int .i64 i ∧ (∀ j, j < i → nth [] p.bodies j = nth [] q.bodies j) ∧ Below w1.heap.size w1 w') (fun t _ => p.bodies.length - (intOf t).toNat)
  case atStart => exact ⟨0, Nat.zero_le _, rfl, fun j hj => absurd hj (Nat.not_lt_zero _), Below.refl _ _⟩
  case round =>
    obtain ⟨i, hi, rfl, hall, hb⟩ := hrel
    have HA := (show Hid (∀ j, j < i → nth [] p.bodies j = nth [] q.bodies j) from hall)
    have g1 : wr.cell? ⟨w.heap.size, 1, none⟩ = some (.slice ab p.bodies.length cb) := (hb.cell (p := ⟨w.heap.size, 1, none⟩) (by simp; try omega)).trans e1
    have k1 : wr.cell? ⟨w.heap.size + 1, 1, none⟩ = some (.slice ab' p.bodies.length cb') := (hb.cell (p := ⟨w.heap.size + 1, 1, none⟩) hz1).trans f1
    have HW : Hid (Below w.heap.size w wr) := H1.out.trans (hb.mono H1.out.size)
    have hzr : w.heap.size + 1 < wr.heap.size := Nat.lt_of_lt_of_le hz1 hb.size
    clear hall
    by_cases hil : i < p.bodies.length
    case neg =>
      have hil' : ¬ (i : Int) < (p.bodies.length : Int) := by omega
      have HY : Hid (isT (p = q) = true) := isT_yes (pr_ext HCE.out (eq_of_nth [] HL.out (fun j hj => HA.out j (by omega))))
      clear hb
      go_wp2_with fail
      go_ret
      exact ⟨by rw [HY.out]; rfl, HW.out⟩
    have hil' : (i : Int) < (p.bodies.length : Int) := by omega
    obtain ⟨abx, cbx, hbv, hmx, hbs⟩ := id HB.out
    obtain ⟨b, off, av, hab, hbw, c0, ha⟩ := hbs i hil
    injection hbv with e1' _ e3'
    rw [hab] at e1'
    subst e1'
    clear hbs hab e3' hmx
    obtain ⟨aa, ca, rfl, hma, has⟩ := id ha
    obtain ⟨abx', cbx', hbv', hmx', hbs'⟩ := id HB'.out
    obtain ⟨b', off', av', hab', hbw', c0', ha'⟩ := hbs' i (by have := HL.out; omega)
    injection hbv' with e1'' _ e3''
    rw [hab'] at e1''
    subst e1''
    clear hbs' hab' e3'' hmx'
    obtain ⟨aa', ca', rfl, hma', has'⟩ := id ha'
    have c0w := c0
    have c0w' := c0'
    rw [← HW.out.cell (p := ⟨b, _, none⟩) hbw] at c0
    rw [← HW.out.cell (p := ⟨b', _, none⟩) hbw'] at c0'
    have hzb : b < wr.heap.size := Nat.lt_of_lt_of_le hbw HW.out.size
    have hzb' : b' < wr.heap.size := Nat.lt_of_lt_of_le hbw' HW.out.size
    have HAS := (show Hid (∀ j, j < (nth [] p.bodies i).length → _) from has)
    have HAS' := (show Hid (∀ j, j < (nth [] q.bodies i).length → _) from has')
    have HNB : Hid (nth [] p.bodies i ≠ nth [] q.bodies i → isT (p = q) = false) := fun h => isT_no (fun e => h (by rw [e]))
    have HYB : Hid (nth [] p.bodies i = nth [] q.bodies i → ∀ j, j < i + 1 → nth [] p.bodies j = nth [] q.bodies j) := fun h j hj => by
      rcases Nat.lt_succ_iff_lt_or_eq.1 hj with h1 | rfl
      · exact HA.out j h1
      · exact h
    have HBr := (show Hid (Below w1.heap.size w1 wr) from hb)
    clear ha has ha' has' hb HA
    generalize nth [] p.bodies i = acts at *
    generalize nth [] q.bodies i = acts' at *
    by_cases hal : acts.length = acts'.length
    case neg =>
      have HN : Hid (isT (p = q) = false) := HNB.out (fun e => hal (by rw [e]))
      have hal' : ¬ (acts.length : Int) = (acts'.length : Int) := by omega
      have hal2 : ((acts.length : Int) == (acts'.length : Int)) = false := by simp; omega
      clear hal
      go_wp2_with fail
      go_quiet (fail)
      go_wp2_with fail
      go_ret
      exact ⟨by rw [HN.out]; rfl, below_drewN HW.out _⟩
    have HAL := (show Hid (acts.length = acts'.length) from hal)
    rw [← hal] at c0' hma' c0w'
    clear hal
    go_wp2_with fail
    go_quiet (fail)
    go_wp2_with fail
    clear g1 k1 c0 c0' hzr hzb hzb' HW
    go_loopw [6] (fun t w' => ∃ (k : Nat), k ≤ acts.length ∧ t = .int .i64 k ∧ (∀ j, j < k → nth Ac.z acts j = nth Ac.z acts' j) ∧ Below w1.heap.size w1 w') (fun t _ => acts.length - (intOf t).toNat)
    case atStart => exact ⟨0, Nat.zero_le _, rfl, fun j hj => absurd hj (Nat.not_lt_zero _), below_drewN HBr.out _⟩
    case round =>
      obtain ⟨k, hk, rfl, hall, hb⟩ := hrel
      have HA := (show Hid (∀ j, j < k → nth Ac.z acts j = nth Ac.z acts' j) from hall)
      have HW2 : Hid (Below w.heap.size w wr) := H1.out.trans (hb.mono H1.out.size)
      have g1 : wr.cell? ⟨w.heap.size, 1, none⟩ = some (.slice (some ⟨b, off, none⟩) p.bodies.length cb) := (hb.cell (p := ⟨w.heap.size, 1, none⟩) (by simp; try omega)).trans e1
      have k1 : wr.cell? ⟨w.heap.size + 1, 1, none⟩ = some (.slice (some ⟨b', off', none⟩) p.bodies.length cb') := (hb.cell (p := ⟨w.heap.size + 1, 1, none⟩) hz1).trans f1
      have q0 : wr.cell? ⟨b, off + i, none⟩ = some (.slice aa acts.length ca) := (HW2.out.cell (p := ⟨b, _, none⟩) hbw).trans c0w
      have q0' : wr.cell? ⟨b', off' + i, none⟩ = some (.slice aa' acts.length ca') := (HW2.out.cell (p := ⟨b', _, none⟩) hbw').trans c0w'
      have hzr : w.heap.size + 1 < wr.heap.size := Nat.lt_of_lt_of_le hz1 hb.size
      have hzb : b < wr.heap.size := Nat.lt_of_lt_of_le hbw HW2.out.size
      have hzb' : b' < wr.heap.size := Nat.lt_of_lt_of_le hbw' HW2.out.size
      have HBq := (show Hid (Below w1.heap.size w1 wr) from hb)
      clear hall hb
      by_cases hkl : k < acts.length
      case neg =>
        have hkl' : ¬ (k : Int) < (acts.length : Int) := by omega
        have HY := (show Hid (∀ j, j < i + 1 → nth [] p.bodies j = nth [] q.bodies j) from HYB.out (eq_of_nth Ac.z HAL.out (fun j hj => HA.out j (by omega))))
        go_wp2_with fail
        go_roundw
        case rel => exact ⟨i + 1, by omega, by go_num, HY.out, HBq.out⟩
        case measure => simp [intOf]; omega
      have hkl' : (k : Int) < (acts.length : Int) := by omega
      obtain ⟨b2, off2, dv, kv, rfl, hb2, d0, d1, d2, d3, hd, hkk⟩ := HAS.out k hkl
      obtain ⟨b3, off3, dv', kv', rfl, hb3, d0', d1', d2', d3', hd', hkk'⟩ := HAS'.out k (by have := HAL.out; omega)
      rw [← HW2.out.cell (p := ⟨b2, _, none⟩) hb2] at d0 d1 d2 d3
      rw [← HW2.out.cell (p := ⟨b3, _, none⟩) hb3] at d0' d1' d2' d3'
      obtain ⟨ad, cd, rfl, hmd⟩ := hd.shape
      obtain ⟨ak, ck, rfl, hmk⟩ := hkk.shape
      obtain ⟨ad', cd', rfl, hmd'⟩ := hd'.shape
      obtain ⟨ak', ck', rfl, hmk'⟩ := hkk'.shape
      have HDD := (show Hid (DeedsAt w _ _) from hd)
      have HDD' := (show Hid (DeedsAt w _ _) from hd')
      have HKK := (show Hid (IntsAt w _ _) from hkk)
      have HKK' := (show Hid (IntsAt w _ _) from hkk')
      have hz2 : b2 < wr.heap.size := Nat.lt_of_lt_of_le hb2 HW2.out.size
      have hz3 : b3 < wr.heap.size := Nat.lt_of_lt_of_le hb3 HW2.out.size
      have HNx : Hid (nth Ac.z acts k ≠ nth Ac.z acts' k → isT (p = q) = false) := fun h => HNB.out (ne_of_nth Ac.z h)
      have HYx : Hid (nth Ac.z acts k = nth Ac.z acts' k → ∀ j, j < k + 1 → nth Ac.z acts j = nth Ac.z acts' j) := fun h j hj => by
        rcases Nat.lt_succ_iff_lt_or_eq.1 hj with h1 | rfl
        · exact HA.out j h1
        · exact h
      clear hd hd' hkk hkk' HA
      generalize nth Ac.z acts k = x at *
      generalize nth Ac.z acts' k = y at *
      by_cases hx1 : x.k = y.k
      case neg =>
        have HN : Hid (isT (p = q) = false) := HNx.out (fun e => hx1 (by rw [e]))
        have hx1' : (x.k == y.k) = false := by simp [hx1]
        go_wp2_with fail
        go_ret
        exact ⟨by rw [HN.out]; rfl, (HW2.out.alloc HW2.out.size _).alloc (by have := HW2.out.size; simp; omega) _⟩
      have HX1 := (show Hid (x.k = y.k) from hx1)
      rw [← hx1] at d0'
      clear hx1
      by_cases hx2 : x.r = y.r
      case neg =>
        have HN : Hid (isT (p = q) = false) := HNx.out (fun e => hx2 (by rw [e]))
        have hx2' : (x.r == y.r) = false := by simp [hx2]
        go_wp2_with fail
        go_ret
        exact ⟨by rw [HN.out]; rfl, (HW2.out.alloc HW2.out.size _).alloc (by have := HW2.out.size; simp; omega) _⟩
      have HX2 := (show Hid (x.r = y.r) from hx2)
      rw [← hx2] at d3'
      clear hx2
      have HWA : Hid (Below w.heap.size w ((wr.alloc (.cells #[.int .i64 x.k, .slice ad x.ds.length cd, .slice ak x.ks.length ck, .int .i64 x.r] 44)).alloc (.cells #[.int .i64 x.k, .slice ad' y.ds.length cd', .slice ak' y.ks.length ck', .int .i64 x.r] 44))) := (HW2.out.alloc HW2.out.size _).alloc (by have := HW2.out.size; simp; omega) _
      by_cases hx3 : x.ks = y.ks
      case neg =>
        have HN : Hid (isT (p = q) = false) := HNx.out (fun e => hx3 (by rw [e]))
        have HDK : Hid (decide (x.ks = y.ks) = false) := by simp [Hid, hx3]
        clear hx3
        go_wp2_with (go_at_call 25; refine (lqInts_any x.ks y.ks _ _ _ (HKK.out.mono HWA.out) (HKK'.out.mono HWA.out)).mono ?_; rintro e w3 ⟨rfl, hb3⟩; rw [HDK.out]; have H3 : Hid (Below w.heap.size w w3) := HWA.out.trans (hb3.mono HWA.out.size); have hz3 : wr.heap.size + 1 < w3.heap.size := (by have := hb3.size; simp at this; omega); have m1 : w3.cell? ⟨wr.heap.size, 1, none⟩ = some (.slice ad x.ds.length cd) := (by rw [hb3.cell (p := ⟨wr.heap.size, 1, none⟩) (by simp; try omega)]; simp [go_sem]); have m2 : w3.cell? ⟨wr.heap.size + 1, 1, none⟩ = some (.slice ad' y.ds.length cd') := (by rw [hb3.cell (p := ⟨wr.heap.size + 1, 1, none⟩) (by simp; try omega)]; simp [go_sem]); clear hb3)
        go_ret
        exact ⟨by rw [HN.out]; rfl, H3.out⟩
      have HX3 := (show Hid (x.ks = y.ks) from hx3)
      have HDK : Hid (decide (x.ks = y.ks) = true) := by simp [Hid, hx3]
      clear hx3
      by_cases hx4 : x.ds = y.ds
      case neg =>
        have HN : Hid (isT (p = q) = false) := HNx.out (fun e => hx4 (by rw [e]))
        have HDS : Hid (isT (x.ds = y.ds) = false) := isT_no hx4
        clear hx4
        go_wp2_with (first | (go_at_call 25; refine (lqInts_any x.ks y.ks _ _ _ (HKK.out.mono HWA.out) (HKK'.out.mono HWA.out)).mono ?_; rintro e w3 ⟨rfl, hb3⟩; rw [HDK.out]; have H3 : Hid (Below w.heap.size w w3) := HWA.out.trans (hb3.mono HWA.out.size); have hz3 : wr.heap.size + 1 < w3.heap.size := (by have := hb3.size; simp at this; omega); have m1 : w3.cell? ⟨wr.heap.size, 1, none⟩ = some (.slice ad x.ds.length cd) := (by rw [hb3.cell (p := ⟨wr.heap.size, 1, none⟩) (by simp; try omega)]; simp [go_sem]); have m2 : w3.cell? ⟨wr.heap.size + 1, 1, none⟩ = some (.slice ad' y.ds.length cd') := (by rw [hb3.cell (p := ⟨wr.heap.size + 1, 1, none⟩) (by simp; try omega)]; simp [go_sem]); clear hb3) | (go_at_call 26; refine (lqDeeds_any x.ds y.ds _ _ _ (HDD.out.mono H3.out) (HDD'.out.mono H3.out)).mono ?_; rintro e w4 ⟨rfl, hb4⟩; rw [HDS.out]; have H4 : Hid (Below w.heap.size w w4) := H3.out.trans (hb4.mono H3.out.size); clear hb4))
        go_ret
        exact ⟨by rw [HN.out]; rfl, H4.out⟩
      have HDS : Hid (isT (x.ds = y.ds) = true) := isT_yes hx4
      have HY := (show Hid (∀ j, j < k + 1 → nth Ac.z acts j = nth Ac.z acts' j) from HYx.out (ac_ext' HX1.out hx4 HX3.out HX2.out))
      clear hx4
      have HWB : Hid (Below w1.heap.size w1 ((wr.alloc (.cells #[.int .i64 x.k, .slice ad x.ds.length cd, .slice ak x.ks.length ck, .int .i64 x.r] 44)).alloc (.cells #[.int .i64 x.k, .slice ad' y.ds.length cd', .slice ak' y.ks.length ck', .int .i64 x.r] 44))) := (HBq.out.alloc HBq.out.size _).alloc (by have := HBq.out.size; simp; omega) _
      go_wp2_with (first | (go_at_call 25; refine (lqInts_any x.ks y.ks _ _ _ (HKK.out.mono HWA.out) (HKK'.out.mono HWA.out)).mono ?_; rintro e w3 ⟨rfl, hb3⟩; rw [HDK.out]; have H3 : Hid (Below w.heap.size w w3) := HWA.out.trans (hb3.mono HWA.out.size); have hz3 : wr.heap.size + 1 < w3.heap.size := (by have := hb3.size; simp at this; omega); have m1 : w3.cell? ⟨wr.heap.size, 1, none⟩ = some (.slice ad x.ds.length cd) := (by rw [hb3.cell (p := ⟨wr.heap.size, 1, none⟩) (by simp; try omega)]; simp [go_sem]); have m2 : w3.cell? ⟨wr.heap.size + 1, 1, none⟩ = some (.slice ad' y.ds.length cd') := (by rw [hb3.cell (p := ⟨wr.heap.size + 1, 1, none⟩) (by simp; try omega)]; simp [go_sem]); have H3b : Hid (Below w1.heap.size w1 w3) := HWB.out.trans (hb3.mono HWB.out.size); clear hb3) | (go_at_call 26; refine (lqDeeds_any x.ds y.ds _ _ _ (HDD.out.mono H3.out) (HDD'.out.mono H3.out)).mono ?_; rintro e w4 ⟨rfl, hb4⟩; rw [HDS.out]; have H4 : Hid (Below w.heap.size w w4) := H3.out.trans (hb4.mono H3.out.size); have H4b : Hid (Below w1.heap.size w1 w4) := H3b.out.trans (hb4.mono H3b.out.size); clear hb4))
      go_roundw
      case rel => exact ⟨k + 1, by omega, by go_num, HY.out, H4b.out⟩
      case measure => simp [intOf]; omega

end Go.Proofs.YtliakmgombpjpaaGreatDoor
