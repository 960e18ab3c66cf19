import Derived.Test.YtgbgjljflgbcaaaXn11
namespace Go.Proofs.Ytgbgjljflgbcaaa
open Go.RowKit
theorem and_false_of {p q : Prop} [Decidable p] [Decidable q] (h : ¬ (p ∧ q)) : (decide p && decide q) = false := by
  rw [Bool.eq_false_iff]; intro e
  rw [Bool.and_eq_true, decide_eq_true_eq, decide_eq_true_eq] at e
  exact h e
theorem acB_rest {x : Ac} {nc body nb : Int} (h1 : ¬ (x.k = 1 ∧ x.ks.length = 0 ∧ x.r = 0)) (h2 : ¬ (x.k = 2 ∧ x.ds.length = 0 ∧ x.r = 0)) : acB x nc body nb = restB x.k x.r x.ds.length x.ks.length := by
  by_cases k1 : x.k = 1
  · have e := and_false_of (fun h => h1 ⟨k1, h⟩)
    unfold acB restB
    rw [if_pos k1, e, if_neg (by omega), if_neg (by omega)]; rfl
  by_cases k2 : x.k = 2
  · have e := and_false_of (fun h => h2 ⟨k2, h⟩)
    unfold acB restB
    rw [if_neg k1, if_pos k2, e, if_neg (by omega), if_neg (by omega)]; rfl
  unfold acB restB
  rw [if_neg k1, if_neg k2]
set_option maxHeartbeats 1000000 in
theorem l1Act_any (x : Ac) (dv kv cv bv : Value) (cs : List Int) (bs : List (List Ac)) (body : Int) (w : World) (hd : DeedsAt w dv x.ds) (hk : IntsAt w kv x.ks) (hc : IntsAt w cv cs) (hB : BodiesAt w bv bs) (hb0 : 0 ≤ body) (hb1 : body ≤ 4611686018427387904) :
    Calls Try.prog 119 #[.agg #[cv, bv], .int .i64 body, .agg #[.int .i64 x.k, dv, kv, .int .i64 x.r]] w fun r w' => r = .returned (.bool (acB x cs.length body bs.length)) ∧ Below w.heap.size w w' := by
  by_cases h1 : x.k = 1 ∧ x.ks.length = 0 ∧ x.r = 0
  · have HF : acB x cs.length body bs.length = dsB x.ds cs.length := by simp [acB, h1]
    rw [HF]
    exact l1Act_1 x dv kv cv bv cs bs body w hd hk hc hB h1.1 h1.2.1 h1.2.2
  obtain ⟨ac, cc, rfl, hmc⟩ := hc.shape
  obtain ⟨ab, cb, rfl, hmb⟩ := hB.shape
  obtain ⟨ad, cd, rfl, hmd⟩ := hd.shape
  obtain ⟨ak, ck, rfl, hmk⟩ := hk.shape
  by_cases h2 : x.k = 2 ∧ x.ds.length = 0 ∧ x.r = 0
  · have HF : Hid (acB x cs.length body bs.length = ksB x.ks body bs.length) := by simp [Hid, acB, h2]
    rw [HF.out]
    rw [h2.1, h2.2.1, h2.2.2]
    clear HF h1 h2 hd hc hB
    generalize x.ks = ks at *
    have HK : Hid (∀ o o2, IntsAt ((w.alloc o).alloc o2) (.slice ak ks.length ck) ks) := fun o o2 => hk.mono (((Below.refl _ _).alloc (Nat.le_refl _) _).alloc (by simp) _)
    clear hk
    go_enter Try.func119, Try.ntmps119
    go_wp2_with fail
    refine (l1Kids_any _ ks _ _ _ (HK.out _ _) (by omega) (by omega) (by omega) (by omega)).mono ?_
    rintro e w1 ⟨rfl, rfl⟩
    go_wp2_with fail
    go_ret
    exact ⟨rfl, (by repeat (first | exact Below.refl _ _ | refine Below.alloc ?_ (by simp; try omega) _ | refine Below.drew ?_ | refine Below.setCell ?_ (by simp; try omega) _))⟩
  · have HF := acB_rest (nc := cs.length) (body := body) (nb := bs.length) h1 h2
    rw [HF]
    exact l1Act_rest _ _ _ _ _ _ _ _ _ _ _ _ _ _ _ _ h1 h2
set_option maxHeartbeats 1000000 in
theorem l1Form_any (p : Pr) (cv bv : Value) (w : World) (hc : IntsAt w cv p.cells) (hB : BodiesAt w bv p.bodies) :
    Calls Try.prog 81 #[.agg #[cv, bv]] w fun r w' => r = .returned (.bool (foB p)) ∧ Below w.heap.size w w' := by
  obtain ⟨ac, cc, hcv, hmc, hcs⟩ := id hc
  obtain ⟨ab, cb, hbv, hmb, hbs⟩ := id hB
  subst hcv hbv
  by_cases h1 : 3 < p.cells.length
  · have HF : Hid (foB p = false) := by simp [Hid, foB, csB]; omega
    have g1 : decide ((3 : Int) < (p.cells.length : Int)) = true := by simp; omega
    clear hcs hbs h1
    go_enter Try.func81, Try.ntmps81
    go_wp2_with fail
    go_ret
    exact ⟨by rw [HF.out]; rfl, (by repeat (first | exact Below.refl _ _ | refine Below.alloc ?_ (by simp; try omega) _ | refine Below.drew ?_ | refine Below.setCell ?_ (by simp; try omega) _))⟩
  have g1 : decide ((3 : Int) < (p.cells.length : Int)) = false := by simp; omega
  cases h2 : inB p.bodies.length 1 4
  · have HF : Hid (foB p = false) := by simp [Hid, foB, h2]
    have H2 := (show Hid _ from h2)
    clear hcs hbs h1 h2
    go_enter Try.func81, Try.ntmps81
    go_wp2_with fail
    refine (l6In_any _ _ _ _).mono ?_
    rintro e w1 ⟨rfl, rfl⟩
    rw [H2.out]
    go_wp2_with fail
    go_ret
    exact ⟨by rw [HF.out]; rfl, (by repeat (first | exact Below.refl _ _ | refine Below.alloc ?_ (by simp; try omega) _ | refine Below.drew ?_ | refine Below.setCell ?_ (by simp; try omega) _))⟩
  have H2 := (show Hid _ from h2)
  have hlb : 1 ≤ p.bodies.length ∧ p.bodies.length ≤ 4 := by simp [inB] at h2; omega
  clear h2
  go_enter Try.func81, Try.ntmps81
  go_wp2_with fail
  refine (l6In_any _ _ _ _).mono ?_
  rintro e w1 ⟨rfl, rfl⟩
  rw [H2.out]
  go_wp2_with fail
  go_loop [3] (fun i => ∃ k : Nat, k ≤ p.cells.length ∧ i = .int .i64 k ∧ (∀ j, j < k → plB (nth 0 p.cells j) 100 = true)) (fun i => p.cells.length - (intOf i).toNat)
  case atStart => exact ⟨0, Nat.zero_le _, rfl, fun j hj => absurd hj (Nat.not_lt_zero _)⟩
  case round =>
    obtain ⟨k, hk, rfl, hall⟩ := hrel
    by_cases hlt : k < p.cells.length
    · obtain ⟨b, off, rfl, hbw, c0⟩ := hcs k hlt
      cases hd : inB (nth 0 p.cells k) 0 99
      · have HF : Hid (foB p = false) := by
          rw [in_pl100] at hd
          simp [Hid, foB, csB, not_all_nth 0 (plB · 100) p.cells k hlt hd]
        clear hcs hall hbs
        go_wp2_with (go_at_call 52; refine (l6In_any _ _ _ _).mono ?_; rintro e w' ⟨rfl, rfl⟩)
        go_ret
        exact ⟨by rw [HF.out]; rfl, (by repeat (first | exact Below.refl _ _ | refine Below.alloc ?_ (by simp; try omega) _ | refine Below.drew ?_ | refine Below.setCell ?_ (by simp; try omega) _))⟩
      · have HA : Hid (∀ j, j < k + 1 → plB (nth 0 p.cells j) 100 = true) := so_far hall (by rw [← in_pl100]; exact hd)
        clear hcs hall hbs
        go_wp2_with (go_at_call 52; refine (l6In_any _ _ _ _).mono ?_; rintro e w' ⟨rfl, rfl⟩)
        go_round
        case rel => exact ⟨k + 1, by omega, by go_num, HA.out⟩
        case measure => simp [intOf]; omega
    · have HC : Hid (csB p.cells = true) := by
        have := all_nth 0 (plB · 100) p.cells (fun j hj => hall j (by omega))
        simp [Hid, csB, this]; omega
      clear hall hcs
      go_wp2_with fail
      go_loopw [4] (fun q w' => ∃ k : Nat, k ≤ p.bodies.length ∧ q = .int .i64 k ∧ Below (w.alloc (.cells #[.slice ac p.cells.length cc, .slice ab p.bodies.length cb] 26)).heap.size (w.alloc (.cells #[.slice ac p.cells.length cc, .slice ab p.bodies.length cb] 26)) w' ∧ (∀ j, j < k → boB p j = true)) (fun q _ => p.bodies.length - (intOf q).toNat)
      case atStart => exact ⟨0, Nat.zero_le _, rfl, Below.refl _ _, fun j hj => absurd hj (Nat.not_lt_zero _)⟩
      case round =>
        obtain ⟨k, hk, rfl, hb, hall⟩ := hrel
        by_cases hlt : k < p.bodies.length
        · obtain ⟨b, off, av, rfl, hbw, c0, ha⟩ := hbs k hlt
          clear hbs
          obtain ⟨aa, ca, rfl, hma, has⟩ := id ha
          have hbw' : Below w.heap.size w _ := below_after (Below.refl _ _) (Nat.le_refl _) hb
          have e0 : wr.cell? ⟨w.heap.size, 0, none⟩ = some (.slice ac p.cells.length cc) := by rw [hb.cell (p := ⟨w.heap.size, 0, none⟩) (by simp)]; simp [go_sem]
          have e1 : wr.cell? ⟨w.heap.size, 1, none⟩ = some (.slice (some ⟨b, off, none⟩) p.bodies.length cb) := by rw [hb.cell (p := ⟨w.heap.size, 1, none⟩) (by simp)]; simp [go_sem]
          have hz : w.heap.size < wr.heap.size := by have := hb.size; simp at this; omega
          have c0w := c0
          rw [← hbw'.cell (p := ⟨b, _, none⟩) hbw] at c0
          have HX : Hid (boB p k = (decide ((nth [] p.bodies k).length ≤ 4) && (nth [] p.bodies k).all (acB · p.cells.length k p.bodies.length))) := rfl
          generalize nth [] p.bodies k = acts at *
          by_cases h5 : acts.length ≤ 4
          case neg =>
            have h5' : (4 : Int) < (acts.length : Int) := by omega
            have HF : Hid (foB p = false) := by
              have hd : boB p k = false := by rw [HX.out]; simp [h5]
              have : (List.range p.bodies.length).all (boB p) = false := by
                rw [List.all_eq_false]; exact ⟨k, by simpa using hlt, by simp [hd]⟩
              simp [Hid, foB, this]
            clear has c0w h5 hall hb
            go_wp2_with fail
            go_ret
            exact ⟨by rw [HF.out]; rfl, hbw'⟩
          have h5' : ¬ (4 : Int) < (acts.length : Int) := by omega
          go_wp2_with fail
          go_loopw [5] (fun q w' => ∃ k2 : Nat, k2 ≤ acts.length ∧ q = .int .i64 k2 ∧ Below (w.alloc (.cells #[.slice ac p.cells.length cc, .slice (some ⟨b, off, none⟩) p.bodies.length cb] 26)).heap.size (w.alloc (.cells #[.slice ac p.cells.length cc, .slice (some ⟨b, off, none⟩) p.bodies.length cb] 26)) w' ∧ (∀ j, j < k2 → acB (nth Ac.z acts j) p.cells.length k p.bodies.length = true)) (fun q _ => acts.length - (intOf q).toNat)
          case atStart => exact ⟨0, Nat.zero_le _, rfl, hb, fun j hj => absurd hj (Nat.not_lt_zero _)⟩
          clear hb hbw' e0 e1 hz c0
          case round =>
            obtain ⟨k2, hk2, rfl, hb, hall2⟩ := hrel
            have hbw' : Below w.heap.size w _ := below_after (Below.refl _ _) (Nat.le_refl _) hb
            have e0 : wr.cell? ⟨w.heap.size, 0, none⟩ = some (.slice ac p.cells.length cc) := by rw [hb.cell (p := ⟨w.heap.size, 0, none⟩) (by simp)]; simp [go_sem]
            have e1 : wr.cell? ⟨w.heap.size, 1, none⟩ = some (.slice (some ⟨b, off, none⟩) p.bodies.length cb) := by rw [hb.cell (p := ⟨w.heap.size, 1, none⟩) (by simp)]; simp [go_sem]
            have hz : w.heap.size < wr.heap.size := by have := hb.size; simp at this; omega
            rw [← hbw'.cell (p := ⟨b, _, none⟩) hbw] at c0w
            by_cases hlt2 : k2 < acts.length
            · obtain ⟨b2, off2, dv, kv, rfl, hb2, d0, d1, d2, d3, hd, hk'⟩ := has k2 hlt2
              clear has
              rw [← hbw'.cell (p := ⟨b2, _, none⟩) hb2] at d0 d1 d2 d3
              obtain ⟨ad, cd, rfl, hmd⟩ := hd.shape
              obtain ⟨ak, ck, rfl, hmk⟩ := hk'.shape
              have HP : Hid (Below w.heap.size w wr.drew) := hbw'.drew
              have HD := (show Hid _ from hd)
              have HKK := (show Hid _ from hk')
              have HCC := (show Hid _ from hc)
              have HBB := (show Hid _ from hB)
              clear hd hk' hc hB ha
              cases hac : acB (nth Ac.z acts k2) p.cells.length k p.bodies.length
              · have HF : Hid (foB p = false) := by
                  have hd : boB p k = false := by rw [HX.out, not_all_nth Ac.z (acB · p.cells.length k p.bodies.length) acts k2 hlt2 hac]; simp
                  have : (List.range p.bodies.length).all (boB p) = false := by
                    rw [List.all_eq_false]; exact ⟨k, by simpa using hlt, by simp [hd]⟩
                  simp [Hid, foB, this]
                have HE := (show Hid _ from hac)
                clear hac hall hall2
                go_wp2_with fail
                go_region_with (go_at_call 119; refine (l1Act_any (nth Ac.z acts k2) _ _ _ _ p.cells p.bodies _ _ (DeedsAt.mono HD.out HP.out) (IntsAt.mono HKK.out HP.out) (IntsAt.mono HCC.out HP.out) (BodiesAt.mono HBB.out HP.out) (by omega) (by omega)).mono ?_; rintro e w1 ⟨rfl, hb1⟩)
                all_goals
                  have HB : Hid (Below w.heap.size w w1) := below_drewed hbw' hbw'.size hb1
                  rw [HE.out]
                  clear hb1 hb hbw' e0 e1 d0 d1 d2 d3 HP HD HKK HCC HBB
                  go_wp2_with fail
                  go_ret
                  exact ⟨by rw [HF.out]; rfl, HB.out⟩
              · have HA : Hid (∀ j, j < k2 + 1 → acB (nth Ac.z acts j) p.cells.length k p.bodies.length = true) := so_far hall2 hac
                have HE := (show Hid _ from hac)
                clear hac hall hall2
                go_wp2_with fail
                go_region_with (go_at_call 119; refine (l1Act_any (nth Ac.z acts k2) _ _ _ _ p.cells p.bodies _ _ (DeedsAt.mono HD.out HP.out) (IntsAt.mono HKK.out HP.out) (IntsAt.mono HCC.out HP.out) (BodiesAt.mono HBB.out HP.out) (by omega) (by omega)).mono ?_; rintro e w1 ⟨rfl, hb1⟩)
                all_goals
                  have HB : Hid (Below (w.alloc (.cells #[.slice ac p.cells.length cc, .slice (some ⟨b, off, none⟩) p.bodies.length cb] 26)).heap.size (w.alloc (.cells #[.slice ac p.cells.length cc, .slice (some ⟨b, off, none⟩) p.bodies.length cb] 26)) w1) := below_drewed hb hb.size hb1
                  rw [HE.out]
                  clear hb1 hb hbw' e0 e1 d0 d1 d2 d3 HP HD HKK HCC HBB
                  go_wp2_with fail
                  go_roundw
                  case rel => exact ⟨k2 + 1, by omega, by go_num, HB.out, HA.out⟩
                  case measure => simp [intOf]; omega
            · have HA : Hid (∀ j, j < k + 1 → boB p j = true) := so_far hall (by
                have := all_nth Ac.z (acB · p.cells.length k p.bodies.length) acts (fun j hj => hall2 j (by omega))
                rw [HX.out, this]; simp [h5])
              clear hall hall2 has
              go_wp2_with fail
              go_roundw
              case rel => exact ⟨k + 1, by omega, by go_num, hb, HA.out⟩
              case measure => simp [intOf]; omega
        · have HF : Hid (foB p = true) := by
            have : (List.range p.bodies.length).all (boB p) = true := by
              rw [List.all_eq_true]; intro j hj; exact hall j (by have := List.mem_range.1 hj; omega)
            simp [Hid, foB, inB, this, HC.out]; omega
          have hbw' : Below w.heap.size w _ := below_after (Below.refl _ _) (Nat.le_refl _) hb
          have e1 : wr.cell? ⟨w.heap.size, 1, none⟩ = some (.slice ab p.bodies.length cb) := by rw [hb.cell (p := ⟨w.heap.size, 1, none⟩) (by simp)]; simp [go_sem]
          clear hall hbs hb
          go_wp2_with fail
          go_ret
          exact ⟨by rw [HF.out]; rfl, hbw'⟩
end Go.Proofs.Ytgbgjljflgbcaaa
