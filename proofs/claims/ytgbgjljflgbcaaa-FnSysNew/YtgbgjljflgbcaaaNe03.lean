import Derived.Test.YtgbgjljflgbcaaaNe02
import Derived.Deep.RegionWith
namespace Go.Proofs.Ytgbgjljflgbcaaa
open Go.RowKit
set_option maxHeartbeats 1000000 in
theorem bodyTree_fuel (p : Pr) (cv bv : Value) (f : Nat) (hform : Form p) (hf4 : f ≤ 4) : ∀ (i : Nat) (w : World) (_ : IntsAt w cv p.cells) (_ : BodiesAt w bv p.bodies) (_ : i < p.bodies.length) (_ : p.bodies.length ≤ f + i),
    Calls Try.prog 85 #[.agg #[cv, bv], .int .i64 i] w fun r w' => r = .returned (.int .i64 (tr p f i : Nat)) ∧ Below w.heap.size w w' := by
  induction f with
  | zero => intro i w _ _ h1 h2; omega
  | succ f ih =>
  intro i w hc hB hi hfi
  have IH := (show Hid _ from ih (by omega))
  clear ih
  obtain ⟨hl4, hacts⟩ := boB_acts (hform.2 i hi)
  have hbd := tr_le hform f
  have hp4 : 9 ^ f ≤ 6561 := pow_le4 (by omega)
  have HT : Hid (tr p (f + 1) i = 1 + trAs (tr p f) (nth [] p.bodies i)) := rfl
  obtain ⟨ac, cc, hcv, hmc⟩ := hc.shape
  obtain ⟨ab, cb, hbv, hmb, hbs⟩ := id hB
  obtain ⟨b, off, av, rfl, hbw, c0, ha⟩ := hbs i hi
  clear hbs
  obtain ⟨aa, ca, rfl, hma, has⟩ := id ha
  subst hcv hbv
  generalize nth [] p.bodies i = acts at *
  have HKS : Hid (∀ a, a ∈ acts → a.ks.length ≤ 2 ∧ ∀ k, k ∈ a.ks → (i : Int) < k ∧ k < p.bodies.length) := fun a ha => acB_ks (hacts a ha)
  have HAC : Hid (∀ a, a ∈ acts → acB a p.cells.length i p.bodies.length = true) := hacts
  have HBD : Hid (∀ n, tr p f n ≤ 6561) := fun n => Nat.le_trans (hbd n) hp4
  clear hacts hbd hp4
  go_enter Try.func85, Try.ntmps85
  go_wp2_with fail
  go_loopw [5, 16] (fun t q w' => ∃ k : Nat, k ≤ acts.length ∧ q = .int .i64 k ∧ t = .int .i64 ((1 + trAs (tr p f) (acts.take k) : Nat) : Int) ∧ Below (w.alloc (.cells #[.slice ac p.cells.length cc, .slice (some ⟨b, off, none⟩) p.bodies.length cb] 26)).heap.size (w.alloc (.cells #[.slice ac p.cells.length cc, .slice (some ⟨b, off, none⟩) p.bodies.length cb] 26)) w') (fun _ q _ => acts.length - (intOf q).toNat)
  case atStart => exact ⟨0, Nat.zero_le _, rfl, rfl, Below.refl _ _⟩
  case round =>
    obtain ⟨k, hk, rfl, rfl, hb⟩ := hrel
    have hbw' : Below w.heap.size w _ := below_after (Below.refl _ _) (Nat.le_refl _) hb
    by_cases hlt : k < acts.length
    · obtain ⟨b2, off2, dv, kv, rfl, hb2, d0, d1, d2, d3, hd, hk'⟩ := has k hlt
      rw [← hbw'.cell (p := ⟨b2, _, none⟩) hb2] at d0 d1 d2 d3
      obtain ⟨ad, cd, rfl, hmd⟩ := hd.shape
      obtain ⟨ak, ck, rfl, hmk⟩ := hk'.shape
      have hz : w.heap.size < wr.heap.size := by have := hb.size; simp at this; omega
      have hz2 : b2 < wr.heap.size := by omega
      have HP : Hid (∀ o, Below w.heap.size w (wr.alloc o)) := fun o => hbw'.alloc (by omega) o
      go_wp2_with fail
      refine (actKids_any (nth Ac.z acts k) _ _ p.cells.length i p.bodies.length _ (hd.mono (HP.out _)) (hk'.mono (HP.out _)) (HAC.out _ (nth_mem Ac.z acts k hlt))).mono ?_
      rintro e w1 ⟨v, rfl, hks, hb1⟩
      have hB1 : Below (w.alloc (.cells #[.slice ac p.cells.length cc, .slice (some ⟨b, off, none⟩) p.bodies.length cb] 26)).heap.size (w.alloc (.cells #[.slice ac p.cells.length cc, .slice (some ⟨b, off, none⟩) p.bodies.length cb] 26)) w1 := below_after hb hb.size hb1
      clear hb1 d0 d1 d2 d3 HP hd hk' hbw' hb hz hz2
      obtain ⟨a3, c3, hv, hm3, hks3⟩ := id hks
      subst hv
      have hsn := take_nth Ac.z acts k hlt
      have HS : Hid (trAs (tr p f) (acts.take (k + 1)) = trAs (tr p f) (acts.take k) + trKs (tr p f) (nth Ac.z acts k).ks) := by rw [hsn, trAs_snoc]; rfl
      have HKX : Hid ((nth Ac.z acts k).ks.length ≤ 2 ∧ ∀ x, x ∈ (nth Ac.z acts k).ks → (i : Int) < x ∧ x < p.bodies.length) := HKS.out _ (nth_mem Ac.z acts k hlt)
      have hAk : trAs (tr p f) (acts.take k) ≤ 4 * (2 * 6561) := by
        have := trAs_le HBD.out (acts.take k) (fun a ha => (HKS.out a (List.mem_of_mem_take ha)).1)
        have h3 : (acts.take k).length ≤ 4 := by simp; omega
        exact Nat.le_trans this (Nat.mul_le_mul_right _ h3)
      clear hsn
      generalize (nth Ac.z acts k).ks = ks at *
      generalize trAs (tr p f) (acts.take k) = tk at *
      go_wp2_with fail
      go_loopw [5, 23] (fun t q w' => ∃ j : Nat, j ≤ ks.length ∧ q = .int .i64 j ∧ t = .int .i64 ((1 + tk + trKs (tr p f) (ks.take j) : Nat) : Int) ∧ Below w1.heap.size w1 w') (fun _ q _ => ks.length - (intOf q).toNat)
      case atStart => exact ⟨0, Nat.zero_le _, rfl, rfl, Below.refl _ _⟩
      case round =>
        obtain ⟨j, hj, rfl, rfl, hb⟩ := hrel
        by_cases hjl : j < ks.length
        · obtain ⟨b4, off4, rfl, hb4, x0⟩ := hks3 j hjl
          rw [← hb.cell (p := ⟨b4, _, none⟩) hb4] at x0
          have hkk := HKX.out.2 _ (nth_mem 0 ks j hjl)
          obtain ⟨m, hmm⟩ : ∃ m : Nat, nth 0 ks j = (m : Int) := ⟨(nth 0 ks j).toNat, by omega⟩
          have hsn := take_nth 0 ks j hjl
          have HS2 : Hid (trKs (tr p f) (ks.take (j + 1)) = trKs (tr p f) (ks.take j) + tr p f m) := by
            have : (nth 0 ks j).toNat = m := by omega
            rw [hsn, trKs_snoc, this]; rfl
          have hKj : trKs (tr p f) (ks.take j) ≤ 2 * 6561 := by
            have := trKs_le HBD.out (ks.take j)
            have h3 : (ks.take j).length ≤ 2 := by have := HKX.out.1; simp; omega
            exact Nat.le_trans this (Nat.mul_le_mul_right _ h3)
          have hTm : tr p f m ≤ 6561 := HBD.out m
          rw [hmm] at x0 hkk
          clear hsn hmm
          generalize trKs (tr p f) (ks.take j) = tj at *
          have hz1 : w.heap.size < w1.heap.size := by have := hB1.size; simp at this; omega
          have e0 : wr.cell? ⟨w.heap.size, 0, none⟩ = some (.slice ac p.cells.length cc) := by
            rw [hb.cell (p := ⟨w.heap.size, 0, none⟩) hz1, hB1.cell (p := ⟨w.heap.size, 0, none⟩) (by simp)]; simp [go_sem]
          have e1 : wr.cell? ⟨w.heap.size, 1, none⟩ = some (.slice (some ⟨b, off, none⟩) p.bodies.length cb) := by
            rw [hb.cell (p := ⟨w.heap.size, 1, none⟩) hz1, hB1.cell (p := ⟨w.heap.size, 1, none⟩) (by simp)]; simp [go_sem]
          have HP : Hid (Below w.heap.size w wr) := (below_after (Below.refl _ _) (Nat.le_refl _) hB1).trans (hb.mono (by have := hB1.size; simp at this; omega))
          go_wp2_with fail
          refine (IH.out m _ (hc.mono HP.out) (hB.mono HP.out) (by omega) (by omega)).mono ?_
          rintro e w2 ⟨rfl, hb2⟩
          have HB : Hid (Below w1.heap.size w1 w2) := hb.trans (hb2.mono hb.size)
          clear hb2 hb HP e0 e1 x0
          generalize tr p f m = tm at *
          go_wp2_with fail
          go_roundw
          case rel => exact ⟨j + 1, by omega, by go_num, by rw [HS2.out]; go_num, HB.out⟩
          case measure => simp [intOf]; omega
        · have HE : Hid (trKs (tr p f) (ks.take j) = trKs (tr p f) ks) := by rw [List.take_of_length_le (by omega)]; rfl
          have HB : Hid (Below (w.alloc (.cells #[.slice ac p.cells.length cc, .slice (some ⟨b, off, none⟩) p.bodies.length cb] 26)).heap.size (w.alloc (.cells #[.slice ac p.cells.length cc, .slice (some ⟨b, off, none⟩) p.bodies.length cb] 26)) wr) := hB1.trans (hb.mono hB1.size)
          clear hb hB1
          go_wp2_with fail
          go_roundw
          case rel => exact ⟨k + 1, by omega, by go_num, by rw [HE.out, HS.out]; go_num, HB.out⟩
          case measure => simp [intOf]; omega
    · have HE : Hid (trAs (tr p f) (acts.take k) = trAs (tr p f) acts) := by rw [List.take_of_length_le (by omega)]; rfl
      clear hb has
      go_wp2_with fail
      go_ret
      exact ⟨by rw [HT.out, HE.out]; rfl, hbw'⟩
theorem bodyTree_any (p : Pr) (cv bv : Value) (i : Nat) (w : World) (hform : Form p) (hc : IntsAt w cv p.cells) (hB : BodiesAt w bv p.bodies) (hi : i < p.bodies.length) :
    Calls Try.prog 85 #[.agg #[cv, bv], .int .i64 i] w fun r w' => r = .returned (.int .i64 (tr p 4 i : Nat)) ∧ Below w.heap.size w w' :=
  bodyTree_fuel p cv bv 4 hform (Nat.le_refl _) i w hc hB hi (by have := hform.1; omega)
end Go.Proofs.Ytgbgjljflgbcaaa

namespace Go.Proofs.Ytgbgjljflgbcaaa
open Go.RowKit
theorem foB_form {p : Pr} (h : foB p = true) : Form p ∧ 1 ≤ p.bodies.length := by
  simp [foB, inB] at h
  exact ⟨⟨by omega, fun i hi => h.2 i hi⟩, by omega⟩
set_option maxHeartbeats 1000000 in
theorem progOk_any (p : Pr) (cv bv : Value) (w : World) (hc : IntsAt w cv p.cells) (hB : BodiesAt w bv p.bodies) :
    Calls Try.prog 35 #[.agg #[cv, bv]] w fun r w' => r = .returned (.bool (okB p)) ∧ Below w.heap.size w w' := by
  obtain ⟨ac, cc, hcv, hmc⟩ := hc.shape
  obtain ⟨ab, cb, hbv, hmb⟩ := hB.shape
  subst hcv hbv
  cases h1 : csB p.cells
  · have HF : Hid (okB p = false) := by simp [Hid, okB, foB, h1]
    have H1 := (show Hid _ from h1)
    clear h1
    go_enter Try.func35, Try.ntmps35
    go_wp2_with fail
    refine (cellsInForm_any _ p.cells _ (by exact hc.mono (by repeat (first | exact Below.refl _ _ | refine Below.alloc ?_ (by simp; try omega) _ | refine Below.drew ?_ | refine Below.setCell ?_ (by simp; try omega) _)))).mono ?_
    rintro e w1 ⟨rfl, rfl⟩
    rw [H1.out]
    go_wp2_with fail
    go_ret
    exact ⟨by rw [HF.out]; rfl, (by repeat (first | exact Below.refl _ _ | refine Below.alloc ?_ (by simp; try omega) _ | refine Below.drew ?_ | refine Below.setCell ?_ (by simp; try omega) _))⟩
  have H1 := (show Hid _ from h1)
  clear h1
  by_cases h2 : p.bodies.length < 1
  · have HF : Hid (okB p = false) := by simp [Hid, okB, foB, inB]; omega
    have g2 : decide ((p.bodies.length : Int) < 1) = true := by simp; omega
    clear h2
    go_enter Try.func35, Try.ntmps35
    go_wp2_with fail
    refine (cellsInForm_any _ p.cells _ (by exact hc.mono (by repeat (first | exact Below.refl _ _ | refine Below.alloc ?_ (by simp; try omega) _ | refine Below.drew ?_ | refine Below.setCell ?_ (by simp; try omega) _)))).mono ?_
    rintro e w1 ⟨rfl, rfl⟩
    rw [H1.out]
    go_wp2_with fail
    go_ret
    exact ⟨by rw [HF.out]; rfl, (by repeat (first | exact Below.refl _ _ | refine Below.alloc ?_ (by simp; try omega) _ | refine Below.drew ?_ | refine Below.setCell ?_ (by simp; try omega) _))⟩
  have g2 : decide ((p.bodies.length : Int) < 1) = false := by simp; omega
  by_cases h3 : 4 < p.bodies.length
  · have HF : Hid (okB p = false) := by simp [Hid, okB, foB, inB]; omega
    have g3 : (4 : Int) < p.bodies.length := by omega
    clear h2 h3
    go_enter Try.func35, Try.ntmps35
    go_wp2_with fail
    refine (cellsInForm_any _ p.cells _ (by exact hc.mono (by repeat (first | exact Below.refl _ _ | refine Below.alloc ?_ (by simp; try omega) _ | refine Below.drew ?_ | refine Below.setCell ?_ (by simp; try omega) _)))).mono ?_
    rintro e w1 ⟨rfl, rfl⟩
    rw [H1.out]
    go_wp2_with fail
    go_ret
    exact ⟨by rw [HF.out]; rfl, (by repeat (first | exact Below.refl _ _ | refine Below.alloc ?_ (by simp; try omega) _ | refine Below.drew ?_ | refine Below.setCell ?_ (by simp; try omega) _))⟩
  have g3 : ¬ (4 : Int) < p.bodies.length := by omega
  go_enter Try.func35, Try.ntmps35
  go_wp2_with fail
  refine (cellsInForm_any _ p.cells _ (by exact hc.mono (by repeat (first | exact Below.refl _ _ | refine Below.alloc ?_ (by simp; try omega) _ | refine Below.drew ?_ | refine Below.setCell ?_ (by simp; try omega) _)))).mono ?_
  rintro e w1 ⟨rfl, rfl⟩
  rw [H1.out]
  go_wp2_with fail
  go_loopw [23] (fun q w' => ∃ k : Nat, k ≤ p.bodies.length ∧ q = .int .i64 k ∧ Below (w.alloc (.cells #[.slice ac p.cells.length cc, .slice ab p.bodies.length cb] 26)).heap.size (w.alloc (.cells #[.slice ac p.cells.length cc, .slice ab p.bodies.length cb] 26)) w' ∧ (∀ j, j < k → boB p j = true)) (fun q _ => p.bodies.length - (intOf q).toNat)
  case atStart => exact ⟨0, Nat.zero_le _, rfl, Below.refl _ _, fun j hj => absurd hj (Nat.not_lt_zero _)⟩
  case round =>
    obtain ⟨k, hk, rfl, hb, hall⟩ := hrel
    have hbw' : Below w.heap.size w _ := below_after (Below.refl _ _) (Nat.le_refl _) hb
    have e0 : wr.cell? ⟨w.heap.size, 0, none⟩ = some (.slice ac p.cells.length cc) := by rw [hb.cell (p := ⟨w.heap.size, 0, none⟩) (by simp)]; simp [go_sem]
    have e1 : wr.cell? ⟨w.heap.size, 1, none⟩ = some (.slice ab p.bodies.length cb) := by rw [hb.cell (p := ⟨w.heap.size, 1, none⟩) (by simp)]; simp [go_sem]
    have hz : w.heap.size < wr.heap.size := by have := hb.size; simp at this; omega
    by_cases hlt : k < p.bodies.length
    · have HX : Hid (IntsAt wr _ p.cells ∧ BodiesAt wr _ p.bodies) := ⟨hc.mono hbw', hB.mono hbw'⟩
      go_wp2_with fail
      refine (bodyInForm_any p _ _ k _ HX.out.1 HX.out.2 hlt).mono ?_
      rintro e w1 ⟨rfl, hb1⟩
      have HB : Hid (Below (w.alloc (.cells #[.slice ac p.cells.length cc, .slice ab p.bodies.length cb] 26)).heap.size (w.alloc (.cells #[.slice ac p.cells.length cc, .slice ab p.bodies.length cb] 26)) w1) := hb.trans (hb1.mono hb.size)
      clear hb1 e0 e1 HX hbw' hb
      cases hd : boB p k
      · have HF : Hid (okB p = false) := by
          have : (List.range p.bodies.length).all (boB p) = false := by
            rw [List.all_eq_false]; exact ⟨k, by simpa using hlt, by simp [hd]⟩
          simp [Hid, okB, foB, this]
        clear hd hall
        go_wp2_with fail
        go_ret
        exact ⟨by rw [HF.out]; rfl, below_after (Below.refl _ _) (Nat.le_refl _) HB.out⟩
      · have HA : Hid (∀ j, j < k + 1 → boB p j = true) := so_far hall hd
        clear hd hall
        go_wp2_with fail
        go_roundw
        case rel => exact ⟨k + 1, by omega, by go_num, HB.out, HA.out⟩
        case measure => simp [intOf]; omega
    · have hf : foB p = true := by
        have : (List.range p.bodies.length).all (boB p) = true := by
          rw [List.all_eq_true]; intro j hj; exact hall j (by have := List.mem_range.1 hj; omega)
        simp [foB, inB, this, H1.out]; omega
      have HF : Hid (okB p = decide (tr p 4 0 ≤ 7)) := by simp [Hid, okB, hf]
      have HFo : Hid (Form p) := (foB_form hf).1
      have HX : Hid (IntsAt wr _ p.cells ∧ BodiesAt wr _ p.bodies) := ⟨hc.mono hbw', hB.mono hbw'⟩
      clear hall hf
      go_wp2_with fail
      refine (bodyTree_any p _ _ 0 _ HFo.out HX.out.1 HX.out.2 (by omega)).mono ?_
      rintro e w1 ⟨rfl, hb1⟩
      have HB : Hid (Below w.heap.size w w1) := hbw'.trans (hb1.mono hbw'.size)
      clear hb1 e0 e1 HX hbw' hb
      go_wp2_with fail
      go_ret
      exact ⟨by rw [HF.out]; simp; try omega, HB.out⟩
end Go.Proofs.Ytgbgjljflgbcaaa

namespace Go.Proofs.Ytgbgjljflgbcaaa
open Go.RowKit
set_option maxHeartbeats 1000000 in
theorem l1Act_1 (x : Ac) (dv kv cv bv : Value) (cs : List Int) (bs : List (List Ac)) (body : Int) (w : World) (hd : DeedsAt w dv x.ds) (hk : IntsAt w kv x.ks) (hc : IntsAt w cv cs) (hB : BodiesAt w bv bs)
    (h1 : x.k = 1) (h2 : x.ks.length = 0) (h3 : x.r = 0) :
    Calls Try.prog 119 #[.agg #[cv, bv], .int .i64 body, .agg #[.int .i64 x.k, dv, kv, .int .i64 x.r]] w fun r w' => r = .returned (.bool (dsB x.ds cs.length)) ∧ Below w.heap.size w w' := by
  obtain ⟨ac, cc, rfl, hmc⟩ := hc.shape
  obtain ⟨ab, cb, rfl, hmb⟩ := hB.shape
  obtain ⟨ad, cd, rfl, hmd, hds⟩ := id hd
  obtain ⟨ak, ck, rfl, hmk⟩ := hk.shape
  rw [h1, h2, h3]
  clear hc hB hk h1 h2 h3
  generalize x.ds = ds at *
  go_enter Try.func119, Try.ntmps119
  go_wp2_with fail
  go_loopw [7] (fun q w' => ∃ k : Nat, k ≤ ds.length ∧ q = .int .i64 k ∧ Below ((w.alloc (.cells #[.slice ac cs.length cc, .slice ab bs.length cb] 26)).alloc (.cells #[.int .i64 1, .slice ad ds.length cd, .slice ak 0 ck, .int .i64 0] 122)).heap.size ((w.alloc (.cells #[.slice ac cs.length cc, .slice ab bs.length cb] 26)).alloc (.cells #[.int .i64 1, .slice ad ds.length cd, .slice ak 0 ck, .int .i64 0] 122)) w' ∧ (∀ j, j < k → deB (nth De.z ds j) cs.length = true)) (fun q _ => ds.length - (intOf q).toNat)
  case atStart => exact ⟨0, Nat.zero_le _, rfl, Below.refl _ _, fun j hj => absurd hj (Nat.not_lt_zero _)⟩
  case round =>
    obtain ⟨k, hk, rfl, hb, hall⟩ := hrel
    have hbw' : Below w.heap.size w _ := below_after2 (Below.refl _ _) (Nat.le_refl _) hb
    have e0 : wr.cell? ⟨w.heap.size, 0, none⟩ = some (.slice ac cs.length cc) := by rw [hb.cell (p := ⟨w.heap.size, 0, none⟩) (by simp; omega)]; simp [go_sem]
    have e1 : wr.cell? ⟨w.heap.size + 1, 1, none⟩ = some (.slice ad ds.length cd) := by rw [hb.cell (p := ⟨w.heap.size + 1, 1, none⟩) (by simp)]; simp [go_sem]
    by_cases hlt : k < ds.length
    · obtain ⟨b2, off2, rfl, hb2, d0, d1, d2⟩ := hds k hlt
      rw [← hbw'.cell (p := ⟨b2, _, none⟩) hb2] at d0 d1 d2
      clear hds
      cases hde : deB (nth De.z ds k) cs.length
      · have HF : Hid (dsB ds cs.length = false) := by simp [Hid, dsB, not_all_nth De.z (deB · cs.length) ds k hlt hde]
        have HE := (show Hid _ from hde)
        clear hde hall
        go_wp2_with fail
        go_region_with (go_at_call 142; refine (l1Deed_any (nth De.z ds k) _ _ (by omega) (by omega)).mono ?_; rintro e w1 ⟨rfl, hb1⟩)
        all_goals
          have HB : Hid (Below w.heap.size w w1) := below_drewed hbw' hbw'.size hb1
          rw [HE.out]
          clear hb1 hb hbw' e0 e1 d0 d1 d2
          go_wp2_with fail
          go_ret
          exact ⟨by rw [HF.out]; rfl, HB.out⟩
      · have HA : Hid (∀ j, j < k + 1 → deB (nth De.z ds j) cs.length = true) := so_far hall hde
        have HE := (show Hid _ from hde)
        clear hde hall
        go_wp2_with fail
        go_region_with (go_at_call 142; refine (l1Deed_any (nth De.z ds k) _ _ (by omega) (by omega)).mono ?_; rintro e w1 ⟨rfl, hb1⟩)
        all_goals
          have HB : Hid (Below ((w.alloc (.cells #[.slice ac cs.length cc, .slice ab bs.length cb] 26)).alloc (.cells #[.int .i64 1, .slice (some ⟨b2, off2, none⟩) ds.length cd, .slice ak 0 ck, .int .i64 0] 122)).heap.size ((w.alloc (.cells #[.slice ac cs.length cc, .slice ab bs.length cb] 26)).alloc (.cells #[.int .i64 1, .slice (some ⟨b2, off2, none⟩) ds.length cd, .slice ak 0 ck, .int .i64 0] 122)) w1) := below_drewed hb hb.size hb1
          rw [HE.out]
          clear hb1 hb hbw' e0 e1 d0 d1 d2
          go_wp2_with fail
          go_roundw
          case rel => exact ⟨k + 1, by omega, by go_num, HB.out, HA.out⟩
          case measure => simp [intOf]; omega
    · have HA : Hid (dsB ds cs.length = decide (ds.length ≤ 5)) := by
        have := all_nth De.z (deB · cs.length) ds (fun j hj => hall j (by omega))
        simp [Hid, dsB, this]
      clear hall hds hb
      go_wp2_with fail
      go_ret
      exact ⟨by rw [HA.out]; simp; try omega, hbw'⟩
def restB (k r : Int) (nd nk : Nat) : Bool :=
  if k = 3 then decide (nd = 0) && decide (nk = 0) && decide (r = 0)
  else if k = 4 then decide (nd = 0) && decide (nk = 0) && plB r 3
  else false
set_option maxHeartbeats 1000000 in
theorem l1Act_rest (k r : Int) (nd nk nc nb : Nat) (ad ak ac ab : Option Addr) (cd ck cc cb : Nat) (body : Int) (w : World)
    (h1 : ¬ (k = 1 ∧ nk = 0 ∧ r = 0)) (h2 : ¬ (k = 2 ∧ nd = 0 ∧ r = 0)) :
    Calls Try.prog 119 #[.agg #[.slice ac nc cc, .slice ab nb cb], .int .i64 body, .agg #[.int .i64 k, .slice ad nd cd, .slice ak nk ck, .int .i64 r]] w fun q w' => q = .returned (.bool (restB k r nd nk)) ∧ Below w.heap.size w w' := by
  have fd : decide ((0 : Int) < (nd : Int)) = !decide (nd = 0) := by by_cases h : nd = 0 <;> simp [h]; omega
  have fk : decide ((0 : Int) < (nk : Int)) = !decide (nk = 0) := by by_cases h : nk = 0 <;> simp [h]; omega
  have fr : (r != 0) = !decide (r = 0) := by by_cases h : r = 0 <;> simp [h]
  by_cases g1 : k = 1
  · subst g1
    have HF : Hid (restB 1 r nd nk = false) := by simp [Hid, restB]
    by_cases gk : nk = 0
    · have gr : r ≠ 0 := by omega
      simp only [gr, decide_false, Bool.not_false] at fr
      clear h1 h2 fd fk gr
      subst gk
      go_enter Try.func119, Try.ntmps119
      go_wp2_with fail
      go_ret
      exact ⟨by rw [HF.out]; rfl, (by repeat (first | exact Below.refl _ _ | refine Below.alloc ?_ (by simp; try omega) _ | refine Below.drew ?_ | refine Below.setCell ?_ (by simp; try omega) _))⟩
    · have fk' : (0 : Int) < (nk : Int) := by omega
      clear h1 h2 fd fr fk gk
      go_enter Try.func119, Try.ntmps119
      go_wp2_with fail
      go_ret
      exact ⟨by rw [HF.out]; rfl, (by repeat (first | exact Below.refl _ _ | refine Below.alloc ?_ (by simp; try omega) _ | refine Below.drew ?_ | refine Below.setCell ?_ (by simp; try omega) _))⟩
  by_cases g2 : k = 2
  · subst g2
    have HF : Hid (restB 2 r nd nk = false) := by simp [Hid, restB]
    by_cases gk : nd = 0
    · have gr : r ≠ 0 := by omega
      simp only [gr, decide_false, Bool.not_false] at fr
      clear h1 h2 fd fk gr
      subst gk
      go_enter Try.func119, Try.ntmps119
      go_wp2_with fail
      go_ret
      exact ⟨by rw [HF.out]; rfl, (by repeat (first | exact Below.refl _ _ | refine Below.alloc ?_ (by simp; try omega) _ | refine Below.drew ?_ | refine Below.setCell ?_ (by simp; try omega) _))⟩
    · have fd' : (0 : Int) < (nd : Int) := by omega
      clear h1 h2 fk fr fd gk
      go_enter Try.func119, Try.ntmps119
      go_wp2_with fail
      go_ret
      exact ⟨by rw [HF.out]; rfl, (by repeat (first | exact Below.refl _ _ | refine Below.alloc ?_ (by simp; try omega) _ | refine Below.drew ?_ | refine Below.setCell ?_ (by simp; try omega) _))⟩
  clear h1 h2
  by_cases gd : nd = 0
  case neg =>
    have HF : Hid (restB k r nd nk = false) := by simp [Hid, restB, gd]
    have fd' : (0 : Int) < (nd : Int) := by omega
    have n1 : (k != 1) = true := by simp [g1]
    clear fk fr fd gd g1 g2
    go_enter Try.func119, Try.ntmps119
    go_wp2_with fail
    go_ret
    exact ⟨by rw [HF.out]; rfl, (by repeat (first | exact Below.refl _ _ | refine Below.alloc ?_ (by simp; try omega) _ | refine Below.drew ?_ | refine Below.setCell ?_ (by simp; try omega) _))⟩
  subst gd
  clear fd
  by_cases gk : nk = 0
  case neg =>
    have HF : Hid (restB k r 0 nk = false) := by simp [Hid, restB, gk]
    have fk' : (0 : Int) < (nk : Int) := by omega
    have n1 : (k != 1) = true := by simp [g1]
    have n2 : (k != 2) = true := by simp [g2]
    clear fr fk gk g1 g2
    go_enter Try.func119, Try.ntmps119
    go_wp2_with fail
    go_ret
    exact ⟨by rw [HF.out]; rfl, (by repeat (first | exact Below.refl _ _ | refine Below.alloc ?_ (by simp; try omega) _ | refine Below.drew ?_ | refine Below.setCell ?_ (by simp; try omega) _))⟩
  subst gk
  clear fk
  by_cases g4 : k = 4
  · subst g4
    have HF : Hid (restB 4 r 0 0 = inB r 0 2) := by simp [Hid, restB, in_pl3]
    clear fr g1 g2
    go_enter Try.func119, Try.ntmps119
    go_wp2_with (go_at_call 52; refine (l6In_any _ _ _ _).mono ?_; rintro e w' ⟨rfl, rfl⟩)
    go_ret
    exact ⟨by rw [HF.out]; rfl, (by repeat (first | exact Below.refl _ _ | refine Below.alloc ?_ (by simp; try omega) _ | refine Below.drew ?_ | refine Below.setCell ?_ (by simp; try omega) _))⟩
  by_cases gr : r = 0
  · subst gr
    clear fr
    by_cases g3 : k = 3
    · subst g3
      go_enter Try.func119, Try.ntmps119
      go_wp2_with fail
      go_ret
      exact ⟨by simp [restB], (by repeat (first | exact Below.refl _ _ | refine Below.alloc ?_ (by simp; try omega) _ | refine Below.drew ?_ | refine Below.setCell ?_ (by simp; try omega) _))⟩
    · have HF : Hid (restB k 0 0 0 = false) := by simp [Hid, restB, g3, g4]
      have n1 : (k != 1) = true := by simp [g1]
      have n2 : (k != 2) = true := by simp [g2]
      have n4 : (k != 4) = true := by simp [g4]
      have q1 : (k == 1) = false := by simp [g1]
      have q2 : (k == 2) = false := by simp [g2]
      have q3 : (k == 3) = false := by simp [g3]
      have q4 : (k == 4) = false := by simp [g4]
      clear g1 g2 g3 g4
      go_enter Try.func119, Try.ntmps119
      go_wp2_with fail
      go_ret
      exact ⟨by rw [HF.out]; rfl, (by repeat (first | exact Below.refl _ _ | refine Below.alloc ?_ (by simp; try omega) _ | refine Below.drew ?_ | refine Below.setCell ?_ (by simp; try omega) _))⟩
  · have HF : Hid (restB k r 0 0 = false) := by simp [Hid, restB, gr, g4]
    simp only [gr, decide_false, Bool.not_false] at fr
    have n1 : (k != 1) = true := by simp [g1]
    have n2 : (k != 2) = true := by simp [g2]
    have n4 : (k != 4) = true := by simp [g4]
    clear g1 g2 g4 gr
    go_enter Try.func119, Try.ntmps119
    go_wp2_with fail
    go_ret
    exact ⟨by rw [HF.out]; rfl, (by repeat (first | exact Below.refl _ _ | refine Below.alloc ?_ (by simp; try omega) _ | refine Below.drew ?_ | refine Below.setCell ?_ (by simp; try omega) _))⟩
end Go.Proofs.Ytgbgjljflgbcaaa
