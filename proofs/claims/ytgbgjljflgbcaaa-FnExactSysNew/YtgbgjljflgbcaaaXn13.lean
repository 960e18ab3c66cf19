import Derived.Test.YtgbgjljflgbcaaaXn12
namespace Go.Proofs.Ytgbgjljflgbcaaa
open Go.RowKit
set_option maxHeartbeats 1000000 in
theorem l1Tree_fuel (p : Pr) (cv bv : Value) (f : Nat) (hform : Form p) (hf4 : f ≤ 4) : ∀ (i : Nat) (w : World) (_ : IntsAt w cv p.cells) (_ : BodiesAt w bv p.bodies) (_ : i < p.bodies.length) (_ : p.bodies.length ≤ f + i),
    Calls Try.prog 82 #[.agg #[cv, bv], .int .i64 i] w fun r w' => r = .returned (.int .i64 (tr p f i : Nat)) ∧ Below w.heap.size w w' := by
  induction f with
  | zero => intro i w _ _ h1 h2; omega
  | succ f ih =>
  intro i w hc hB hi hfi
  have IH := (show Hid _ from ih (by omega))
  clear ih
  obtain ⟨hl4, hacts⟩ := boB_acts (hform.2 i hi)
  have hbd := tr_le hform f
  have hp4 : 9 ^ f ≤ 6561 := pow_le4 (by omega)
  have HT : Hid (tr p (f + 1) i = 1 + trAs (tr p f) (nth [] p.bodies i)) := rfl
  obtain ⟨ac, cc, hcv, hmc⟩ := hc.shape
  obtain ⟨ab, cb, hbv, hmb, hbs⟩ := id hB
  obtain ⟨b, off, av, rfl, hbw, c0, ha⟩ := hbs i hi
  clear hbs
  obtain ⟨aa, ca, rfl, hma, has⟩ := id ha
  subst hcv hbv
  generalize nth [] p.bodies i = acts at *
  have HKS : Hid (∀ a, a ∈ acts → a.ks.length ≤ 2 ∧ ∀ k, k ∈ a.ks → (i : Int) < k ∧ k < p.bodies.length) := fun a ha => acB_ks (hacts a ha)
  have HBD : Hid (∀ n, tr p f n ≤ 6561) := fun n => Nat.le_trans (hbd n) hp4
  clear hacts hbd hp4
  go_enter Try.func82, Try.ntmps82
  go_wp2_with fail
  go_loopw [5, 6] (fun t q w' => ∃ k : Nat, k ≤ acts.length ∧ q = .int .i64 k ∧ t = .int .i64 ((1 + trAs (tr p f) (acts.take k) : Nat) : Int) ∧ Below (w.alloc (.cells #[.slice ac p.cells.length cc, .slice (some ⟨b, off, none⟩) p.bodies.length cb] 26)).heap.size (w.alloc (.cells #[.slice ac p.cells.length cc, .slice (some ⟨b, off, none⟩) p.bodies.length cb] 26)) w') (fun _ q _ => acts.length - (intOf q).toNat)
  case atStart => exact ⟨0, Nat.zero_le _, rfl, rfl, Below.refl _ _⟩
  case round =>
    obtain ⟨k, hk, rfl, rfl, hb⟩ := hrel
    have hbw' : Below w.heap.size w _ := below_after (Below.refl _ _) (Nat.le_refl _) hb
    have c0w := c0
    rw [← hbw'.cell (p := ⟨b, _, none⟩) hbw] at c0w
    have e0 : wr.cell? ⟨w.heap.size, 0, none⟩ = some (.slice ac p.cells.length cc) := by rw [hb.cell (p := ⟨w.heap.size, 0, none⟩) (by simp)]; simp [go_sem]
    have e1 : wr.cell? ⟨w.heap.size, 1, none⟩ = some (.slice (some ⟨b, off, none⟩) p.bodies.length cb) := by rw [hb.cell (p := ⟨w.heap.size, 1, none⟩) (by simp)]; simp [go_sem]
    by_cases hlt : k < acts.length
    · obtain ⟨b2, off2, dv, kv, rfl, hb2, d0, d1, d2, d3, hd, hk'⟩ := has k hlt
      rw [← hbw'.cell (p := ⟨b2, _, none⟩) hb2] at d0 d1 d2 d3
      obtain ⟨ak, ck, rfl, hm3, hks3⟩ := id hk'
      have hsn := take_nth Ac.z acts k hlt
      have HS : Hid (trAs (tr p f) (acts.take (k + 1)) = trAs (tr p f) (acts.take k) + trKs (tr p f) (nth Ac.z acts k).ks) := by rw [hsn, trAs_snoc]; rfl
      have HKX : Hid ((nth Ac.z acts k).ks.length ≤ 2 ∧ ∀ x, x ∈ (nth Ac.z acts k).ks → (i : Int) < x ∧ x < p.bodies.length) := HKS.out _ (nth_mem Ac.z acts k hlt)
      have hAk : trAs (tr p f) (acts.take k) ≤ 4 * (2 * 6561) := by
        have := trAs_le HBD.out (acts.take k) (fun a ha => (HKS.out a (List.mem_of_mem_take ha)).1)
        have h3 : (acts.take k).length ≤ 4 := by simp; omega
        exact Nat.le_trans this (Nat.mul_le_mul_right _ h3)
      clear hsn hd has
      generalize (nth Ac.z acts k).ks = ks at *
      generalize trAs (tr p f) (acts.take k) = tk at *
      go_wp2_with fail
      go_loopw [5, 8] (fun t q w' => ∃ j : Nat, j ≤ ks.length ∧ q = .int .i64 j ∧ t = .int .i64 ((1 + tk + trKs (tr p f) (ks.take j) : Nat) : Int) ∧ Below (w.alloc (.cells #[.slice ac p.cells.length cc, .slice (some ⟨b, off, none⟩) p.bodies.length cb] 26)).heap.size (w.alloc (.cells #[.slice ac p.cells.length cc, .slice (some ⟨b, off, none⟩) p.bodies.length cb] 26)) w') (fun _ q _ => ks.length - (intOf q).toNat)
      case atStart => exact ⟨0, Nat.zero_le _, rfl, rfl, hb⟩
      clear hb hbw' e0 e1 d0 d1 d2 d3 c0w
      case round =>
        obtain ⟨j, hj, rfl, rfl, hb⟩ := hrel
        have hbw' : Below w.heap.size w _ := below_after (Below.refl _ _) (Nat.le_refl _) hb
        by_cases hjl : j < ks.length
        · obtain ⟨b4, off4, rfl, hb4, x0⟩ := hks3 j hjl
          rw [← hbw'.cell (p := ⟨b4, _, none⟩) hb4] at x0
          have hkk := HKX.out.2 _ (nth_mem 0 ks j hjl)
          obtain ⟨m, hmm⟩ : ∃ m : Nat, nth 0 ks j = (m : Int) := ⟨(nth 0 ks j).toNat, by omega⟩
          have hsn := take_nth 0 ks j hjl
          have HS2 : Hid (trKs (tr p f) (ks.take (j + 1)) = trKs (tr p f) (ks.take j) + tr p f m) := by
            have : (nth 0 ks j).toNat = m := by omega
            rw [hsn, trKs_snoc, this]; rfl
          have hKj : trKs (tr p f) (ks.take j) ≤ 2 * 6561 := by
            have := trKs_le HBD.out (ks.take j)
            have h3 : (ks.take j).length ≤ 2 := by have := HKX.out.1; simp; omega
            exact Nat.le_trans this (Nat.mul_le_mul_right _ h3)
          have hTm : tr p f m ≤ 6561 := HBD.out m
          rw [hmm] at x0 hkk
          clear hsn hmm hks3 hk'
          generalize trKs (tr p f) (ks.take j) = tj at *
          have e0 : wr.cell? ⟨w.heap.size, 0, none⟩ = some (.slice ac p.cells.length cc) := by rw [hb.cell (p := ⟨w.heap.size, 0, none⟩) (by simp)]; simp [go_sem]
          have e1 : wr.cell? ⟨w.heap.size, 1, none⟩ = some (.slice (some ⟨b, off, none⟩) p.bodies.length cb) := by rw [hb.cell (p := ⟨w.heap.size, 1, none⟩) (by simp)]; simp [go_sem]
          have HP : Hid (Below w.heap.size w wr.drew) := hbw'.drew
          go_wp2_with fail
          go_region_with (go_at_call 82; refine (IH.out m _ (hc.mono HP.out) (hB.mono HP.out) (by omega) (by omega)).mono ?_; rintro e w2 ⟨rfl, hb2⟩)
          all_goals
            have HB : Hid (Below (w.alloc (.cells #[.slice ac p.cells.length cc, .slice (some ⟨b, off, none⟩) p.bodies.length cb] 26)).heap.size (w.alloc (.cells #[.slice ac p.cells.length cc, .slice (some ⟨b, off, none⟩) p.bodies.length cb] 26)) w2) := below_drewed hb hb.size hb2
            clear hb2 hb HP e0 e1 x0
            generalize tr p f m = tm at *
            go_wp2_with fail
            go_roundw
            case rel => exact ⟨j + 1, by omega, by go_num, by rw [HS2.out]; go_num, HB.out⟩
            case measure => simp [intOf]; omega
        · have HE : Hid (trKs (tr p f) (ks.take j) = trKs (tr p f) ks) := by rw [List.take_of_length_le (by omega)]; rfl
          go_wp2_with fail
          go_roundw
          case rel => exact ⟨k + 1, by omega, by go_num, by rw [HE.out, HS.out]; go_num, hb⟩
          case measure => simp [intOf]; omega
    · have HE : Hid (trAs (tr p f) (acts.take k) = trAs (tr p f) acts) := by rw [List.take_of_length_le (by omega)]; rfl
      clear hb has
      go_wp2_with fail
      go_ret
      exact ⟨by rw [HT.out, HE.out]; rfl, hbw'⟩
theorem l1Tree_any (p : Pr) (cv bv : Value) (i : Nat) (w : World) (hform : Form p) (hc : IntsAt w cv p.cells) (hB : BodiesAt w bv p.bodies) (hi : i < p.bodies.length) :
    Calls Try.prog 82 #[.agg #[cv, bv], .int .i64 i] w fun r w' => r = .returned (.int .i64 (tr p 4 i : Nat)) ∧ Below w.heap.size w w' :=
  l1Tree_fuel p cv bv 4 hform (Nat.le_refl _) i w hc hB hi (by have := hform.1; omega)
set_option maxHeartbeats 1000000 in
theorem sProgOk_any (p : Pr) (cv bv : Value) (w : World) (hc : IntsAt w cv p.cells) (hB : BodiesAt w bv p.bodies) :
    Calls Try.prog 33 #[.agg #[cv, bv]] w fun r w' => r = .returned (.bool (okB p)) ∧ Below w.heap.size w w' := by
  obtain ⟨ac, cc, hcv, hmc⟩ := hc.shape
  obtain ⟨ab, cb, hbv, hmb⟩ := hB.shape
  subst hcv hbv
  cases h1 : foB p
  · have HF : Hid (okB p = false) := by simp [Hid, okB, h1]
    have H1 := (show Hid _ from h1)
    clear h1
    go_enter Try.func33, Try.ntmps33
    go_wp2_with fail
    refine (l1Form_any p _ _ _ (by exact hc.mono (by repeat (first | exact Below.refl _ _ | refine Below.alloc ?_ (by simp; try omega) _ | refine Below.drew ?_ | refine Below.setCell ?_ (by simp; try omega) _))) (by exact hB.mono (by repeat (first | exact Below.refl _ _ | refine Below.alloc ?_ (by simp; try omega) _ | refine Below.drew ?_ | refine Below.setCell ?_ (by simp; try omega) _)))).mono ?_
    rintro e w1 ⟨rfl, hb1⟩
    rw [H1.out]
    have HB : Hid (Below w.heap.size w w1) := below_after (Below.refl _ _) (Nat.le_refl _) hb1
    clear hb1
    go_wp2_with fail
    go_ret
    exact ⟨by rw [HF.out]; rfl, HB.out⟩
  · have HF : Hid (okB p = decide (tr p 4 0 ≤ 7)) := by simp [Hid, okB, h1]
    have H1 := (show Hid _ from h1)
    have hfo := foB_form h1
    have HFo : Hid (Form p) := hfo.1
    have hl1 := hfo.2
    clear h1 hfo
    go_enter Try.func33, Try.ntmps33
    go_wp2_with fail
    refine (l1Form_any p _ _ _ (by exact hc.mono (by repeat (first | exact Below.refl _ _ | refine Below.alloc ?_ (by simp; try omega) _ | refine Below.drew ?_ | refine Below.setCell ?_ (by simp; try omega) _))) (by exact hB.mono (by repeat (first | exact Below.refl _ _ | refine Below.alloc ?_ (by simp; try omega) _ | refine Below.drew ?_ | refine Below.setCell ?_ (by simp; try omega) _)))).mono ?_
    rintro e w1 ⟨rfl, hb1⟩
    rw [H1.out]
    have e0 : w1.cell? ⟨w.heap.size, 0, none⟩ = some (.slice ac p.cells.length cc) := by rw [hb1.cell (p := ⟨w.heap.size, 0, none⟩) (by simp)]; simp [go_sem]
    have e1 : w1.cell? ⟨w.heap.size, 1, none⟩ = some (.slice ab p.bodies.length cb) := by rw [hb1.cell (p := ⟨w.heap.size, 1, none⟩) (by simp)]; simp [go_sem]
    have hb : Below w.heap.size w w1 := below_after (Below.refl _ _) (Nat.le_refl _) hb1
    have HX : Hid (IntsAt w1 _ p.cells ∧ BodiesAt w1 _ p.bodies) := ⟨hc.mono hb, hB.mono hb⟩
    clear hb1
    go_wp2_with fail
    refine (l1Tree_any p _ _ 0 _ HFo.out HX.out.1 HX.out.2 (by omega)).mono ?_
    rintro e w2 ⟨rfl, hb2⟩
    have HB : Hid (Below w.heap.size w w2) := hb.trans (hb2.mono hb.size)
    clear hb2 hb e0 e1 HX
    go_wp2_with fail
    go_ret
    exact ⟨by rw [HF.out]; simp; try omega, HB.out⟩
end Go.Proofs.Ytgbgjljflgbcaaa
