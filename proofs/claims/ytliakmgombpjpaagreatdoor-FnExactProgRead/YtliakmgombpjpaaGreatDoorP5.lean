import Derived.Test.YtliakmgombpjpaaGreatDoorP4
namespace Go.Proofs.YtliakmgombpjpaaGreatDoor
open Go.RowKit
set_option linter.unusedSimpArgs false
set_option linter.unusedVariables false

/-- an act in form as a part of its own -/
def ActPartOf (x : Ac) (dv kv v : Value) : Prop :=
  (x.k = 1 ∧ v = .iface 69 (.agg #[dv])) ∨ (x.k = 2 ∧ v = .iface 71 (.agg #[kv])) ∨ (x.k = 3 ∧ v = .iface 73 (.agg #[])) ∨ (x.k = 4 ∧ v = .iface 75 (.agg #[.int .i64 x.r]))
theorem acB_cases {x : Ac} {nc body nb : Int} (h : acB x nc body nb = true) :
    (x.k = 1 ∧ x.ks.length = 0 ∧ x.r = 0 ∧ x.ds.length ≤ 5 ∧ (∀ d, d ∈ x.ds → deB d nc = true)) ∨ (x.k = 2 ∧ x.ds.length = 0 ∧ x.r = 0 ∧ x.ks.length ≤ 2 ∧ (∀ k, k ∈ x.ks → body < k ∧ k < nb)) ∨ (x.k = 3 ∧ x.ds.length = 0 ∧ x.ks.length = 0 ∧ x.r = 0) ∨ (x.k = 4 ∧ x.ds.length = 0 ∧ x.ks.length = 0 ∧ 0 ≤ x.r ∧ x.r < 3) := by
  have hk := acB_ks h
  unfold acB at h
  split at h
  · rename_i h1
    simp only [Bool.and_eq_true, decide_eq_true_eq, dsB, List.all_eq_true] at h
    exact .inl ⟨h1, h.1.1, h.1.2, h.2.1, h.2.2⟩
  split at h
  · rename_i h1
    simp only [Bool.and_eq_true, decide_eq_true_eq] at h
    exact .inr (.inl ⟨h1, h.1.1, h.1.2, hk.1, hk.2⟩)
  split at h
  · rename_i h1
    simp only [Bool.and_eq_true, decide_eq_true_eq] at h
    exact .inr (.inr (.inl ⟨h1, h.1.1, h.1.2, h.2⟩))
  split at h
  · rename_i h1
    simp [plB] at h
    exact .inr (.inr (.inr ⟨h1, by simp [h], by simp [h], by omega, by omega⟩))
  · simp at h

theorem acV_part {x : Ac} {dv kv : Value} {nc body nb : Int} (h : acB x nc body nb = true) : ActPartOf x dv kv (acV x dv kv) := by
  unfold ActPartOf acV
  rcases acB_cases h with ⟨e1, e2, e3, e4, _⟩ | ⟨e1, e2, e3, e4, _⟩ | ⟨e1, e2, e3, e4⟩ | ⟨e1, e2, e3, e4, e5⟩
  all_goals simp_all

theorem ok_cells {p : Pr} (h : okB p = true) : p.cells.length ≤ 3 ∧ p.bodies.length ≤ 4 ∧ (∀ k, k ∈ p.cells → 0 ≤ k ∧ k < 100) ∧ (∀ i, i < p.bodies.length → boB p i = true) := by
  unfold okB foB csB inB at h
  simp only [Bool.and_eq_true, decide_eq_true_eq, List.all_eq_true, List.mem_range] at h
  obtain ⟨⟨⟨⟨h1, h0⟩, h2, h3⟩, h4⟩, _⟩ := h
  exact ⟨h1, by omega, fun k hk => by have := h0 k hk; simp [plB] at this; exact this, h4⟩

theorem acT_1 {x : Ac} (h : x.k = 1) : acT x = [116, 114, 121] ++ dsT x.ds := by unfold acT; rw [if_pos h]
theorem acT_2 {x : Ac} (h : x.k = 2) : acT x = [102, 111, 114, 107] ++ nuT x.ks := by unfold acT; rw [if_neg (by omega), if_pos h]
theorem acT_3 {x : Ac} (h : x.k = 3) : acT x = [102, 97, 105, 108] := by unfold acT; rw [if_neg (by omega), if_neg (by omega), if_pos h]
theorem acT_4 {x : Ac} (h : x.k = 4) : acT x = [102, 97, 105, 108, 105, 102, 32] ++ reT x.r := by unfold acT; rw [if_neg (by omega), if_neg (by omega), if_neg (by omega)]
theorem boT_len {acts : List Ac} (h : acts.length ≤ 4) (h2 : ∀ a, a ∈ acts → a.ds.length ≤ 5 ∧ a.ks.length ≤ 3) : (boT acts).length ≤ 121 := by
  have := asT_len acts h2
  unfold boT
  simp
  omega
theorem mem_nth {α : Type} (z : α) {l : List α} {x : α} (h : x ∈ l) : ∃ i, i < l.length ∧ nth z l i = x := by
  obtain ⟨i, hi, e⟩ := List.getElem_of_mem h
  exact ⟨i, hi, by rw [nth_eq z l i hi]; exact e⟩
theorem ok_bodies {p : Pr} (h : okB p = true) : ∀ acts, acts ∈ p.bodies → acts.length ≤ 4 ∧ ∀ a, a ∈ acts → a.ds.length ≤ 5 ∧ a.ks.length ≤ 3 := fun acts ha => by
  obtain ⟨i, hi, rfl⟩ := mem_nth [] ha
  have h2 := boB_acts ((ok_cells h).2.2.2 i hi)
  exact ⟨h2.1, fun a ha => acB_len (h2.2 a ha)⟩
theorem bsT_len {p : Pr} (h : okB p = true) (i : Nat) : (bsT (p.bodies.take i)).length ≤ 484 := by
  have h1 := flat_len (f := boT) (m := 121) (p.bodies.take i) fun x hx => boT_len (ok_bodies h x (List.mem_of_mem_take hx)).1 (ok_bodies h x (List.mem_of_mem_take hx)).2
  have h2 := (ok_cells h).2.1
  have h3 : (p.bodies.take i).length ≤ 4 := by simp; omega
  unfold bsT
  omega

set_option maxHeartbeats 4000000 in
theorem progText_any (p : Pr) (cv bv : Value) (w : World) (hc : IntsAt w cv p.cells) (hB : BodiesAt w bv p.bodies) :
    Calls Tryz.prog 7 #[.agg #[cv, bv]] w fun e w' => e = .returned (.string (bs (txT p))) ∧ Below w.heap.size w w' := by
  obtain ⟨ac, cc, rfl, hmc⟩ := hc.shape
  obtain ⟨ab, cb, rfl, hmb⟩ := hB.shape
  have HC : Hid (IntsAt (w.alloc (.cells #[.slice ac p.cells.length cc, .slice ab p.bodies.length cb] 26)) (.slice ac p.cells.length cc) p.cells) := hc.mono (by repeat (first | exact Below.refl _ _ | refine Below.alloc ?_ (by simp; try omega) _ | refine Below.drew ?_ | refine Below.setCell ?_ (by simp; try omega) _))
  have HB : Hid (BodiesAt (w.alloc (.cells #[.slice ac p.cells.length cc, .slice ab p.bodies.length cb] 26)) (.slice ab p.bodies.length cb) p.bodies) := hB.mono (by repeat (first | exact Below.refl _ _ | refine Below.alloc ?_ (by simp; try omega) _ | refine Below.drew ?_ | refine Below.setCell ?_ (by simp; try omega) _))
  clear hc hB
  cases hok : okB p
  · have HK := (show Hid (okB p = false) from hok)
    clear hok
    go_enter Tryz.func7, Tryz.ntmps7
    go_wp2_with (go_at_call 13; refine (progOk_any p _ _ _ HC.out HB.out).mono ?_; rintro e w1 ⟨he, hb1⟩; rw [HK.out] at he; subst he; have H1 := (show Hid (Below _ _ _) from hb1); clear hb1)
    go_ret
    exact ⟨ret_str (by unfold txT; rw [HK.out]; rfl), below_after (Below.refl _ _) (Nat.le_refl _) H1.out⟩
  · have HK := (show Hid (okB p = true) from hok)
    clear hok
    obtain ⟨hc3, hb4, hn, hbo⟩ := ok_cells HK.out
    have HN := (show Hid (∀ k, k ∈ p.cells → _) from hn)
    have HBO := (show Hid (∀ i, i < p.bodies.length → _) from hbo)
    obtain ⟨D, hD⟩ : ∃ D, D = bs (nuT p.cells) := ⟨_, rfl⟩
    have hDs : D.size ≤ 100 := by have := nuT_len p.cells; rw [hD, bs_size]; omega
    have HD := (show Hid (D = _) from hD)
    have a1 : ¬ (9223372036854775807 < 5 + D.size) := by omega
    have a2 : ¬ (9223372036854775807 < 5 + D.size + 1) := by omega
    clear hn hbo hD
    go_enter Tryz.func7, Tryz.ntmps7
    go_wp2_with (first | (go_at_call 13; refine (progOk_any p _ _ _ HC.out HB.out).mono ?_; rintro e w1 ⟨he, hb1⟩; rw [HK.out] at he; subst he; have H1 := (show Hid (Below _ _ _) from hb1); have e0 : w1.cell? ⟨w.heap.size, 0, none⟩ = some (.slice ac p.cells.length cc) := (by rw [hb1.cell (p := ⟨w.heap.size, 0, none⟩) (by simp)]; simp [go_sem]); have e1 : w1.cell? ⟨w.heap.size, 1, none⟩ = some (.slice ab p.bodies.length cb) := (by rw [hb1.cell (p := ⟨w.heap.size, 1, none⟩) (by simp)]; simp [go_sem]); have hz1 : w.heap.size < w1.heap.size := (by have := hb1.size; simp at this; omega); clear hb1) | (go_at_call 19; refine (numsWritten_any p.cells _ _ (HC.out.mono H1.out) HN.out (by omega)).mono ?_; rintro e w2 ⟨rfl, hb2⟩; rw [← HD.out]; have H2 := (show Hid (Below _ _ _) from hb2); have e20 : w2.cell? ⟨w.heap.size, 1, none⟩ = some (.slice ab p.bodies.length cb) := (hb2.cell (p := ⟨w.heap.size, 1, none⟩) hz1).trans e1; clear hb2))
    have HBv : Hid (BodiesAt w2 (.slice ab p.bodies.length cb) p.bodies) := HB.out.mono (H1.out.trans (H2.out.mono H1.out.size))
    have HW2 : Hid (Below w.heap.size w w2) := below_after (Below.refl _ _) (Nat.le_refl _) (H1.out.trans (H2.out.mono H1.out.size))
    have HS : Hid (ByteArray.mk #[99, 101, 108, 108, 115] ++ D ++ ByteArray.mk #[10] = bs ([99, 101, 108, 108, 115] ++ nuT p.cells ++ [10])) := by
      rw [HD.out, show ByteArray.mk #[99, 101, 108, 108, 115] = bs [99, 101, 108, 108, 115] from rfl, show ByteArray.mk #[10] = bs [10] from rfl, bs_app, bs_app]
      exact (rfl : _ = _)
    have hCl : ([99, 101, 108, 108, 115] ++ nuT p.cells ++ [10]).length ≤ 15 := by have := nuT_len p.cells; simp; omega
    obtain ⟨H, hH⟩ : ∃ H, H = [99, 101, 108, 108, 115] ++ nuT p.cells ++ [10] := ⟨_, rfl⟩
    rw [← hH] at HS hCl
    have HH := (show Hid (H = _) from hH)
    clear hH e0 e1 e20 H1 H2 HB HC a1 a2 hDs
    go_loopw [3, 19] (fun t q w' => ∃ (i : Nat) (T : ByteArray), i ≤ p.bodies.length ∧ q = .int .i64 i ∧ t = .string T ∧ T = bs (H ++ bsT (p.bodies.take i)) ∧ Below w2.heap.size w2 w') (fun _ q _ => p.bodies.length - (intOf q).toNat)
    case atStart => exact ⟨0, _, Nat.zero_le _, rfl, rfl, by rw [HS.out]; simp [bsT], Below.refl _ _⟩
    case round =>
      obtain ⟨i, T, hi, rfl, rfl, hT, hb⟩ := hrel
      have hTs : T.size ≤ 600 := by
        have := bsT_len HK.out i
        rw [hT, bs_size]
        simp
        omega
      have HT := (show Hid (T = _) from hT)
      clear hT
      by_cases hil : i < p.bodies.length
      case neg =>
        have hil' : ¬ (i : Int) < (p.bodies.length : Int) := by omega
        have HE : Hid (T = bs (txT p)) := by
          rw [HT.out, List.take_of_length_le (by omega), HH.out]
          unfold txT prT
          rw [HK.out]
          exact (rfl : _ = _)
        have H4 : Hid (Below w.heap.size w wr) := HW2.out.trans (hb.mono HW2.out.size)
        clear hb
        go_wp2_with fail
        go_ret
        exact ⟨ret_str HE.out, H4.out⟩
      have hil' : (i : Int) < (p.bodies.length : Int) := by omega
      have HE : Hid (bs (H ++ bsT (p.bodies.take (i + 1))) = T ++ bs (boT (nth [] p.bodies i))) := by
        have e := flat_take [] boT p.bodies i hil
        rw [HT.out, bs_app]
        unfold bsT
        rw [e, List.append_assoc]
        exact (rfl : _ = _)
      obtain ⟨hl4, hacts⟩ := boB_acts (HBO.out i hil)
      have HOKA : Hid (∀ a, a ∈ nth [] p.bodies i → a.ds.length ≤ 5 ∧ a.ks.length ≤ 3) := fun a ha => acB_len (hacts a ha)
      have HACT := (show Hid (∀ a, a ∈ nth [] p.bodies i → _) from hacts)
      obtain ⟨ab', cb', hbv', hmb', hbs⟩ := id HBv.out
      obtain ⟨b, off, av, hab, hbw, c0, ha⟩ := hbs i hil
      injection hbv' with e1' _ e3'
      rw [hab] at e1'
      subst e1'
      clear hbs hab e3' hmb' hacts
      obtain ⟨aa, ca, rfl, hma, has⟩ := id ha
      have HAS := (show Hid (∀ j, j < (nth [] p.bodies i).length → _) from has)
      clear ha has
      generalize nth [] p.bodies i = acts at *
      rw [← hb.cell (p := ⟨b, _, none⟩) hbw] at c0
      have hz : b < wr.heap.size := Nat.lt_of_lt_of_le hbw hb.size
      have a3 : ¬ (9223372036854775807 < T.size + 5) := by omega
      have HBr := (show Hid (Below w2.heap.size w2 wr) from hb)
      clear hb
      go_wp2_with fail
      clear c0
      go_loopw [3, 27] (fun t q w' => ∃ (k : Nat) (U : ByteArray), k ≤ acts.length ∧ q = .int .i64 k ∧ t = .string U ∧ U = T ++ bs ([98, 111, 100, 121, 10] ++ asT (acts.take k)) ∧ Below w2.heap.size w2 w') (fun _ q _ => acts.length - (intOf q).toNat)
      case atStart => exact ⟨0, _, Nat.zero_le _, rfl, rfl, by simp [asT]; rfl, HBr.out⟩
      clear HBr
      case round =>
        obtain ⟨k, U, hk, rfl, rfl, hU, hb⟩ := hrel
        have hUs : U.size ≤ 800 := by
          have h1 := asT_len (acts.take k) (fun a ha => HOKA.out a (List.mem_of_mem_take ha))
          have h2 : (acts.take k).length ≤ 4 := by simp; omega
          rw [hU, ByteArray.size_append, bs_size]
          simp
          omega
        have HU := (show Hid (U = _) from hU)
        clear hU
        by_cases hkl : k < acts.length
        case neg =>
          have hkl' : ¬ (k : Int) < (acts.length : Int) := by omega
          have HE2 : Hid (bs (H ++ bsT (p.bodies.take (i + 1))) = U) := by
            rw [HE.out, HU.out, List.take_of_length_le (by omega)]
            exact (rfl : _ = _)
          have H5 := (show Hid (Below _ _ _) from hb)
          clear hb
          go_wp2_with fail
          go_roundw
          case rel => exact ⟨i + 1, _, by omega, by go_num, rfl, HE2.out.symm, H5.out⟩
          case measure => simp [intOf]; omega
        have hkl' : (k : Int) < (acts.length : Int) := by omega
        obtain ⟨b2, off2, dv, kv, rfl, hb2, d0, d1, d2, d3, hd, hk'⟩ := HAS.out k hkl
        rw [← hb.cell (p := ⟨b2, _, none⟩) hb2] at d0 d1 d2 d3
        obtain ⟨ad, cd, rfl, hmd⟩ := hd.shape
        obtain ⟨ak, ck, rfl, hmk⟩ := hk'.shape
        have HAc := (show Hid (acB (nth Ac.z acts k) p.cells.length i p.bodies.length = true) from HACT.out _ (nth_mem Ac.z acts k hkl))
        have HDD := (show Hid (DeedsAt w2 _ _) from hd)
        have HKK := (show Hid (IntsAt w2 _ _) from hk')
        have hz2 : b2 < wr.heap.size := Nat.lt_of_lt_of_le hb2 hb.size
        have HE3 : Hid (asT (acts.take (k + 1)) = asT (acts.take k) ++ (acT (nth Ac.z acts k) ++ [10])) := flat_take Ac.z (fun a => acT a ++ [10]) acts k hkl
        obtain ⟨D2, hD2⟩ : ∃ D2, D2 = bs (acT (nth Ac.z acts k)) := ⟨_, rfl⟩
        have hD2s : D2.size ≤ 28 := by rw [hD2, bs_size]; exact acT_len (HOKA.out _ (nth_mem Ac.z acts k hkl)).1 (HOKA.out _ (nth_mem Ac.z acts k hkl)).2
        have HD2 := (show Hid (D2 = _) from hD2)
        have HE2 : Hid (T ++ bs ([98, 111, 100, 121, 10] ++ asT (acts.take (k + 1))) = U ++ (D2 ++ ByteArray.mk #[10])) := by
          rw [HU.out, HD2.out, HE3.out, show ByteArray.mk #[10] = bs [10] from rfl, bs_app, ByteArray.append_assoc, bs_app, List.append_assoc]
          exact (rfl : _ = _)
        have a4 : ¬ (9223372036854775807 < D2.size + 1) := by omega
        have a5 : ¬ (9223372036854775807 < U.size + (D2.size + 1)) := by omega
        have HBr := (show Hid (Below w2.heap.size w2 wr) from hb)
        clear hD2 hd hk' hb HE3
        generalize nth Ac.z acts k = x at *
        go_wp2_with (go_at_call 20; refine (actPart_any x _ _ _ (HDD.out.mono (HBr.out.alloc HBr.out.size _)) (HKK.out.mono (HBr.out.alloc HBr.out.size _))).mono ?_; rintro e w3 ⟨rfl, hb3⟩; have H3 := (show Hid (Below _ _ _) from below_after HBr.out HBr.out.size hb3); clear hb3; rcases acV_part (dv := .slice ad x.ds.length cd) (kv := .slice ak x.ks.length ck) HAc.out with ⟨e1, ev⟩ | ⟨e1, ev⟩ | ⟨e1, ev⟩ | ⟨e1, ev⟩ <;> rw [ev] <;> clear ev <;> have HK1 := (show Hid (x.k = _) from e1) <;> clear e1)
        · rcases acB_cases HAc.out with ⟨f1, f2, f3, f4, f5⟩ | ⟨f1, _⟩ | ⟨f1, _⟩ | ⟨f1, _⟩
          case inr.inl => exact absurd (HK1.out.symm.trans f1) (by decide)
          case inr.inr.inl => exact absurd (HK1.out.symm.trans f1) (by decide)
          case inr.inr.inr => exact absurd (HK1.out.symm.trans f1) (by decide)
          have HF5 := (show Hid (∀ d, d ∈ x.ds → _) from f5)
          clear f1 f2 f3 f5
          have HX : Hid (D2 = bs ([116, 114, 121] ++ dsT x.ds)) := by rw [HD2.out, acT_1 HK1.out]; exact (rfl : _ = _)
          refine (wTry_any x.ds _ p.cells.length _ (HDD.out.mono H3.out) HF5.out (by omega) f4).mono ?_
          rintro e w4 ⟨rfl, hb4⟩
          rw [← HX.out]
          have H4 := (show Hid (Below _ _ _) from H3.out.trans (hb4.mono H3.out.size))
          clear hb4 H3 HK1 HX
          go_wp2_with fail
          go_roundw
          case rel => exact ⟨k + 1, _, by omega, by go_num, rfl, HE2.out.symm, H4.out⟩
          case measure => simp [intOf]; omega
        · rcases acB_cases HAc.out with ⟨f1, _⟩ | ⟨f1, f2, f3, f4, f5⟩ | ⟨f1, _⟩ | ⟨f1, _⟩
          case inl => exact absurd (HK1.out.symm.trans f1) (by decide)
          case inr.inr.inl => exact absurd (HK1.out.symm.trans f1) (by decide)
          case inr.inr.inr => exact absurd (HK1.out.symm.trans f1) (by decide)
          have HF5 : Hid (∀ k, k ∈ x.ks → 0 ≤ k ∧ k < 100) := fun k hk => by have := f5 k hk; omega
          clear f1 f2 f3 f5
          have HX : Hid (D2 = bs ([102, 111, 114, 107] ++ nuT x.ks)) := by rw [HD2.out, acT_2 HK1.out]; exact (rfl : _ = _)
          refine (wFork_any x.ks _ _ (HKK.out.mono H3.out) HF5.out (by omega)).mono ?_
          rintro e w4 ⟨rfl, hb4⟩
          rw [← HX.out]
          have H4 := (show Hid (Below _ _ _) from H3.out.trans (hb4.mono H3.out.size))
          clear hb4 H3 HK1 HX
          go_wp2_with fail
          go_roundw
          case rel => exact ⟨k + 1, _, by omega, by go_num, rfl, HE2.out.symm, H4.out⟩
          case measure => simp [intOf]; omega
        · skip
          have HX : Hid (D2 = bs ([102, 97, 105, 108])) := by rw [HD2.out, acT_3 HK1.out]; exact (rfl : _ = _)
          refine (wFail_any _).mono ?_
          rintro e w4 ⟨rfl, hb4⟩
          rw [← HX.out]
          have H4 := (show Hid (Below _ _ _) from H3.out.trans (hb4.mono H3.out.size))
          clear hb4 H3 HK1 HX
          go_wp2_with fail
          go_roundw
          case rel => exact ⟨k + 1, _, by omega, by go_num, rfl, HE2.out.symm, H4.out⟩
          case measure => simp [intOf]; omega
        · rcases acB_cases HAc.out with ⟨f1, _⟩ | ⟨f1, _⟩ | ⟨f1, _⟩ | ⟨f1, f2, f3, f4, f5⟩
          case inl => exact absurd (HK1.out.symm.trans f1) (by decide)
          case inr.inl => exact absurd (HK1.out.symm.trans f1) (by decide)
          case inr.inr.inl => exact absurd (HK1.out.symm.trans f1) (by decide)
          clear f1 f2 f3
          have HX : Hid (D2 = bs ([102, 97, 105, 108, 105, 102, 32] ++ reT x.r)) := by rw [HD2.out, acT_4 HK1.out]; exact (rfl : _ = _)
          refine (wFailIf_any x.r f4 f5 _).mono ?_
          rintro e w4 ⟨rfl, hb4⟩
          rw [← HX.out]
          have H4 := (show Hid (Below _ _ _) from H3.out.trans (hb4.mono H3.out.size))
          clear hb4 H3 HK1 HX
          go_wp2_with fail
          go_roundw
          case rel => exact ⟨k + 1, _, by omega, by go_num, rfl, HE2.out.symm, H4.out⟩
          case measure => simp [intOf]; omega

end Go.Proofs.YtliakmgombpjpaaGreatDoor
