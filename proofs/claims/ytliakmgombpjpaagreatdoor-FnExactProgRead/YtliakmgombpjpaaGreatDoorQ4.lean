import Derived.Test.YtliakmgombpjpaaGreatDoorQ3
namespace Go.Proofs.YtliakmgombpjpaaGreatDoor
open Go.RowKit
set_option linter.unusedSimpArgs false
set_option linter.unusedVariables false

theorem l1Say_any (x : Ac) (dv kv : Value) (nc body nb : Int) (w : World) (hd : DeedsAt w dv x.ds) (hk : IntsAt w kv x.ks) (h : acB x nc body nb = true) (hnc : nc ≤ 3) (hb0 : 0 ≤ body) (hnb : nb ≤ 4) :
    Calls Tryz.prog 23 #[.agg #[.int .i64 x.k, dv, kv, .int .i64 x.r]] w fun e w' => e = .returned (.string (bs (acT x))) ∧ Below w.heap.size w w' := by
  obtain ⟨ad, cd, rfl, hmd⟩ := hd.shape
  obtain ⟨ak, ck, rfl, hmk⟩ := hk.shape
  rcases acB_cases h with ⟨e1, e2, e3, e4, e5⟩ | ⟨e1, e2, e3, e4, e5⟩ | ⟨e1, e2, e3, e4⟩ | ⟨e1, e2, e3, e4, e5⟩
  · rw [acT_1 e1, e1, e2, e3]
    exact l1Say_1 ad ak cd ck w x.ds nc hnc e4 hd e5
  · rw [acT_2 e1, e1, e2, e3]
    exact l1Say_2 ad ak cd ck w x.ks (by omega) hk (fun k hk => by have := e5 k hk; omega)
  · rw [acT_3 e1, e1, e2, e3, e4]
    exact l1Say_3 ad ak cd ck w
  · rw [acT_4 e1, e1, e2, e3]
    exact l1Say_4 ad ak cd ck w x.r e4 e5

set_option maxHeartbeats 4000000 in
theorem sProgText_any (p : Pr) (cv bv : Value) (w : World) (hc : IntsAt w cv p.cells) (hB : BodiesAt w bv p.bodies) :
    Calls Tryz.prog 8 #[.agg #[cv, bv]] w fun e w' => e = .returned (.string (bs (txT p))) ∧ Below w.heap.size w w' := by
  obtain ⟨ac, cc, rfl, hmc⟩ := hc.shape
  obtain ⟨ab, cb, rfl, hmb⟩ := hB.shape
  have HC : Hid (IntsAt (w.alloc (.cells #[.slice ac p.cells.length cc, .slice ab p.bodies.length cb] 26)) (.slice ac p.cells.length cc) p.cells) := hc.mono (by repeat (first | exact Below.refl _ _ | refine Below.alloc ?_ (by simp; try omega) _ | refine Below.drew ?_ | refine Below.setCell ?_ (by simp; try omega) _))
  have HB : Hid (BodiesAt (w.alloc (.cells #[.slice ac p.cells.length cc, .slice ab p.bodies.length cb] 26)) (.slice ab p.bodies.length cb) p.bodies) := hB.mono (by repeat (first | exact Below.refl _ _ | refine Below.alloc ?_ (by simp; try omega) _ | refine Below.drew ?_ | refine Below.setCell ?_ (by simp; try omega) _))
  clear hc hB
  cases hok : okB p
  · have HK := (show Hid (okB p = false) from hok)
    clear hok
    go_enter Tryz.func8, Tryz.ntmps8
    go_wp2_with (go_at_call 21; refine (sProgOk_any p _ _ _ HC.out HB.out).mono ?_; rintro e w1 ⟨he, hb1⟩; rw [HK.out] at he; subst he; have H1 := (show Hid (Below _ _ _) from hb1); clear hb1)
    go_ret
    exact ⟨ret_str (by unfold txT; rw [HK.out]; rfl), below_after (Below.refl _ _) (Nat.le_refl _) H1.out⟩
  · have HK := (show Hid (okB p = true) from hok)
    clear hok
    obtain ⟨hc3, hb4, hn, hbo⟩ := ok_cells HK.out
    have HN := (show Hid (∀ k, k ∈ p.cells → _) from hn)
    have HBO := (show Hid (∀ i, i < p.bodies.length → _) from hbo)
    clear hn hbo
    go_enter Tryz.func8, Tryz.ntmps8
    go_wp2_with (go_at_call 21; refine (sProgOk_any p _ _ _ HC.out HB.out).mono ?_; rintro e w1 ⟨he, hb1⟩; rw [HK.out] at he; subst he; have H1 := (show Hid (Below _ _ _) from hb1); have e0 : w1.cell? ⟨w.heap.size, 0, none⟩ = some (.slice ac p.cells.length cc) := (by rw [hb1.cell (p := ⟨w.heap.size, 0, none⟩) (by simp)]; simp [go_sem]); have e1 : w1.cell? ⟨w.heap.size, 1, none⟩ = some (.slice ab p.bodies.length cb) := (by rw [hb1.cell (p := ⟨w.heap.size, 1, none⟩) (by simp)]; simp [go_sem]); have hz1 : w.heap.size < w1.heap.size := (by have := hb1.size; simp at this; omega); clear hb1)
    have HW1 : Hid (Below w.heap.size w w1) := below_after (Below.refl _ _) (Nat.le_refl _) H1.out
    have HCv : Hid (IntsAt w1 (.slice ac p.cells.length cc) p.cells) := HC.out.mono H1.out
    have HBv : Hid (BodiesAt w1 (.slice ab p.bodies.length cb) p.bodies) := HB.out.mono H1.out
    obtain ⟨ac', cc', hv', hmc', hcs⟩ := id HCv.out
    injection hv' with e1' _ e3'
    subst e1' e3'
    have HCS := (show Hid (∀ i, i < p.cells.length → _) from hcs)
    clear H1 HC HB HCv hcs hmc'
    go_loopw [3, 4] (fun t q w' => ∃ (k : Nat) (T : ByteArray), k ≤ p.cells.length ∧ q = .int .i64 k ∧ t = .string T ∧ T = bs ([99, 101, 108, 108, 115] ++ nuT (p.cells.take k)) ∧ Below w1.heap.size w1 w') (fun _ q _ => p.cells.length - (intOf q).toNat)
    case atStart => exact ⟨0, _, Nat.zero_le _, rfl, rfl, rfl, Below.refl _ _⟩
    case round =>
      obtain ⟨k, T, hk, rfl, rfl, hT, hb⟩ := hrel
      have hTs : T.size ≤ 100 := by
        have := nuT_len (p.cells.take k)
        rw [hT, bs_size]
        simp at this ⊢
        omega
      have HT := (show Hid (T = _) from hT)
      have f0 : wr.cell? ⟨w.heap.size, 0, none⟩ = some (.slice ac p.cells.length cc) := (hb.cell (p := ⟨w.heap.size, 0, none⟩) hz1).trans e0
      have f1 : wr.cell? ⟨w.heap.size, 1, none⟩ = some (.slice ab p.bodies.length cb) := (hb.cell (p := ⟨w.heap.size, 1, none⟩) hz1).trans e1
      have hz : w.heap.size < wr.heap.size := Nat.lt_of_lt_of_le hz1 hb.size
      clear hT
      by_cases hlt : k < p.cells.length
      · have hlt' : (k : Int) < (p.cells.length : Int) := by omega
        obtain ⟨b, off, rfl, hbw, c0⟩ := HCS.out k hlt
        rw [← hb.cell (p := ⟨b, _, none⟩) hbw] at c0
        obtain ⟨n, hn, hn1⟩ := num_nat (HN.out _ (nth_mem 0 p.cells k hlt))
        rw [hn] at c0
        obtain ⟨D, hD⟩ : ∃ D, D = bs (decT (n : Int)) := ⟨_, rfl⟩
        have hDs : D.size ≤ 2 := by rw [hD, bs_size]; exact decT_len _
        have HD := (show Hid (D = _) from hD)
        have HE0 : bs ([99, 101, 108, 108, 115] ++ nuT (p.cells.take (k + 1))) = T ++ ByteArray.mk #[32] ++ D := by
          have e := flat_take 0 (fun k => [32] ++ decT k) p.cells k hlt
          rw [hn] at e
          rw [HT.out, HD.out, show ByteArray.mk #[32] = bs [32] from rfl, bs_app, bs_app]
          unfold nuT
          rw [e]
          simp [List.append_assoc]
        have HE := (show Hid (_ = _) from HE0)
        have a1 : ¬ (9223372036854775807 < T.size + 1) := by omega
        have a2 : ¬ (9223372036854775807 < T.size + 1 + D.size) := by omega
        have hz2 : b < wr.heap.size := Nat.lt_of_lt_of_le hbw hb.size
        have H1 := (show Hid (Below _ _ _) from hb)
        clear hD hb HE0 hn
        go_wp2_with (go_at_call 22; refine (l6Dec_any n hn1 _).mono ?_; rintro e w2 ⟨rfl, hb2⟩; rw [← HD.out]; have H2 := (show Hid (Below w1.heap.size w1 w2) from H1.out.trans (hb2.mono H1.out.size)); clear hb2)
        go_roundw
        case rel => exact ⟨k + 1, _, by omega, by go_num, rfl, HE.out.symm, H2.out⟩
        case measure => simp [intOf]; omega
      have hlt' : ¬ (k : Int) < (p.cells.length : Int) := by omega
      have a3 : ¬ (9223372036854775807 < T.size + 1) := by omega
      obtain ⟨H, hH⟩ : ∃ H, H = [99, 101, 108, 108, 115] ++ nuT p.cells ++ [10] := ⟨_, rfl⟩
      have hCl : H.length ≤ 15 := by have := nuT_len p.cells; rw [hH]; simp; omega
      have HS : Hid (T ++ ByteArray.mk #[10] = bs H) := by
        rw [HT.out, List.take_of_length_le (by omega), show ByteArray.mk #[10] = bs [10] from rfl, bs_app, hH]
        exact (rfl : _ = _)
      have HH := (show Hid (H = _) from hH)
      have HB1 := (show Hid (Below w1.heap.size w1 wr) from hb)
      clear hH hb HT
      go_wp2_with fail
      clear f0 f1 hz
      go_loopw [3, 5] (fun t q w' => ∃ (i : Nat) (T : ByteArray), i ≤ p.bodies.length ∧ q = .int .i64 i ∧ t = .string T ∧ T = bs (H ++ bsT (p.bodies.take i)) ∧ Below w1.heap.size w1 w') (fun _ q _ => p.bodies.length - (intOf q).toNat)
      case atStart => exact ⟨0, _, Nat.zero_le _, rfl, rfl, by rw [HS.out]; simp [bsT], HB1.out⟩
      clear HB1
      case round =>
        obtain ⟨i, T, hi, rfl, rfl, hT, hb⟩ := hrel
        have hTs : T.size ≤ 600 := by
          have := bsT_len HK.out i
          rw [hT, bs_size]
          simp
          omega
        have HT := (show Hid (T = _) from hT)
        have f0 : wr.cell? ⟨w.heap.size, 0, none⟩ = some (.slice ac p.cells.length cc) := (hb.cell (p := ⟨w.heap.size, 0, none⟩) hz1).trans e0
        have f1 : wr.cell? ⟨w.heap.size, 1, none⟩ = some (.slice ab p.bodies.length cb) := (hb.cell (p := ⟨w.heap.size, 1, none⟩) hz1).trans e1
        have hz : w.heap.size < wr.heap.size := Nat.lt_of_lt_of_le hz1 hb.size
        clear hT
        by_cases hil : i < p.bodies.length
        case neg =>
          have hil' : ¬ (i : Int) < (p.bodies.length : Int) := by omega
          have HE : Hid (T = bs (txT p)) := by
            rw [HT.out, List.take_of_length_le (by omega), HH.out]
            unfold txT prT
            rw [HK.out]
            exact (rfl : _ = _)
          have H4 : Hid (Below w.heap.size w wr) := HW1.out.trans (hb.mono HW1.out.size)
          clear hb
          go_wp2_with fail
          go_ret
          exact ⟨ret_str HE.out, H4.out⟩
        have hil' : (i : Int) < (p.bodies.length : Int) := by omega
        have HE : Hid (bs (H ++ bsT (p.bodies.take (i + 1))) = T ++ bs (boT (nth [] p.bodies i))) := by
          have e := flat_take [] boT p.bodies i hil
          rw [HT.out, bs_app]
          unfold bsT
          rw [e, List.append_assoc]
          exact (rfl : _ = _)
        obtain ⟨hl4, hacts⟩ := boB_acts (HBO.out i hil)
        have HOKA : Hid (∀ a, a ∈ nth [] p.bodies i → a.ds.length ≤ 5 ∧ a.ks.length ≤ 3) := fun a ha => acB_len (hacts a ha)
        have HACT := (show Hid (∀ a, a ∈ nth [] p.bodies i → _) from hacts)
        obtain ⟨ab', cb', hbv', hmb', hbs⟩ := id HBv.out
        obtain ⟨b, off, av, hab, hbw, c0, ha⟩ := hbs i hil
        injection hbv' with e1' _ e3'
        rw [hab] at e1'
        subst e1'
        clear hbs hab e3' hmb' hacts
        obtain ⟨aa, ca, rfl, hma, has⟩ := id ha
        have HAS := (show Hid (∀ j, j < (nth [] p.bodies i).length → _) from has)
        clear ha has
        generalize nth [] p.bodies i = acts at *
        have a3 : ¬ (9223372036854775807 < T.size + 5) := by omega
        have HBr := (show Hid (Below w1.heap.size w1 wr) from hb)
        clear hb
        go_wp2_with fail
        clear f0 f1 hz
        go_loopw [3, 6] (fun t q w' => ∃ (k : Nat) (U : ByteArray), k ≤ acts.length ∧ q = .int .i64 k ∧ t = .string U ∧ U = T ++ bs ([98, 111, 100, 121, 10] ++ asT (acts.take k)) ∧ Below w1.heap.size w1 w') (fun _ q _ => acts.length - (intOf q).toNat)
        case atStart => exact ⟨0, _, Nat.zero_le _, rfl, rfl, by simp [asT]; rfl, HBr.out⟩
        clear HBr
        case round =>
          obtain ⟨k, U, hk, rfl, rfl, hU, hb⟩ := hrel
          have hUs : U.size ≤ 800 := by
            have h1 := asT_len (acts.take k) (fun a ha => HOKA.out a (List.mem_of_mem_take ha))
            have h2 : (acts.take k).length ≤ 4 := by simp; omega
            rw [hU, ByteArray.size_append, bs_size]
            simp
            omega
          have HU := (show Hid (U = _) from hU)
          have f1 : wr.cell? ⟨w.heap.size, 1, none⟩ = some (.slice (some ⟨b, off, none⟩) p.bodies.length cb) := (hb.cell (p := ⟨w.heap.size, 1, none⟩) hz1).trans e1
          have hz : w.heap.size < wr.heap.size := Nat.lt_of_lt_of_le hz1 hb.size
          have g0 : wr.cell? ⟨b, off + i, none⟩ = some (.slice aa acts.length ca) := (hb.cell (p := ⟨b, _, none⟩) hbw).trans c0
          have hzb : b < wr.heap.size := Nat.lt_of_lt_of_le hbw hb.size
          clear hU
          by_cases hkl : k < acts.length
          case neg =>
            have hkl' : ¬ (k : Int) < (acts.length : Int) := by omega
            have HE2 : Hid (bs (H ++ bsT (p.bodies.take (i + 1))) = U) := by
              rw [HE.out, HU.out, List.take_of_length_le (by omega)]
              exact (rfl : _ = _)
            have H5 := (show Hid (Below _ _ _) from hb)
            clear hb
            go_wp2_with fail
            go_roundw
            case rel => exact ⟨i + 1, _, by omega, by go_num, rfl, HE2.out.symm, H5.out⟩
            case measure => simp [intOf]; omega
          have hkl' : (k : Int) < (acts.length : Int) := by omega
          obtain ⟨b2, off2, dv, kv, rfl, hb2, d0, d1, d2, d3, hd, hk'⟩ := HAS.out k hkl
          rw [← hb.cell (p := ⟨b2, _, none⟩) hb2] at d0 d1 d2 d3
          obtain ⟨ad, cd, rfl, hmd⟩ := hd.shape
          obtain ⟨ak, ck, rfl, hmk⟩ := hk'.shape
          have HAc := (show Hid (acB (nth Ac.z acts k) p.cells.length i p.bodies.length = true) from HACT.out _ (nth_mem Ac.z acts k hkl))
          have HDD := (show Hid (DeedsAt wr _ _) from hd.mono hb)
          have HKK := (show Hid (IntsAt wr _ _) from hk'.mono hb)
          have hz2 : b2 < wr.heap.size := Nat.lt_of_lt_of_le hb2 hb.size
          have HE3 : Hid (asT (acts.take (k + 1)) = asT (acts.take k) ++ (acT (nth Ac.z acts k) ++ [10])) := flat_take Ac.z (fun a => acT a ++ [10]) acts k hkl
          obtain ⟨D2, hD2⟩ : ∃ D2, D2 = bs (acT (nth Ac.z acts k)) := ⟨_, rfl⟩
          have hD2s : D2.size ≤ 28 := by rw [hD2, bs_size]; exact acT_len (HOKA.out _ (nth_mem Ac.z acts k hkl)).1 (HOKA.out _ (nth_mem Ac.z acts k hkl)).2
          have HD2 := (show Hid (D2 = _) from hD2)
          have HE2 : Hid (T ++ bs ([98, 111, 100, 121, 10] ++ asT (acts.take (k + 1))) = U ++ D2 ++ ByteArray.mk #[10]) := by
            rw [HU.out, HD2.out, HE3.out, show ByteArray.mk #[10] = bs [10] from rfl, ByteArray.append_assoc, ByteArray.append_assoc, bs_app, bs_app, List.append_assoc]
            exact (rfl : _ = _)
          have a4 : ¬ (9223372036854775807 < U.size + D2.size) := by omega
          have a5 : ¬ (9223372036854775807 < U.size + D2.size + 1) := by omega
          have HBr := (show Hid (Below w1.heap.size w1 wr) from hb)
          clear hD2 hd hk' hb HE3
          generalize nth Ac.z acts k = x at *
          go_wp2_with (go_at_call 23; refine (l1Say_any x _ _ p.cells.length i p.bodies.length _ HDD.out HKK.out HAc.out (by omega) (by omega) (by omega)).mono ?_; rintro e w3 ⟨rfl, hb3⟩; rw [← HD2.out]; have H3 := (show Hid (Below w1.heap.size w1 w3) from HBr.out.trans (hb3.mono HBr.out.size)); clear hb3)
          go_roundw
          case rel => exact ⟨k + 1, _, by omega, by go_num, rfl, HE2.out.symm, H3.out⟩
          case measure => simp [intOf]; omega

end Go.Proofs.YtliakmgombpjpaaGreatDoor
