import Derived.Test.YtcdldgppjmpbpaaD16
namespace Go.Proofs.Ytcdldgppjmpbpaa
open Go.RowKit
set_option linter.unusedSimpArgs false
set_option linter.unusedVariables false

theorem tree_kid {p : Pr} (h : okB p = true) (m : Nat) (hm : m < p.bodies.length) : treeI p (m : Int) = (tr p 4 m : Nat) := by
  unfold treeI
  rw [if_pos (by rw [h]; simp [plB]; omega)]
  rfl
theorem tree_cases (p : Pr) (body : Int) : treeI p body = -1 ∨ (okB p = true ∧ ∃ m : Nat, body = m ∧ m < p.bodies.length) := by
  by_cases h : (okB p && plB body p.bodies.length) = true
  · right
    simp only [Bool.and_eq_true] at h
    have h2 := h.2
    simp [plB] at h2
    exact ⟨h.1, body.toNat, by omega, by omega⟩
  · left
    unfold treeI
    rw [if_neg h]
theorem ok_form {p : Pr} (h : okB p = true) : Form p ∧ 1 ≤ p.bodies.length ∧ tr p 4 0 ≤ 7 := by
  have h0 := h
  unfold okB at h
  simp only [Bool.and_eq_true, decide_eq_true_eq] at h
  exact ⟨(foB_form h.1).1, (foB_form h.1).2, h.2⟩

set_option maxHeartbeats 2000000 in
theorem fnProgTree_walk (a : Option Addr) (n cap : Nat) (w : World) (h : Bytes w a n) (hc : n ≤ cap) (hn : cap ≤ 9223372036854775807) :
    Calls Try.prog 3 #[.slice a n cap] w fun e w' => e = .returned (.bool true) ∧ Below w.heap.size w w' := by
  by_cases hbig : 1048576 < n
  · have hb' : (1048576 : Int) < (n : Int) := by omega
    clear h
    go_enter Try.func3, Try.ntmps3
    go_wp2_with fail
    go_ret
    exact ⟨rfl, Below.refl _ _⟩
  have hb' : ¬ (1048576 : Int) < (n : Int) := by omega
  have HY := (show Hid (Bytes _ _ _) from h)
  clear h
  go_enter Try.func3, Try.ntmps3
  go_wp2_with (go_at_call 8; refine (drawProgTree_any a n cap w HY.out hc hn).mono ?_; rintro e w1 ⟨pr, cv, bv, body, rfl, hI, hB, hl10, hb1⟩; have HI1 : Hid (IntsAt w1 cv pr.cells) := hI; have HB1 : Hid (BodiesAt w1 bv pr.bodies) := hB; have HL1 : Hid (Below w.heap.size w w1) := hb1; obtain ⟨ac, cc, hcv, _⟩ := hI.shape; obtain ⟨ab, cb, hbv, _⟩ := hB.shape; subst hcv hbv; clear hI hB hb1)
  have HS : Hid (PBox (w1.alloc (.cells #[.slice ac pr.cells.length cc, .slice ab pr.bodies.length cb] 26)) w1.heap.size (.slice ac pr.cells.length cc) (.slice ab pr.bodies.length cb) ∧ IntsAt (w1.alloc (.cells #[.slice ac pr.cells.length cc, .slice ab pr.bodies.length cb] 26)) (.slice ac pr.cells.length cc) pr.cells ∧ BodiesAt (w1.alloc (.cells #[.slice ac pr.cells.length cc, .slice ab pr.bodies.length cb] 26)) (.slice ab pr.bodies.length cb) pr.bodies ∧ Below w.heap.size w (w1.alloc (.cells #[.slice ac pr.cells.length cc, .slice ab pr.bodies.length cb] 26))) :=
    ⟨heap_alloc_new w1 _, HI1.out.mono ((Below.refl _ _).alloc (Nat.le_refl _) _), HB1.out.mono ((Below.refl _ _).alloc (Nat.le_refl _) _), HL1.out.alloc HL1.out.size _⟩
  clear HI1 HB1 HL1 HY
  generalize w1.alloc (.cells #[.slice ac pr.cells.length cc, .slice ab pr.bodies.length cb] 26) = V at HS ⊢
  generalize w1.heap.size = P at HS ⊢
  obtain ⟨hP, hI, hB, hL⟩ := HS.out
  have hPlt := hP.lt
  obtain ⟨e0, e1, _, _⟩ := hP.cells
  have HI := (show Hid (IntsAt _ _ _) from hI)
  have HB := (show Hid (BodiesAt _ _ _) from hB)
  have HL := (show Hid (Below _ _ _) from hL)
  have hsz := hL.size
  clear HS hP hI hB hL
  rcases tree_cases pr body with ht | ⟨hok, m, rfl, hm⟩
  · have HT := (show Hid (treeI pr body = -1) from ht)
    clear ht
    refine (progTree_any pr _ _ body _ HI.out HB.out).mono ?_
    rintro e w2 ⟨he, hb2⟩
    rw [HT.out] at he
    subst he
    have c20 : w2.cell? ⟨P, 0, none⟩ = some (.slice ac pr.cells.length cc) := (hb2.cell (p := ⟨P, 0, none⟩) hPlt).trans e0
    have c21 : w2.cell? ⟨P, 1, none⟩ = some (.slice ab pr.bodies.length cb) := (hb2.cell (p := ⟨P, 1, none⟩) hPlt).trans e1
    have H2 := (show Hid (Below _ _ _) from hb2)
    clear hb2
    go_wp2_with fail
    refine (sProgTree_any pr _ _ body _ (HI.out.mono H2.out) (HB.out.mono H2.out)).mono ?_
    rintro e w3 ⟨he, hb3⟩
    rw [HT.out] at he
    subst he
    have H3 : Hid (Below V.heap.size V w3) := H2.out.trans (hb3.mono H2.out.size)
    have c30 : w3.cell? ⟨P, 0, none⟩ = some (.slice ac pr.cells.length cc) := (H3.out.cell (p := ⟨P, 0, none⟩) hPlt).trans e0
    have c31 : w3.cell? ⟨P, 1, none⟩ = some (.slice ab pr.bodies.length cb) := (H3.out.cell (p := ⟨P, 1, none⟩) hPlt).trans e1
    clear hb3
    go_wp2_with fail
    refine (sProgTree_any pr _ _ body _ (HI.out.mono H3.out) (HB.out.mono H3.out)).mono ?_
    rintro e w4 ⟨he, hb4⟩
    rw [HT.out] at he
    subst he
    have H4 : Hid (Below w.heap.size w w4) := HL.out.trans ((H3.out.mono hsz).trans (hb4.mono (Nat.le_trans hsz H3.out.size)))
    clear hb4
    go_wp2_with fail
    go_ret
    exact ⟨rfl, H4.out⟩
  · obtain ⟨hform, hb1', htop⟩ := ok_form hok
    have HOK := (show Hid (okB pr = true) from hok)
    have HT : Hid (treeI pr (m : Int) = (tr pr 4 m : Nat)) := tree_kid hok m hm
    have HT0 : Hid (treeI pr (0 : Int) = (tr pr 4 0 : Nat)) := tree_kid hok 0 (by omega)
    obtain ⟨hl4, hacts⟩ := boB_acts (hform.2 m hm)
    have hbd := tr_le hform 4
    obtain ⟨ab', cb', hbv', hmb, hbs⟩ := id HB.out
    obtain ⟨b, off, av, hab, hbw, c0, ha⟩ := hbs m hm
    injection hbv' with e1' _ e3'
    rw [hab] at e1'
    subst e1'
    clear hbs hab e3' hmb
    obtain ⟨aa, ca, rfl, hma, has⟩ := id ha
    have HE : Hid (tr pr 4 m = 1 + trAs (tr pr 4) (nth [] pr.bodies m)) := tr_four hform m hm
    have HKS : Hid (∀ a, a ∈ nth [] pr.bodies m → a.ks.length ≤ 2 ∧ ∀ k, k ∈ a.ks → (m : Int) < k ∧ k < pr.bodies.length) := fun a ha => acB_ks (hacts a ha)
    have HBD : Hid (∀ i, tr pr 4 i ≤ 6561) := fun i => Nat.le_trans (hbd i) (pow_le4 (by omega))
    have HAS := (show Hid (∀ i, i < (nth [] pr.bodies m).length → _) from has)
    have hm1 : (m : Int) < (pr.bodies.length : Int) := by omega
    have hb4 := hform.1
    clear hok hform hacts hbd ha has
    generalize nth [] pr.bodies m = acts at *
    obtain ⟨N, hN⟩ : ∃ N : Int, N = (tr pr 4 m : Nat) := ⟨_, rfl⟩
    rw [← hN] at HT
    have HN := (show Hid (N = (tr pr 4 m : Nat)) from hN)
    have hN0 : 0 ≤ N := by omega
    clear hN
    refine (progTree_any pr _ _ (m : Int) _ HI.out HB.out).mono ?_
    rintro e w2 ⟨he, hb2⟩
    rw [HT.out] at he
    subst he
    have c20 : w2.cell? ⟨P, 0, none⟩ = some (.slice ac pr.cells.length cc) := (hb2.cell (p := ⟨P, 0, none⟩) hPlt).trans e0
    have c21 : w2.cell? ⟨P, 1, none⟩ = some (.slice (some ⟨b, off, none⟩) pr.bodies.length cb) := (hb2.cell (p := ⟨P, 1, none⟩) hPlt).trans e1
    have H2 := (show Hid (Below _ _ _) from hb2)
    clear hb2
    go_wp2_with fail
    refine (sProgTree_any pr _ _ (m : Int) _ (HI.out.mono H2.out) (HB.out.mono H2.out)).mono ?_
    rintro e w3 ⟨he, hb3⟩
    rw [HT.out] at he
    subst he
    have H3 : Hid (Below V.heap.size V w3) := H2.out.trans (hb3.mono H2.out.size)
    have hN1 : ¬ N < 0 := by omega
    clear hb3 c20 c21 H2
    go_wp2_with fail
    go_loopw [6, 7] (fun t q w' => ∃ (k : Nat) (T : Int), k ≤ acts.length ∧ q = .int .i64 k ∧ t = .int .i64 T ∧ T = ((1 + trAs (tr pr 4) (acts.take k) : Nat) : Int) ∧ Below V.heap.size V w') (fun _ q _ => acts.length - (intOf q).toNat)
    case atStart => exact ⟨0, 1, Nat.zero_le _, rfl, rfl, by simp [trAs], H3.out⟩
    clear H3
    case round =>
      obtain ⟨k, T, hk, rfl, rfl, hT, hb⟩ := hrel
      have HTe := (show Hid (T = _) from hT)
      clear hT
      have cP0 : wr.cell? ⟨P, 0, none⟩ = some (.slice ac pr.cells.length cc) := (hb.cell (p := ⟨P, 0, none⟩) hPlt).trans e0
      have cP1 : wr.cell? ⟨P, 1, none⟩ = some (.slice (some ⟨b, off, none⟩) pr.bodies.length cb) := (hb.cell (p := ⟨P, 1, none⟩) hPlt).trans e1
      have cA : wr.cell? ⟨b, off + m, none⟩ = some (.slice aa acts.length ca) := (hb.cell (p := ⟨b, _, none⟩) hbw).trans c0
      have hbs := hb.size
      by_cases hkl : k < acts.length
      case neg =>
        have hkl' : ¬ (k : Int) < (acts.length : Int) := by omega
        have hTN : T = N := by
          rw [HTe.out, HN.out, HE.out, List.take_of_length_le (by omega)]
        subst hTN
        have H5 := (show Hid (Below _ _ _) from hb)
        clear hb
        go_wp2_with fail
        refine (progTree_any pr _ _ 0 _ (HI.out.mono H5.out) (HB.out.mono H5.out)).mono ?_
        rintro e w6 ⟨he, hb6⟩
        rw [HT0.out] at he
        subst he
        have H6 : Hid (Below w.heap.size w w6) := HL.out.trans ((H5.out.mono hsz).trans (hb6.mono (Nat.le_trans hsz H5.out.size)))
        clear hb6
        have htop' : ((tr pr 4 0 : Nat) : Int) ≤ 7 := by omega
        generalize ((tr pr 4 0 : Nat) : Int) = t0 at htop' ⊢
        go_wp2_with fail
        go_ret
        exact ⟨rfl, H6.out⟩
      have hkl' : (k : Int) < (acts.length : Int) := by omega
      obtain ⟨b2, off2, dv, kv, rfl, hb2, d0, d1, d2, d3, hd, hk'⟩ := HAS.out k hkl
      rw [← hb.cell (p := ⟨b2, _, none⟩) hb2] at d2
      obtain ⟨ak, ck, rfl, hmk, hks3⟩ := id hk'
      have hz2 : b2 < wr.heap.size := by omega
      have hsn := take_nth Ac.z acts k hkl
      have HSn : Hid (trAs (tr pr 4) (acts.take (k + 1)) = trAs (tr pr 4) (acts.take k) + trKs (tr pr 4) (nth Ac.z acts k).ks) := by rw [hsn, trAs_snoc]; rfl
      have HKX : Hid ((nth Ac.z acts k).ks.length ≤ 2 ∧ ∀ x, x ∈ (nth Ac.z acts k).ks → (m : Int) < x ∧ x < pr.bodies.length) := HKS.out _ (nth_mem Ac.z acts k hkl)
      have hAk : trAs (tr pr 4) (acts.take k) ≤ 4 * (2 * 6561) := by
        have := trAs_le HBD.out (acts.take k) (fun a ha => (HKS.out a (List.mem_of_mem_take ha)).1)
        have h3 : (acts.take k).length ≤ 4 := by simp; omega
        exact Nat.le_trans this (Nat.mul_le_mul_right _ h3)
      have HKA := (show Hid (∀ i, i < (nth Ac.z acts k).ks.length → _) from hks3)
      clear hsn d0 d1 d3 hd hk' hks3
      generalize (nth Ac.z acts k).ks = ks at *
      have HBr := (show Hid (Below V.heap.size V wr) from hb)
      clear hb
      go_wp2_with fail
      clear d2 cA cP0 cP1
      go_loopw [6, 9] (fun t q w' => ∃ (j : Nat) (U : Int), j ≤ ks.length ∧ q = .int .i64 j ∧ t = .int .i64 U ∧ U = ((1 + trAs (tr pr 4) (acts.take k) + trKs (tr pr 4) (ks.take j) : Nat) : Int) ∧ Below V.heap.size V w') (fun _ q _ => ks.length - (intOf q).toNat)
      case atStart => exact ⟨0, T, Nat.zero_le _, rfl, rfl, by rw [HTe.out]; simp [trKs], HBr.out⟩
      clear HBr
      case round =>
        obtain ⟨j, U, hj, rfl, rfl, hU, hb⟩ := hrel
        have HUe := (show Hid (U = _) from hU)
        by_cases hjl : j < ks.length
        case neg =>
          have hjl' : ¬ (j : Int) < (ks.length : Int) := by omega
          have H5 := (show Hid (Below _ _ _) from hb)
          have HE2 : Hid (trKs (tr pr 4) (ks.take j) = trKs (tr pr 4) ks) := by rw [List.take_of_length_le (by omega)]; rfl
          clear hb hU
          go_wp2_with fail
          go_roundw
          case rel => exact ⟨k + 1, U, by omega, by go_num, rfl, by rw [HUe.out, HE2.out, HSn.out]; push_cast; omega, H5.out⟩
          case measure => simp [intOf]; omega
        have hjl' : (j : Int) < (ks.length : Int) := by omega
        obtain ⟨b4, off4, rfl, hb4', x0⟩ := HKA.out j hjl
        rw [← hb.cell (p := ⟨b4, _, none⟩) hb4'] at x0
        have hkk := HKX.out.2 _ (nth_mem 0 ks j hjl)
        obtain ⟨kid, hmm⟩ : ∃ kid : Nat, nth 0 ks j = (kid : Int) := ⟨(nth 0 ks j).toNat, by omega⟩
        have hsn := take_nth 0 ks j hjl
        have HS2 : Hid (trKs (tr pr 4) (ks.take (j + 1)) = trKs (tr pr 4) (ks.take j) + tr pr 4 kid) := by
          have : (nth 0 ks j).toNat = kid := by omega
          rw [hsn, trKs_snoc, this]; rfl
        have hKj : trKs (tr pr 4) (ks.take j) ≤ 2 * 6561 := by
          have := trKs_le HBD.out (ks.take j)
          have h3 : (ks.take j).length ≤ 2 := by have := HKX.out.1; simp; omega
          exact Nat.le_trans this (Nat.mul_le_mul_right _ h3)
        have hTm : tr pr 4 kid ≤ 6561 := HBD.out kid
        rw [hmm] at x0 hkk
        have HTk : Hid (treeI pr (kid : Int) = (tr pr 4 kid : Nat)) := tree_kid HOK.out kid (by omega)
        obtain ⟨M, hM⟩ : ∃ M : Int, M = (tr pr 4 kid : Nat) := ⟨_, rfl⟩
        rw [← hM] at HTk
        have HMe := (show Hid (M = _) from hM)
        have hsum : IntKind.i64.wrap (U + M) = U + M := by rw [IntKind.wrap_i64]; omega
        have r0 : wr.cell? ⟨P, 0, none⟩ = some (.slice ac pr.cells.length cc) := (hb.cell (p := ⟨P, 0, none⟩) hPlt).trans e0
        have r1 : wr.cell? ⟨P, 1, none⟩ = some (.slice (some ⟨b, off, none⟩) pr.bodies.length cb) := (hb.cell (p := ⟨P, 1, none⟩) hPlt).trans e1
        have H7 := (show Hid (Below V.heap.size V wr) from hb)
        have HId : Hid (IntsAt wr.drew (.slice ac pr.cells.length cc) pr.cells ∧ BodiesAt wr.drew (.slice (some ⟨b, off, none⟩) pr.bodies.length cb) pr.bodies) := ⟨HI.out.mono hb.drew, HB.out.mono hb.drew⟩
        have hz3 : b4 < wr.heap.size := by have := hb.size; omega
        have hz4 : P < wr.heap.size := by have := hb.size; omega
        clear hsn hmm hb hU hM
        go_wp2_with fail
        go_region_held3 (fun w' => w'.cell? ⟨P, 0, none⟩ = some (.slice ac pr.cells.length cc) ∧ w'.cell? ⟨P, 1, none⟩ = some (.slice (some ⟨b, off, none⟩) pr.bodies.length cb) ∧ w'.cell? ⟨b4, off4 + j, none⟩ = some (.int .i64 (kid : Int))) (first | exact ⟨r50, r51, r52⟩ | exact ⟨r0, r1, x0⟩ | go_keep)
          (first | (go_at_call 9; refine (progTree_any pr _ _ (kid : Int) _ HId.out.1 HId.out.2).mono ?_; rintro e w5 ⟨he, hb5⟩; rw [HTk.out] at he; subst he; have H8 : Hid (Below wr.heap.size wr w5) := (Below.refl _ _).drew.trans hb5; have r50 : w5.cell? ⟨P, 0, none⟩ = some (.slice ac pr.cells.length cc) := (H8.out.cell (p := ⟨P, 0, none⟩) hz4).trans r0; have r51 : w5.cell? ⟨P, 1, none⟩ = some (.slice (some ⟨b, off, none⟩) pr.bodies.length cb) := (H8.out.cell (p := ⟨P, 1, none⟩) hz4).trans r1; have r52 : w5.cell? ⟨b4, off4 + j, none⟩ = some (.int .i64 (kid : Int)) := (H8.out.cell (p := ⟨b4, _, none⟩) hz3).trans x0; have H9 : Hid (Below V.heap.size V w5) := H7.out.trans (H8.out.mono H7.out.size); clear hb5))
        all_goals
          clear r0 r1 x0 r50 r51 r52 H8 H7 HId
          go_wp2_with fail
          go_roundw
          case rel => exact ⟨j + 1, U + M, by omega, by go_num, rfl, by rw [HUe.out, HMe.out, HS2.out]; push_cast; omega, H9.out⟩
          case measure => simp [intOf]; omega

end Go.Proofs.Ytcdldgppjmpbpaa
