import Derived.Test.YtcdldgppjmpbpaaD22
namespace Go.Proofs.Ytcdldgppjmpbpaa
open Go.RowKit
set_option linter.unusedSimpArgs false
set_option linter.unusedVariables false

theorem trKs_mem (g : Nat → Nat) {ks : List Int} {k : Int} (h : k ∈ ks) : g k.toNat ≤ trKs g ks := by
  induction ks with
  | nil => simp at h
  | cons x ks ih =>
    simp only [trKs, List.map_cons, List.sum_cons] at *
    rcases List.mem_cons.1 h with rfl | h
    · omega
    · have := ih h; omega
theorem trAs_mem (g : Nat → Nat) {acts : List Ac} {a : Ac} (h : a ∈ acts) : trKs g a.ks ≤ trAs g acts := by
  induction acts with
  | nil => simp at h
  | cons x acts ih =>
    simp only [trAs, List.map_cons, List.sum_cons] at *
    rcases List.mem_cons.1 h with rfl | h
    · omega
    · have := ih h; omega
/-- a body that is begun is less than that which begins it -/
theorem tr_kid_lt {p : Pr} (hf : Form p) {i : Nat} (hi : i < p.bodies.length) {a : Ac} (ha : a ∈ nth [] p.bodies i) {k : Int} (hk : k ∈ a.ks) : tr p 4 k.toNat < tr p 4 i := by
  rw [tr_four hf i hi]
  have h1 := trKs_mem (tr p 4) hk
  have h2 := trAs_mem (tr p 4) ha
  omega

set_option maxHeartbeats 2000000 in
theorem fnProgKids_walk (a : Option Addr) (n cap : Nat) (w : World) (h : Bytes w a n) (hc : n ≤ cap) (hn : cap ≤ 9223372036854775807) :
    Calls Try.prog 5 #[.slice a n cap] w fun e w' => e = .returned (.bool true) ∧ Below w.heap.size w w' := by
  by_cases hbig : 1048576 < n
  · have hb' : (1048576 : Int) < (n : Int) := by omega
    clear h
    go_enter Try.func5, Try.ntmps5
    go_wp2_with fail
    go_ret
    exact ⟨rfl, Below.refl _ _⟩
  have hb' : ¬ (1048576 : Int) < (n : Int) := by omega
  have HY := (show Hid (Bytes _ _ _) from h)
  clear h
  go_enter Try.func5, Try.ntmps5
  go_wp2_with (go_at_call 11; refine (drawProgOk_any a n cap w HY.out hc hn).mono ?_; rintro e w1 ⟨pr, cv, bv, rfl, hI, hB, hl10, hb1⟩; have HI1 : Hid (IntsAt w1 cv pr.cells) := hI; have HB1 : Hid (BodiesAt w1 bv pr.bodies) := hB; have HL1 : Hid (Below w.heap.size w w1) := hb1; obtain ⟨ac, cc, hcv, _⟩ := hI.shape; obtain ⟨ab, cb, hbv, _⟩ := hB.shape; subst hcv hbv; clear hI hB hb1)
  have HS : Hid (PBox (w1.alloc (.cells #[.slice ac pr.cells.length cc, .slice ab pr.bodies.length cb] 26)) w1.heap.size (.slice ac pr.cells.length cc) (.slice ab pr.bodies.length cb) ∧ IntsAt (w1.alloc (.cells #[.slice ac pr.cells.length cc, .slice ab pr.bodies.length cb] 26)) (.slice ac pr.cells.length cc) pr.cells ∧ BodiesAt (w1.alloc (.cells #[.slice ac pr.cells.length cc, .slice ab pr.bodies.length cb] 26)) (.slice ab pr.bodies.length cb) pr.bodies ∧ Below w.heap.size w (w1.alloc (.cells #[.slice ac pr.cells.length cc, .slice ab pr.bodies.length cb] 26))) :=
    ⟨heap_alloc_new w1 _, HI1.out.mono ((Below.refl _ _).alloc (Nat.le_refl _) _), HB1.out.mono ((Below.refl _ _).alloc (Nat.le_refl _) _), HL1.out.alloc HL1.out.size _⟩
  clear HI1 HB1 HL1 HY
  generalize w1.alloc (.cells #[.slice ac pr.cells.length cc, .slice ab pr.bodies.length cb] 26) = V at HS ⊢
  generalize w1.heap.size = P at HS ⊢
  obtain ⟨hP, hI, hB, hL⟩ := HS.out
  have hPlt := hP.lt
  obtain ⟨e0, e1, _, _⟩ := hP.cells
  have HI := (show Hid (IntsAt _ _ _) from hI)
  have HB := (show Hid (BodiesAt _ _ _) from hB)
  have HL := (show Hid (Below _ _ _) from hL)
  have hsz := hL.size
  clear HS hP hI hB hL
  cases hok : okB pr
  · have HT := (show Hid (okB pr = false) from hok)
    clear hok
    refine (progOk_any pr _ _ _ HI.out HB.out).mono ?_
    rintro e w2 ⟨he, hb2⟩
    rw [HT.out] at he
    subst he
    have c20 : w2.cell? ⟨P, 0, none⟩ = some (.slice ac pr.cells.length cc) := (hb2.cell (p := ⟨P, 0, none⟩) hPlt).trans e0
    have c21 : w2.cell? ⟨P, 1, none⟩ = some (.slice ab pr.bodies.length cb) := (hb2.cell (p := ⟨P, 1, none⟩) hPlt).trans e1
    have H2 := (show Hid (Below _ _ _) from hb2)
    clear hb2
    go_wp2_with fail
    refine (sProgOk_any pr _ _ _ (HI.out.mono H2.out) (HB.out.mono H2.out)).mono ?_
    rintro e w3 ⟨he, hb3⟩
    rw [HT.out] at he
    subst he
    have H3 : Hid (Below V.heap.size V w3) := H2.out.trans (hb3.mono H2.out.size)
    have c30 : w3.cell? ⟨P, 0, none⟩ = some (.slice ac pr.cells.length cc) := (H3.out.cell (p := ⟨P, 0, none⟩) hPlt).trans e0
    have c31 : w3.cell? ⟨P, 1, none⟩ = some (.slice ab pr.bodies.length cb) := (H3.out.cell (p := ⟨P, 1, none⟩) hPlt).trans e1
    clear hb3
    go_wp2_with fail
    refine (sProgOk_any pr _ _ _ (HI.out.mono H3.out) (HB.out.mono H3.out)).mono ?_
    rintro e w4 ⟨he, hb4⟩
    rw [HT.out] at he
    subst he
    have H4 : Hid (Below w.heap.size w w4) := HL.out.trans ((H3.out.mono hsz).trans (hb4.mono (Nat.le_trans hsz H3.out.size)))
    clear hb4
    go_wp2_with fail
    go_ret
    exact ⟨rfl, H4.out⟩
  · obtain ⟨hform, hb1', htop⟩ := ok_form hok
    have HT := (show Hid (okB pr = true) from hok)
    have HF := (show Hid (Form pr) from hform)
    have hb4 := hform.1
    clear hok hform
    refine (progOk_any pr _ _ _ HI.out HB.out).mono ?_
    rintro e w2 ⟨he, hb2⟩
    rw [HT.out] at he
    subst he
    have c20 : w2.cell? ⟨P, 0, none⟩ = some (.slice ac pr.cells.length cc) := (hb2.cell (p := ⟨P, 0, none⟩) hPlt).trans e0
    have c21 : w2.cell? ⟨P, 1, none⟩ = some (.slice ab pr.bodies.length cb) := (hb2.cell (p := ⟨P, 1, none⟩) hPlt).trans e1
    have H2 := (show Hid (Below _ _ _) from hb2)
    clear hb2
    go_wp2_with fail
    refine (sProgOk_any pr _ _ _ (HI.out.mono H2.out) (HB.out.mono H2.out)).mono ?_
    rintro e w3 ⟨he, hb3⟩
    rw [HT.out] at he
    subst he
    have H3 : Hid (Below V.heap.size V w3) := H2.out.trans (hb3.mono H2.out.size)
    clear hb3 c20 c21 H2
    go_wp2_with fail
    go_loopw [5] (fun q w' => ∃ (i : Nat), i ≤ pr.bodies.length ∧ q = .int .i64 i ∧ Below V.heap.size V w') (fun q _ => pr.bodies.length - (intOf q).toNat)
    case atStart => exact ⟨0, Nat.zero_le _, rfl, H3.out⟩
    clear H3
    case round =>
      obtain ⟨i, hi, rfl, hb⟩ := hrel
      have cP1 : wr.cell? ⟨P, 1, none⟩ = some (.slice ab pr.bodies.length cb) := (hb.cell (p := ⟨P, 1, none⟩) hPlt).trans e1
      by_cases hil : i < pr.bodies.length
      case neg =>
        have hil' : ¬ (i : Int) < (pr.bodies.length : Int) := by omega
        have H4 : Hid (Below w.heap.size w wr) := HL.out.trans (hb.mono hsz)
        clear hb
        go_wp2_with fail
        go_ret
        exact ⟨rfl, H4.out⟩
      have hil' : (i : Int) < (pr.bodies.length : Int) := by omega
      obtain ⟨hl4, hacts⟩ := boB_acts (HF.out.2 i hil)
      obtain ⟨ab', cb', hbv', hmb, hbs⟩ := id HB.out
      obtain ⟨b, off, av, hab, hbw, c0, ha⟩ := hbs i hil
      injection hbv' with e1' _ e3'
      rw [hab] at e1'
      subst e1'
      clear hbs hab e3' hmb
      obtain ⟨aa, ca, rfl, hma, has⟩ := id ha
      have HKS : Hid (∀ a, a ∈ nth [] pr.bodies i → a.ks.length ≤ 2 ∧ ∀ k, k ∈ a.ks → (i : Int) < k ∧ k < pr.bodies.length ∧ tr pr 4 k.toNat < tr pr 4 i) := fun a ha => ⟨(acB_ks (hacts a ha)).1, fun k hk => ⟨((acB_ks (hacts a ha)).2 k hk).1, ((acB_ks (hacts a ha)).2 k hk).2, tr_kid_lt HF.out hil ha hk⟩⟩
      have HTi : Hid (treeI pr (i : Int) = (tr pr 4 i : Nat)) := tree_kid HT.out i hil
      have HAS := (show Hid (∀ j, j < (nth [] pr.bodies i).length → _) from has)
      clear hacts ha has
      generalize nth [] pr.bodies i = acts at *
      have HBr := (show Hid (Below V.heap.size V wr) from hb)
      clear hb
      go_wp2_with fail
      clear cP1
      go_loopw [6] (fun q w' => ∃ (k : Nat), k ≤ acts.length ∧ q = .int .i64 k ∧ Below V.heap.size V w') (fun q _ => acts.length - (intOf q).toNat)
      case atStart => exact ⟨0, Nat.zero_le _, rfl, HBr.out⟩
      clear HBr
      case round =>
        obtain ⟨k, hk, rfl, hb⟩ := hrel
        have cP1 : wr.cell? ⟨P, 1, none⟩ = some (.slice (some ⟨b, off, none⟩) pr.bodies.length cb) := (hb.cell (p := ⟨P, 1, none⟩) hPlt).trans e1
        have cA : wr.cell? ⟨b, off + i, none⟩ = some (.slice aa acts.length ca) := (hb.cell (p := ⟨b, _, none⟩) hbw).trans c0
        have hbs := hb.size
        by_cases hkl : k < acts.length
        case neg =>
          have hkl' : ¬ (k : Int) < (acts.length : Int) := by omega
          have H5 := (show Hid (Below _ _ _) from hb)
          clear hb
          go_wp2_with fail
          go_roundw
          case rel => exact ⟨i + 1, by omega, by go_num, H5.out⟩
          case measure => simp [intOf]; omega
        have hkl' : (k : Int) < (acts.length : Int) := by omega
        obtain ⟨b2, off2, dv, kv, rfl, hb2, d0, d1, d2, d3, hd, hk'⟩ := HAS.out k hkl
        rw [← hb.cell (p := ⟨b2, _, none⟩) hb2] at d2
        obtain ⟨ak, ck, rfl, hmk, hks3⟩ := id hk'
        have hz2 : b2 < wr.heap.size := by omega
        have HKX : Hid ((nth Ac.z acts k).ks.length ≤ 2 ∧ ∀ x, x ∈ (nth Ac.z acts k).ks → (i : Int) < x ∧ x < pr.bodies.length ∧ tr pr 4 x.toNat < tr pr 4 i) := HKS.out _ (nth_mem Ac.z acts k hkl)
        have HKA := (show Hid (∀ j, j < (nth Ac.z acts k).ks.length → _) from hks3)
        clear d0 d1 d3 hd hk' hks3
        generalize (nth Ac.z acts k).ks = ks at *
        have HBr := (show Hid (Below V.heap.size V wr) from hb)
        clear hb
        go_wp2_with fail
        clear d2 cA cP1
        go_loopw [8] (fun q w' => ∃ (j : Nat), j ≤ ks.length ∧ q = .int .i64 j ∧ Below V.heap.size V w') (fun q _ => ks.length - (intOf q).toNat)
        case atStart => exact ⟨0, Nat.zero_le _, rfl, HBr.out⟩
        clear HBr
        case round =>
          obtain ⟨j, hj, rfl, hb⟩ := hrel
          by_cases hjl : j < ks.length
          case neg =>
            have hjl' : ¬ (j : Int) < (ks.length : Int) := by omega
            have H5 := (show Hid (Below _ _ _) from hb)
            clear hb
            go_wp2_with fail
            go_roundw
            case rel => exact ⟨k + 1, by omega, by go_num, H5.out⟩
            case measure => simp [intOf]; omega
          have hjl' : (j : Int) < (ks.length : Int) := by omega
          obtain ⟨b4, off4, rfl, hb4', x0⟩ := HKA.out j hjl
          rw [← hb.cell (p := ⟨b4, _, none⟩) hb4'] at x0
          obtain ⟨hk1, hk2, hk3⟩ := HKX.out.2 _ (nth_mem 0 ks j hjl)
          obtain ⟨kid, hmm⟩ : ∃ kid : Nat, nth 0 ks j = (kid : Int) := ⟨(nth 0 ks j).toNat, by omega⟩
          rw [hmm] at x0 hk1 hk2 hk3
          have hk4 : tr pr 4 kid < tr pr 4 i := by simpa using hk3
          have HTk : Hid (treeI pr (kid : Int) = (tr pr 4 kid : Nat)) := tree_kid HT.out kid (by omega)
          obtain ⟨M, hM⟩ : ∃ M : Int, M = (tr pr 4 kid : Nat) := ⟨_, rfl⟩
          obtain ⟨M2, hM2⟩ : ∃ M2 : Int, M2 = (tr pr 4 i : Nat) := ⟨_, rfl⟩
          have HTj : Hid (treeI pr (i : Int) = M2) := by rw [hM2]; exact HTi.out
          rw [← hM] at HTk
          have hcmp : M < M2 := by omega
          have hki : (i : Int) < (kid : Int) := hk1
          have r0 : wr.cell? ⟨P, 0, none⟩ = some (.slice ac pr.cells.length cc) := (hb.cell (p := ⟨P, 0, none⟩) hPlt).trans e0
          have r1 : wr.cell? ⟨P, 1, none⟩ = some (.slice (some ⟨b, off, none⟩) pr.bodies.length cb) := (hb.cell (p := ⟨P, 1, none⟩) hPlt).trans e1
          have H7 := (show Hid (Below V.heap.size V wr) from hb)
          have hz3 : b4 < wr.heap.size := by have := hb.size; omega
          have hz4 : P < wr.heap.size := by have := hb.size; omega
          clear hmm hb hM hM2 hk3 hk4
          go_wp2_with fail
          have HIw : Hid (IntsAt wr (.slice ac pr.cells.length cc) pr.cells) := HI.out.mono H7.out
          have HBw : Hid (BodiesAt wr (.slice (some ⟨b, off, none⟩) pr.bodies.length cb) pr.bodies) := HB.out.mono H7.out
          refine kids_reg17 wr pr P i j kid ks.length ck b4 off4 ac (some ⟨b, off, none⟩) cc cb M M2 HIw HBw r0 r1 x0 hz4 hz3 hjl' hki HTk HTj hcmp _ _ _ _ _ _ _ _ _ _ _ _ _ _ _ _ _ _ _ _ _ _ _ _ _ _ _ _ _ _ _ _ _ _ _ _ _ _ _ _ _ _ _ _ _ _ _ _ _ _ _ _ _ _ _ _ _ _ _ _ _ _ _ _ _ _ _ _ _ _ _ _ _ _ _ ?_
          intro v60 v61 v62 v63 v64 v65 v66 v67 v68 v69 v70 v71 v72 v73 v74 v75 v76 w6 hb6
          have H11 : Hid (Below V.heap.size V w6) := H7.out.trans (hb6.mono H7.out.size)
          clear hb6 r0 r1 x0 H7 HIw HBw
          go_wp2_with fail
          go_roundw
          case rel => exact ⟨j + 1, by omega, by go_num, H11.out⟩
          case measure => simp [intOf]; omega

end Go.Proofs.Ytcdldgppjmpbpaa
