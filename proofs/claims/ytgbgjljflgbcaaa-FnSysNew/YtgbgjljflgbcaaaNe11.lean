import Derived.Test.YtgbgjljflgbcaaaNe10
namespace Go.Proofs.Ytgbgjljflgbcaaa
open Go.RowKit
set_option maxRecDepth 20000
set_option linter.unusedSimpArgs false
set_option linter.unusedVariables false
set_option maxHeartbeats 4000000 in
theorem l71Body_any (B R p : Nat) (body nb c : Int) (w : World) (h : RdAt B w R p) (hp : p ≤ 700000) (hb0 : 0 ≤ body) (hb1 : body ≤ 10) (hn0 : 0 ≤ nb) (hn1 : nb ≤ 10) (hc0 : 0 ≤ c) (hc3 : c ≤ 3) :
    Calls Try.prog 96 #[.pointer (some ⟨R, 0, none⟩), .int .i64 body, .int .i64 nb, .int .i64 c] w fun e w' => ∃ (v : Value) (acts : List Ac) (p' : Nat), e = .returned v ∧ OwnActs w.heap.size w' v acts ∧ acts.length ≤ 3 ∧ p ≤ p' ∧ p' ≤ p + 100 ∧ RdAt B w' R p' ∧ Fr R w.heap.size w w' := by
  have hlt := h.lt
  have hle := h.le
  obtain ⟨i1, hi1, hy0, hy1, hy2⟩ := info_parts Try.info_act
  obtain ⟨i2, hi2, hx0, hx1, hx2⟩ := info_parts Try.info_int
  have HRe : Hid (∀ o, RdAt B (w.alloc o) R p) := fun o => h.below ((Below.refl _ _).alloc hle _)
  have HFe : Hid (∀ o, Fr R w.heap.size w (w.alloc o)) := fun o => (Fr.refl _ _ _).alloc (Nat.le_refl _) _
  have HOe : Hid ((w.alloc (.cells #[] 122)).ownsRow w.heap.size 122 4 (.slice (some ⟨w.heap.size, 0, none⟩) 0 0) 0 []) := World.ownsRow_made w #[] 0 (Nat.le_refl _) (by unfold maxLen; omega) (by simp)
  clear h
  go_enter Try.func96, Try.ntmps96
  go_wp2_with fail
  refine (pick_any B R _ _ _ (HRe.out _) (by omega) (by omega) (by omega)).mono ?_
  rintro e w2 ⟨q2, rfl, a0, a1, hR2, hF2⟩
  obtain ⟨m, rfl⟩ := Int.eq_ofNat_of_zero_le a0
  have HF2 : Hid (Fr R w.heap.size w w2) := (HFe.out _).trans (hF2.mono (HFe.out _).size)
  have HR2 := (show Hid (RdAt _ _ _ _) from hR2)
  have HO2 : Hid (OwnActs w.heap.size w2 (.slice (some ⟨w.heap.size, 0, none⟩) 0 0) []) := ⟨[], rfl, own_fr HOe.out hF2 (by omega), fun x hx => by simp at hx⟩
  clear HRe HFe HOe hF2 hR2
  go_wp2_with fail
  go_loopw [9, 10] (fun o q w' => ∃ (k : Nat) (acts : List Ac) (p' : Nat), q = .int .i64 k ∧ acts.length + k ≤ 3 ∧ OwnActs w.heap.size w' o acts ∧ p ≤ p' ∧ p' + 25 * k ≤ p + 80 ∧ RdAt B w' R p' ∧ Fr R w.heap.size w w') (fun _ q _ => (intOf q).toNat)
  case atStart => exact ⟨m + 1, [], _, by go_num, by simp; omega, HO2.out, by omega, by omega, HR2.out, HF2.out⟩
  clear HF2 HR2 HO2
  case round =>
    obtain ⟨k, acts, p', rfl, hk, hown, hp1, hp2, hR, hF⟩ := hrel
    have HFR := (show Hid (Fr _ _ _ _) from hF)
    by_cases hk0 : 0 < k
    case neg =>
      have HOW := (show Hid (OwnActs _ _ _ _) from hown)
      clear hown hF
      go_wp2_with fail
      go_ret
      exact ⟨_, acts, p', rfl, HOW.out, by omega, by omega, by omega, hR, HFR.out⟩
    have hk' : (0 : Int) < (k : Int) := by omega
    obtain ⟨L, hL, hrow0, hin0⟩ := hown
    subst hL
    rw [List.length_map] at hk
    clear hF
    have HRO := (show Hid (World.ownsRow _ _ _ _ _ _ _) from hrow0)
    have HIN := (show Hid (∀ x, x ∈ L → _) from hin0)
    clear hrow0 hin0
    go_wp2_with fail
    refine (pick_any B R _ _ _ hR (by omega) (by omega) (by omega)).mono ?_
    rintro e w1 ⟨q, rfl, q0, q1, hR1, hF1⟩
    have hrow1 := own_fr HRO.out hF1 (by omega)
    have hin1 : ∀ x, x ∈ L → OwnDe w.heap.size w1 x.2.1 x.1.ds ∧ OwnInt w.heap.size w1 x.2.2 x.1.ks := fun x hx => ⟨own_fr (HIN.out x hx).1 hF1 (by omega), own_fr (HIN.out x hx).2 hF1 (by omega)⟩
    have HF1 : Hid (Fr R w.heap.size w w1) := HFR.out.trans (hF1.mono HFR.out.size)
    clear hF1 hR HFR HRO HIN
    by_cases g0 : q = 0
    · subst g0
      go_wp2_with fail
      refine (pick_any B R _ _ _ hR1 (by omega) (by omega) (by omega)).mono ?_
      rintro e w2 ⟨q2, rfl, a0', a1', hR2, hF2⟩
      have hrow2 := own_fr hrow1 hF2 (by omega)
      have hin2 : ∀ x, x ∈ L → OwnDe w.heap.size w2 x.2.1 x.1.ds ∧ OwnInt w.heap.size w2 x.2.2 x.1.ks := fun x hx => ⟨own_fr (hin1 x hx).1 hF2 (by omega), own_fr (hin1 x hx).2 hF2 (by omega)⟩
      have HF2 : Hid (Fr R w.heap.size w w2) := HF1.out.trans (hF2.mono HF1.out.size)
      have HR2 := (show Hid (RdAt _ _ _ _) from hR2)
      have HRO2 := (show Hid (World.ownsRow _ _ _ _ _ _ _) from hrow2)
      have HIN2 := (show Hid (∀ x, x ∈ L → _) from hin2)
      clear hF2 hR2 hR1 HF1 hrow1 hin1 hrow2 hin2
      by_cases gz : q2 = 0
      · subst gz
        go_wp2_with (at_builtin; refine wpList_append_own _ rfl _ _ 113 rfl w.heap.size 122 i1 (.agg #[.int .i64 0, .slice none 0 0, .slice none 0 0, .int .i64 0]) 4 64 Try.underlying113 hi1 hy0 hy1 hy2 rfl (by decide) _ _ _ rfl (HRO2.out.alloc _) ⟨w2.heap.size, 0, none⟩ 1 1 [.int .i64 3, .slice none 0 0, .slice none 0 0, .int .i64 0] rfl rfl ?z1a ?z1b ?z1c ?z1d ?z1e ?_)
        case z1a =>
          intro j u hj
          match j, hj with
          | 0, hj => simp at hj; subst hj; simp [Addr.add]
          | 1, hj => simp at hj; subst hj; simp [Addr.add]
          | 2, hj => simp at hj; subst hj; simp [Addr.add]
          | 3, hj => simp at hj; subst hj; simp [Addr.add]
        case z1b => intro u hu; simp at hu; rcases hu with rfl | rfl | rfl | rfl <;> rfl
        case z1c => unfold maxLen; omega
        case z1d => omega
        case z1e => have := HF2.out.size; simp; omega
        intro v' w9 hown' hgrow _
        have hge : ∀ g, u9.ownBlock = some g → w.heap.size ≤ g := fun g hg => (HRO2.out.lt g hg).1
        have HO9 : Hid (OwnActs w.heap.size w9 v' (L.map (·.1) ++ [⟨3, [], [], 0⟩])) := act_snoc (HRO2.out.alloc _) (fun x hx => ⟨World.ownsRow.alloc (HIN2.out x hx).1 _, World.ownsRow.alloc (HIN2.out x hx).2 _⟩) (World.ownsRow.alloc (own_none w2 w.heap.size).1 _) (World.ownsRow.alloc (own_none w2 w.heap.size).2 _) hown' hgrow
        have HF9 : Hid (Fr R w.heap.size w w9) := (HF2.out.alloc HF2.out.size _).grown hgrow (by have := HF2.out.size; simp; omega) hge
        have HR9 : Hid (RdAt B w9 R (p' + 1 + 1)) := HR2.out.below (((Below.refl _ _).alloc HR2.out.le _).grown hgrow (by have := HR2.out.le; simp; omega) (fun g hg => Nat.le_trans hle (hge g hg)))
        clear hown' hgrow hge
        go_wp2_with fail
        go_roundw
        case rel => exact ⟨k - 1, L.map (·.1) ++ [⟨3, [], [], 0⟩], _, by go_num, by simp; omega, HO9.out, by omega, by omega, HR9.out, HF9.out⟩
        case measure => simp [intOf]; omega
      · have gz' : (q2 == 0) = false := by simp [gz]
        go_wp2_with fail
        go_roundw
        case rel => exact ⟨k - 1, L.map (·.1), _, by go_num, by simp; omega, ⟨L, rfl, HRO2.out, HIN2.out⟩, by omega, by omega, HR2.out, HF2.out⟩
        case measure => simp [intOf]; omega
    have n0 : (q == 0) = false := by simp [g0]
    by_cases g1 : q = 1
    · subst g1
      clear n0
      go_wp2_with fail
      refine (pick_any B R _ _ _ hR1 (by omega) (by omega) (by omega)).mono ?_
      rintro e w2 ⟨q2, rfl, a0', a1', hR2, hF2⟩
      have hrow2 := own_fr hrow1 hF2 (by omega)
      have hin2 : ∀ x, x ∈ L → OwnDe w.heap.size w2 x.2.1 x.1.ds ∧ OwnInt w.heap.size w2 x.2.2 x.1.ks := fun x hx => ⟨own_fr (hin1 x hx).1 hF2 (by omega), own_fr (hin1 x hx).2 hF2 (by omega)⟩
      have HF2 : Hid (Fr R w.heap.size w w2) := HF1.out.trans (hF2.mono HF1.out.size)
      have HR2 := (show Hid (RdAt _ _ _ _) from hR2)
      have HRO2 := (show Hid (World.ownsRow _ _ _ _ _ _ _) from hrow2)
      have HIN2 := (show Hid (∀ x, x ∈ L → _) from hin2)
      clear hF2 hR2 hR1 HF1 hrow1 hin1 hrow2 hin2
      go_wp2_with (at_builtin; refine wpList_append_own _ rfl _ _ 113 rfl w.heap.size 122 i1 (.agg #[.int .i64 0, .slice none 0 0, .slice none 0 0, .int .i64 0]) 4 64 Try.underlying113 hi1 hy0 hy1 hy2 rfl (by decide) _ _ _ rfl (HRO2.out.alloc _) ⟨w2.heap.size, 0, none⟩ 1 1 [.int .i64 4, .slice none 0 0, .slice none 0 0, .int .i64 q2] rfl rfl ?z2a ?z2b ?z2c ?z2d ?z2e ?_)
      case z2a =>
        intro j u hj
        match j, hj with
        | 0, hj => simp at hj; subst hj; simp [Addr.add]
        | 1, hj => simp at hj; subst hj; simp [Addr.add]
        | 2, hj => simp at hj; subst hj; simp [Addr.add]
        | 3, hj => simp at hj; subst hj; simp [Addr.add]
      case z2b => intro u hu; simp at hu; rcases hu with rfl | rfl | rfl | rfl <;> rfl
      case z2c => unfold maxLen; omega
      case z2d => omega
      case z2e => have := HF2.out.size; simp; omega
      intro v' w9 hown' hgrow _
      have hge : ∀ g, u9.ownBlock = some g → w.heap.size ≤ g := fun g hg => (HRO2.out.lt g hg).1
      have HO9 : Hid (OwnActs w.heap.size w9 v' (L.map (·.1) ++ [⟨4, [], [], q2⟩])) := act_snoc (HRO2.out.alloc _) (fun x hx => ⟨World.ownsRow.alloc (HIN2.out x hx).1 _, World.ownsRow.alloc (HIN2.out x hx).2 _⟩) (World.ownsRow.alloc (own_none w2 w.heap.size).1 _) (World.ownsRow.alloc (own_none w2 w.heap.size).2 _) hown' hgrow
      have HF9 : Hid (Fr R w.heap.size w w9) := (HF2.out.alloc HF2.out.size _).grown hgrow (by have := HF2.out.size; simp; omega) hge
      have HR9 : Hid (RdAt B w9 R (p' + 1 + 1)) := HR2.out.below (((Below.refl _ _).alloc HR2.out.le _).grown hgrow (by have := HR2.out.le; simp; omega) (fun g hg => Nat.le_trans hle (hge g hg)))
      clear hown' hgrow hge
      go_wp2_with fail
      go_roundw
      case rel => exact ⟨k - 1, L.map (·.1) ++ [⟨4, [], [], q2⟩], _, by go_num, by simp; omega, HO9.out, by omega, by omega, HR9.out, HF9.out⟩
      case measure => simp [intOf]; omega
    have n1 : (q == 1) = false := by simp [g1]
    by_cases gf : 6 ≤ q
    · have n2 : (q == 2) = false := by simp; omega
      have n3 : (q == 3) = false := by simp; omega
      have n4 : (q == 4) = false := by simp; omega
      have n5 : (q == 5) = false := by simp; omega
      have HRO1 := (show Hid (World.ownsRow _ _ _ _ _ _ _) from hrow1)
      have HIN1 := (show Hid (∀ x, x ∈ L → _) from hin1)
      clear hrow1 hin1
      go_wp2_with fail
      refine (l71Deeds_any B R _ _ _ hR1 (by omega) (by omega) (by omega)).mono ?_
      rintro e w2 ⟨dv, ds, p2, rfl, hde, hds5, e1, e2, hR2, hF2⟩
      have hrow2 := own_fr HRO1.out hF2 (by omega)
      have hin2 : ∀ x, x ∈ L → OwnDe w.heap.size w2 x.2.1 x.1.ds ∧ OwnInt w.heap.size w2 x.2.2 x.1.ks := fun x hx => ⟨own_fr (HIN1.out x hx).1 hF2 (by omega), own_fr (HIN1.out x hx).2 hF2 (by omega)⟩
      have HDE : Hid (OwnDe w.heap.size w2 dv ds) := own_base hde HF1.out.size
      obtain ⟨ad, cd, rfl, hcd, hcd'⟩ := own_shape hde
      have HF2 : Hid (Fr R w.heap.size w w2) := HF1.out.trans (hF2.mono HF1.out.size)
      have HR2 := (show Hid (RdAt _ _ _ _) from hR2)
      have HRO2 := (show Hid (World.ownsRow _ _ _ _ _ _ _) from hrow2)
      have HIN2 := (show Hid (∀ x, x ∈ L → _) from hin2)
      clear hF2 hR2 hR1 HF1 hrow2 hin2 HRO1 HIN1 hde
      go_wp2_with (at_builtin; refine wpList_append_own _ rfl _ _ 113 rfl w.heap.size 122 i1 (.agg #[.int .i64 0, .slice none 0 0, .slice none 0 0, .int .i64 0]) 4 64 Try.underlying113 hi1 hy0 hy1 hy2 rfl (by decide) _ _ _ rfl (HRO2.out.alloc _) ⟨w2.heap.size, 0, none⟩ 1 1 [.int .i64 1, .slice ad ds.length cd, .slice none 0 0, .int .i64 0] rfl rfl ?z3a ?z3b ?z3c ?z3d ?z3e ?_)
      case z3a =>
        intro j u hj
        match j, hj with
        | 0, hj => simp at hj; subst hj; simp [Addr.add]
        | 1, hj => simp at hj; subst hj; simp [Addr.add]
        | 2, hj => simp at hj; subst hj; simp [Addr.add]
        | 3, hj => simp at hj; subst hj; simp [Addr.add]
      case z3b => intro u hu; simp at hu; rcases hu with rfl | rfl | rfl | rfl <;> rfl
      case z3c => unfold maxLen; omega
      case z3d => omega
      case z3e => have := HF2.out.size; simp; omega
      intro v' w9 hown' hgrow _
      have hge : ∀ g, u9.ownBlock = some g → w.heap.size ≤ g := fun g hg => (HRO2.out.lt g hg).1
      have HO9 : Hid (OwnActs w.heap.size w9 v' (L.map (·.1) ++ [⟨1, ds, [], 0⟩])) := act_snoc (HRO2.out.alloc _) (fun x hx => ⟨World.ownsRow.alloc (HIN2.out x hx).1 _, World.ownsRow.alloc (HIN2.out x hx).2 _⟩) (World.ownsRow.alloc HDE.out _) (World.ownsRow.alloc (own_none w2 w.heap.size).2 _) hown' hgrow
      have HF9 : Hid (Fr R w.heap.size w w9) := (HF2.out.alloc HF2.out.size _).grown hgrow (by have := HF2.out.size; simp; omega) hge
      have HR9 : Hid (RdAt B w9 R (p2)) := HR2.out.below (((Below.refl _ _).alloc HR2.out.le _).grown hgrow (by have := HR2.out.le; simp; omega) (fun g hg => Nat.le_trans hle (hge g hg)))
      clear hown' hgrow hge
      go_wp2_with fail
      go_roundw
      case rel => exact ⟨k - 1, L.map (·.1) ++ [⟨1, ds, [], 0⟩], _, by go_num, by simp; omega, HO9.out, by omega, by omega, HR9.out, HF9.out⟩
      case measure => simp [intOf]; omega
    have hq4 : q = 2 ∨ q = 3 ∨ q = 4 ∨ q = 5 := by omega
    have HRO1 := (show Hid (World.ownsRow _ _ _ _ _ _ _) from hrow1)
    have HIN1 := (show Hid (∀ x, x ∈ L → _) from hin1)
    clear hrow1 hin1 n0 n1 g0 g1 gf q0 q1
    by_cases hbb : body + 1 < nb
    case neg =>
      rcases hq4 with rfl | rfl | rfl | rfl
      all_goals
        have HR1 := (show Hid (RdAt _ _ _ _) from hR1)
        clear hR1
        go_wp2_with fail
        go_roundw
        case rel => exact ⟨k - 1, L.map (·.1), _, by go_num, by simp; omega, ⟨L, rfl, HRO1.out, HIN1.out⟩, by omega, by omega, HR1.out, HF1.out⟩
        case measure => simp [intOf]; omega
    rcases hq4 with rfl | rfl | rfl | rfl
    · go_wp2_with fail
      refine (pick_any B R _ _ _ hR1 (by omega) (by omega) (by omega)).mono ?_
      rintro e w2 ⟨q2, rfl, a0', a1', hR2, hF2⟩
      have hrow2 := own_fr HRO1.out hF2 (by omega)
      have hin2 : ∀ x, x ∈ L → OwnDe w.heap.size w2 x.2.1 x.1.ds ∧ OwnInt w.heap.size w2 x.2.2 x.1.ks := fun x hx => ⟨own_fr (HIN1.out x hx).1 hF2 (by omega), own_fr (HIN1.out x hx).2 hF2 (by omega)⟩
      have HF2 : Hid (Fr R w.heap.size w w2) := HF1.out.trans (hF2.mono HF1.out.size)
      have HRO2 := (show Hid (World.ownsRow _ _ _ _ _ _ _) from hrow2)
      have HIN2 := (show Hid (∀ x, x ∈ L → _) from hin2)
      have HR2 : Hid (∀ o, RdAt B (w2.alloc o) R _) := fun o => hR2.below ((Below.refl _ _).alloc hR2.le _)
      have hs2 := HF2.out.size
      clear hF2 hR2 hR1 HF1 hrow2 hin2 HRO1 HIN1
      have HK3 : Hid (OwnInt w2.heap.size (w2.alloc (.cells #[.int .i64 (body + 1 + q2)] 3)) (.slice (some ⟨w2.heap.size, 0, none⟩) 1 1) [body + 1 + q2]) :=
        ⟨by simp, .inr ⟨w2.heap.size, 1, _, rfl, Nat.le_refl _, heap_alloc_new w2 _, by simp, by unfold maxLen; omega, by simp, by simp⟩⟩
      go_wp2_with fail
      refine (pick_any B R _ _ _ (HR2.out _) (by omega) (by omega) (by omega)).mono ?_
      rintro e w4 ⟨q3, rfl, b0', b1', hR4, hF4⟩
      have HX4 : Hid (Fr R w2.heap.size w2 w4) := ((Fr.refl R w2.heap.size w2).alloc (Nat.le_refl _) _).trans (hF4.mono (by simp))
      have HK4 : Hid (OwnInt w2.heap.size w4 (.slice (some ⟨w2.heap.size, 0, none⟩) 1 1) [body + 1 + q2]) := own_fr HK3.out hF4 (by omega)
      clear hF4 HK3 HR2
      by_cases gk : 0 < q3
      case neg =>
        have HR4 := (show Hid (RdAt _ _ _ _) from hR4)
        have HF4 : Hid (Fr R w.heap.size w w4) := HF2.out.trans (HX4.out.mono hs2)
        have HRO4 := (show Hid (World.ownsRow _ _ _ _ _ _ _) from own_fr HRO2.out HX4.out (by omega))
        have HIN4 : Hid (∀ x, x ∈ L → OwnDe w.heap.size w4 x.2.1 x.1.ds ∧ OwnInt w.heap.size w4 x.2.2 x.1.ks) := fun x hx => ⟨own_fr (HIN2.out x hx).1 HX4.out (by omega), own_fr (HIN2.out x hx).2 HX4.out (by omega)⟩
        have HKK : Hid (OwnInt w.heap.size w4 (.slice (some ⟨w2.heap.size, 0, none⟩) 1 1) [body + 1 + q2]) := own_base HK4.out hs2
        clear hR4 HX4 HK4 HRO2 HIN2 HF2
        go_wp2_with (at_builtin; refine wpList_append_own _ rfl _ _ 113 rfl w.heap.size 122 i1 (.agg #[.int .i64 0, .slice none 0 0, .slice none 0 0, .int .i64 0]) 4 64 Try.underlying113 hi1 hy0 hy1 hy2 rfl (by decide) _ _ _ rfl (HRO4.out.alloc _) ⟨w4.heap.size, 0, none⟩ 1 1 [.int .i64 2, .slice none 0 0, .slice (some ⟨w2.heap.size, 0, none⟩) 1 1, .int .i64 0] rfl rfl ?z4n0a ?z4n0b ?z4n0c ?z4n0d ?z4n0e ?_)
        case z4n0a =>
          intro j u hj
          match j, hj with
          | 0, hj => simp at hj; subst hj; simp [Addr.add]
          | 1, hj => simp at hj; subst hj; simp [Addr.add]
          | 2, hj => simp at hj; subst hj; simp [Addr.add]
          | 3, hj => simp at hj; subst hj; simp [Addr.add]
        case z4n0b => intro u hu; simp at hu; rcases hu with rfl | rfl | rfl | rfl <;> rfl
        case z4n0c => unfold maxLen; omega
        case z4n0d => omega
        case z4n0e => have := HF4.out.size; simp; omega
        intro v' w9 hown' hgrow _
        have hge : ∀ g, u9.ownBlock = some g → w.heap.size ≤ g := fun g hg => (HRO4.out.lt g hg).1
        have HO9 : Hid (OwnActs w.heap.size w9 v' (L.map (·.1) ++ [⟨2, [], [body + 1 + q2], 0⟩])) := act_snoc (HRO4.out.alloc _) (fun x hx => ⟨World.ownsRow.alloc (HIN4.out x hx).1 _, World.ownsRow.alloc (HIN4.out x hx).2 _⟩) (World.ownsRow.alloc (own_none w4 w.heap.size).1 _) (World.ownsRow.alloc HKK.out _) hown' hgrow
        have HF9 : Hid (Fr R w.heap.size w w9) := (HF4.out.alloc HF4.out.size _).grown hgrow (by have := HF4.out.size; simp; omega) hge
        have HR9 : Hid (RdAt B w9 R (p' + 1 + 1 + 1)) := HR4.out.below (((Below.refl _ _).alloc HR4.out.le _).grown hgrow (by have := HR4.out.le; simp; omega) (fun g hg => Nat.le_trans hle (hge g hg)))
        clear hown' hgrow hge
        go_wp2_with fail
        go_roundw
        case rel => exact ⟨k - 1, L.map (·.1) ++ [⟨2, [], [body + 1 + q2], 0⟩], _, by go_num, by simp; omega, HO9.out, by omega, by omega, HR9.out, HF9.out⟩
        case measure => simp [intOf]; omega
      go_wp2_with fail
      refine (pick_any B R _ _ _ hR4 (by omega) (by omega) (by omega)).mono ?_
      rintro e w5 ⟨q4, rfl, c0', c1', hR5, hF5⟩
      have HX5 : Hid (Fr R w2.heap.size w2 w5) := HX4.out.trans (hF5.mono HX4.out.size)
      have HK5 : Hid (OwnInt w2.heap.size w5 (.slice (some ⟨w2.heap.size, 0, none⟩) 1 1) [body + 1 + q2]) := own_fr HK4.out hF5 (by omega)
      have HR5 := (show Hid (RdAt _ _ _ _) from hR5)
      clear hF5 HK4 HX4 hR4 hR5
      go_wp2_with (at_builtin; refine wpList_append_own _ rfl _ _ 23 rfl w2.heap.size 3 i2 (.int .i64 0) 1 8 Try.underlying23 hi2 hx0 hx1 hx2 rfl (by decide) _ _ _ rfl (HK5.out.alloc _) ⟨w5.heap.size, 0, none⟩ 1 1 [.int .i64 (body + 1 + q4)] rfl rfl ?y5n0a ?y5n0b ?y5n0c ?y5n0d ?y5n0e ?_)
      case y5n0a =>
        intro j u hj
        match j, hj with
        | 0, hj => simp at hj; subst hj; simp [Addr.add]
      case y5n0b => intro u hu; simp at hu; subst hu; rfl
      case y5n0c => unfold maxLen; simp; try omega
      case y5n0d => simp
      case y5n0e => have := HX5.out.size; simp; omega
      intro kv' w7 hownk hgrowk _
      have HX7 : Hid (Fr R w2.heap.size w2 w7) := (HX5.out.alloc HX5.out.size _).grown hgrowk (by have := HX5.out.size; simp; omega) (fun g hg => (HK5.out.lt g hg).1)
      have hgb : ∀ g, (Value.slice (some ⟨w2.heap.size, 0, none⟩) 1 1).ownBlock = some g → B ≤ g := fun g hg => by have := (HK5.out.lt g hg).1; omega
      have HR7 : Hid (RdAt B w7 R (p' + 1 + 1 + 1 + 1)) := HR5.out.below (((Below.refl _ _).alloc HR5.out.le _).grown hgrowk (by have := HR5.out.le; simp; omega) hgb)
      have HKK : Hid (OwnInt w.heap.size w7 kv' [body + 1 + q2, body + 1 + q4]) := own_base (B := w2.heap.size) (by exact hownk) hs2
      obtain ⟨ak, ck, rfl, hck, hck'⟩ := own_shape hownk
      have HF7 : Hid (Fr R w.heap.size w w7) := HF2.out.trans (HX7.out.mono hs2)
      have HRO7 := (show Hid (World.ownsRow _ _ _ _ _ _ _) from own_fr HRO2.out HX7.out (by omega))
      have HIN7 : Hid (∀ x, x ∈ L → OwnDe w.heap.size w7 x.2.1 x.1.ds ∧ OwnInt w.heap.size w7 x.2.2 x.1.ks) := fun x hx => ⟨own_fr (HIN2.out x hx).1 HX7.out (by omega), own_fr (HIN2.out x hx).2 HX7.out (by omega)⟩
      clear hownk hgrowk HX5 HK5 HR5 HX7 hgb HRO2 HIN2 HF2
      have HK2 : Hid (OwnInt w.heap.size w7 (.slice ak 2 ck) [body + 1 + q2, body + 1 + q4]) := HKK.out
      clear HKK
      go_wp2_with (at_builtin; refine wpList_append_own _ rfl _ _ 113 rfl w.heap.size 122 i1 (.agg #[.int .i64 0, .slice none 0 0, .slice none 0 0, .int .i64 0]) 4 64 Try.underlying113 hi1 hy0 hy1 hy2 rfl (by decide) _ _ _ rfl (HRO7.out.alloc _) ⟨w7.heap.size, 0, none⟩ 1 1 [.int .i64 2, .slice none 0 0, .slice ak 2 ck, .int .i64 0] rfl rfl ?z101n0a ?z101n0b ?z101n0c ?z101n0d ?z101n0e ?_)
      case z101n0a =>
        intro j u hj
        match j, hj with
        | 0, hj => simp at hj; subst hj; simp [Addr.add]
        | 1, hj => simp at hj; subst hj; simp [Addr.add]
        | 2, hj => simp at hj; subst hj; simp [Addr.add]
        | 3, hj => simp at hj; subst hj; simp [Addr.add]
      case z101n0b => intro u hu; simp at hu; rcases hu with rfl | rfl | rfl | rfl <;> rfl
      case z101n0c => unfold maxLen; omega
      case z101n0d => omega
      case z101n0e => have := HF7.out.size; simp; omega
      intro v' w9 hown' hgrow _
      have hge : ∀ g, u9.ownBlock = some g → w.heap.size ≤ g := fun g hg => (HRO7.out.lt g hg).1
      have HO9 : Hid (OwnActs w.heap.size w9 v' (L.map (·.1) ++ [⟨2, [], [body + 1 + q2, body + 1 + q4], 0⟩])) := act_snoc (HRO7.out.alloc _) (fun x hx => ⟨World.ownsRow.alloc (HIN7.out x hx).1 _, World.ownsRow.alloc (HIN7.out x hx).2 _⟩) (World.ownsRow.alloc (own_none w7 w.heap.size).1 _) (World.ownsRow.alloc HK2.out _) hown' hgrow
      have HF9 : Hid (Fr R w.heap.size w w9) := (HF7.out.alloc HF7.out.size _).grown hgrow (by have := HF7.out.size; simp; omega) hge
      have HR9 : Hid (RdAt B w9 R (p' + 1 + 1 + 1 + 1)) := HR7.out.below (((Below.refl _ _).alloc HR7.out.le _).grown hgrow (by have := HR7.out.le; simp; omega) (fun g hg => Nat.le_trans hle (hge g hg)))
      clear hown' hgrow hge
      go_wp2_with fail
      go_roundw
      case rel => exact ⟨k - 1, L.map (·.1) ++ [⟨2, [], [body + 1 + q2, body + 1 + q4], 0⟩], _, by go_num, by simp; omega, HO9.out, by omega, by omega, HR9.out, HF9.out⟩
      case measure => simp [intOf]; omega
    · go_wp2_with fail
      refine (pick_any B R _ _ _ hR1 (by omega) (by omega) (by omega)).mono ?_
      rintro e w2 ⟨q2, rfl, a0', a1', hR2, hF2⟩
      have hrow2 := own_fr HRO1.out hF2 (by omega)
      have hin2 : ∀ x, x ∈ L → OwnDe w.heap.size w2 x.2.1 x.1.ds ∧ OwnInt w.heap.size w2 x.2.2 x.1.ks := fun x hx => ⟨own_fr (HIN1.out x hx).1 hF2 (by omega), own_fr (HIN1.out x hx).2 hF2 (by omega)⟩
      have HF2 : Hid (Fr R w.heap.size w w2) := HF1.out.trans (hF2.mono HF1.out.size)
      have HRO2 := (show Hid (World.ownsRow _ _ _ _ _ _ _) from hrow2)
      have HIN2 := (show Hid (∀ x, x ∈ L → _) from hin2)
      have HR2 : Hid (∀ o, RdAt B (w2.alloc o) R _) := fun o => hR2.below ((Below.refl _ _).alloc hR2.le _)
      have hs2 := HF2.out.size
      clear hF2 hR2 hR1 HF1 hrow2 hin2 HRO1 HIN1
      have HK3 : Hid (OwnInt w2.heap.size (w2.alloc (.cells #[.int .i64 (body + 1 + q2)] 3)) (.slice (some ⟨w2.heap.size, 0, none⟩) 1 1) [body + 1 + q2]) :=
        ⟨by simp, .inr ⟨w2.heap.size, 1, _, rfl, Nat.le_refl _, heap_alloc_new w2 _, by simp, by unfold maxLen; omega, by simp, by simp⟩⟩
      go_wp2_with fail
      refine (pick_any B R _ _ _ (HR2.out _) (by omega) (by omega) (by omega)).mono ?_
      rintro e w4 ⟨q3, rfl, b0', b1', hR4, hF4⟩
      have HX4 : Hid (Fr R w2.heap.size w2 w4) := ((Fr.refl R w2.heap.size w2).alloc (Nat.le_refl _) _).trans (hF4.mono (by simp))
      have HK4 : Hid (OwnInt w2.heap.size w4 (.slice (some ⟨w2.heap.size, 0, none⟩) 1 1) [body + 1 + q2]) := own_fr HK3.out hF4 (by omega)
      clear hF4 HK3 HR2
      by_cases gk : 0 < q3
      case neg =>
        have HR4 := (show Hid (RdAt _ _ _ _) from hR4)
        have HF4 : Hid (Fr R w.heap.size w w4) := HF2.out.trans (HX4.out.mono hs2)
        have HRO4 := (show Hid (World.ownsRow _ _ _ _ _ _ _) from own_fr HRO2.out HX4.out (by omega))
        have HIN4 : Hid (∀ x, x ∈ L → OwnDe w.heap.size w4 x.2.1 x.1.ds ∧ OwnInt w.heap.size w4 x.2.2 x.1.ks) := fun x hx => ⟨own_fr (HIN2.out x hx).1 HX4.out (by omega), own_fr (HIN2.out x hx).2 HX4.out (by omega)⟩
        have HKK : Hid (OwnInt w.heap.size w4 (.slice (some ⟨w2.heap.size, 0, none⟩) 1 1) [body + 1 + q2]) := own_base HK4.out hs2
        clear hR4 HX4 HK4 HRO2 HIN2 HF2
        go_wp2_with (at_builtin; refine wpList_append_own _ rfl _ _ 113 rfl w.heap.size 122 i1 (.agg #[.int .i64 0, .slice none 0 0, .slice none 0 0, .int .i64 0]) 4 64 Try.underlying113 hi1 hy0 hy1 hy2 rfl (by decide) _ _ _ rfl (HRO4.out.alloc _) ⟨w4.heap.size, 0, none⟩ 1 1 [.int .i64 2, .slice none 0 0, .slice (some ⟨w2.heap.size, 0, none⟩) 1 1, .int .i64 0] rfl rfl ?z4n1a ?z4n1b ?z4n1c ?z4n1d ?z4n1e ?_)
        case z4n1a =>
          intro j u hj
          match j, hj with
          | 0, hj => simp at hj; subst hj; simp [Addr.add]
          | 1, hj => simp at hj; subst hj; simp [Addr.add]
          | 2, hj => simp at hj; subst hj; simp [Addr.add]
          | 3, hj => simp at hj; subst hj; simp [Addr.add]
        case z4n1b => intro u hu; simp at hu; rcases hu with rfl | rfl | rfl | rfl <;> rfl
        case z4n1c => unfold maxLen; omega
        case z4n1d => omega
        case z4n1e => have := HF4.out.size; simp; omega
        intro v' w9 hown' hgrow _
        have hge : ∀ g, u9.ownBlock = some g → w.heap.size ≤ g := fun g hg => (HRO4.out.lt g hg).1
        have HO9 : Hid (OwnActs w.heap.size w9 v' (L.map (·.1) ++ [⟨2, [], [body + 1 + q2], 0⟩])) := act_snoc (HRO4.out.alloc _) (fun x hx => ⟨World.ownsRow.alloc (HIN4.out x hx).1 _, World.ownsRow.alloc (HIN4.out x hx).2 _⟩) (World.ownsRow.alloc (own_none w4 w.heap.size).1 _) (World.ownsRow.alloc HKK.out _) hown' hgrow
        have HF9 : Hid (Fr R w.heap.size w w9) := (HF4.out.alloc HF4.out.size _).grown hgrow (by have := HF4.out.size; simp; omega) hge
        have HR9 : Hid (RdAt B w9 R (p' + 1 + 1 + 1)) := HR4.out.below (((Below.refl _ _).alloc HR4.out.le _).grown hgrow (by have := HR4.out.le; simp; omega) (fun g hg => Nat.le_trans hle (hge g hg)))
        clear hown' hgrow hge
        go_wp2_with fail
        go_roundw
        case rel => exact ⟨k - 1, L.map (·.1) ++ [⟨2, [], [body + 1 + q2], 0⟩], _, by go_num, by simp; omega, HO9.out, by omega, by omega, HR9.out, HF9.out⟩
        case measure => simp [intOf]; omega
      go_wp2_with fail
      refine (pick_any B R _ _ _ hR4 (by omega) (by omega) (by omega)).mono ?_
      rintro e w5 ⟨q4, rfl, c0', c1', hR5, hF5⟩
      have HX5 : Hid (Fr R w2.heap.size w2 w5) := HX4.out.trans (hF5.mono HX4.out.size)
      have HK5 : Hid (OwnInt w2.heap.size w5 (.slice (some ⟨w2.heap.size, 0, none⟩) 1 1) [body + 1 + q2]) := own_fr HK4.out hF5 (by omega)
      have HR5 := (show Hid (RdAt _ _ _ _) from hR5)
      clear hF5 HK4 HX4 hR4 hR5
      go_wp2_with (at_builtin; refine wpList_append_own _ rfl _ _ 23 rfl w2.heap.size 3 i2 (.int .i64 0) 1 8 Try.underlying23 hi2 hx0 hx1 hx2 rfl (by decide) _ _ _ rfl (HK5.out.alloc _) ⟨w5.heap.size, 0, none⟩ 1 1 [.int .i64 (body + 1 + q4)] rfl rfl ?y5n1a ?y5n1b ?y5n1c ?y5n1d ?y5n1e ?_)
      case y5n1a =>
        intro j u hj
        match j, hj with
        | 0, hj => simp at hj; subst hj; simp [Addr.add]
      case y5n1b => intro u hu; simp at hu; subst hu; rfl
      case y5n1c => unfold maxLen; simp; try omega
      case y5n1d => simp
      case y5n1e => have := HX5.out.size; simp; omega
      intro kv' w7 hownk hgrowk _
      have HX7 : Hid (Fr R w2.heap.size w2 w7) := (HX5.out.alloc HX5.out.size _).grown hgrowk (by have := HX5.out.size; simp; omega) (fun g hg => (HK5.out.lt g hg).1)
      have hgb : ∀ g, (Value.slice (some ⟨w2.heap.size, 0, none⟩) 1 1).ownBlock = some g → B ≤ g := fun g hg => by have := (HK5.out.lt g hg).1; omega
      have HR7 : Hid (RdAt B w7 R (p' + 1 + 1 + 1 + 1)) := HR5.out.below (((Below.refl _ _).alloc HR5.out.le _).grown hgrowk (by have := HR5.out.le; simp; omega) hgb)
      have HKK : Hid (OwnInt w.heap.size w7 kv' [body + 1 + q2, body + 1 + q4]) := own_base (B := w2.heap.size) (by exact hownk) hs2
      obtain ⟨ak, ck, rfl, hck, hck'⟩ := own_shape hownk
      have HF7 : Hid (Fr R w.heap.size w w7) := HF2.out.trans (HX7.out.mono hs2)
      have HRO7 := (show Hid (World.ownsRow _ _ _ _ _ _ _) from own_fr HRO2.out HX7.out (by omega))
      have HIN7 : Hid (∀ x, x ∈ L → OwnDe w.heap.size w7 x.2.1 x.1.ds ∧ OwnInt w.heap.size w7 x.2.2 x.1.ks) := fun x hx => ⟨own_fr (HIN2.out x hx).1 HX7.out (by omega), own_fr (HIN2.out x hx).2 HX7.out (by omega)⟩
      clear hownk hgrowk HX5 HK5 HR5 HX7 hgb HRO2 HIN2 HF2
      have HK2 : Hid (OwnInt w.heap.size w7 (.slice ak 2 ck) [body + 1 + q2, body + 1 + q4]) := HKK.out
      clear HKK
      go_wp2_with (at_builtin; refine wpList_append_own _ rfl _ _ 113 rfl w.heap.size 122 i1 (.agg #[.int .i64 0, .slice none 0 0, .slice none 0 0, .int .i64 0]) 4 64 Try.underlying113 hi1 hy0 hy1 hy2 rfl (by decide) _ _ _ rfl (HRO7.out.alloc _) ⟨w7.heap.size, 0, none⟩ 1 1 [.int .i64 2, .slice none 0 0, .slice ak 2 ck, .int .i64 0] rfl rfl ?z101n1a ?z101n1b ?z101n1c ?z101n1d ?z101n1e ?_)
      case z101n1a =>
        intro j u hj
        match j, hj with
        | 0, hj => simp at hj; subst hj; simp [Addr.add]
        | 1, hj => simp at hj; subst hj; simp [Addr.add]
        | 2, hj => simp at hj; subst hj; simp [Addr.add]
        | 3, hj => simp at hj; subst hj; simp [Addr.add]
      case z101n1b => intro u hu; simp at hu; rcases hu with rfl | rfl | rfl | rfl <;> rfl
      case z101n1c => unfold maxLen; omega
      case z101n1d => omega
      case z101n1e => have := HF7.out.size; simp; omega
      intro v' w9 hown' hgrow _
      have hge : ∀ g, u9.ownBlock = some g → w.heap.size ≤ g := fun g hg => (HRO7.out.lt g hg).1
      have HO9 : Hid (OwnActs w.heap.size w9 v' (L.map (·.1) ++ [⟨2, [], [body + 1 + q2, body + 1 + q4], 0⟩])) := act_snoc (HRO7.out.alloc _) (fun x hx => ⟨World.ownsRow.alloc (HIN7.out x hx).1 _, World.ownsRow.alloc (HIN7.out x hx).2 _⟩) (World.ownsRow.alloc (own_none w7 w.heap.size).1 _) (World.ownsRow.alloc HK2.out _) hown' hgrow
      have HF9 : Hid (Fr R w.heap.size w w9) := (HF7.out.alloc HF7.out.size _).grown hgrow (by have := HF7.out.size; simp; omega) hge
      have HR9 : Hid (RdAt B w9 R (p' + 1 + 1 + 1 + 1)) := HR7.out.below (((Below.refl _ _).alloc HR7.out.le _).grown hgrow (by have := HR7.out.le; simp; omega) (fun g hg => Nat.le_trans hle (hge g hg)))
      clear hown' hgrow hge
      go_wp2_with fail
      go_roundw
      case rel => exact ⟨k - 1, L.map (·.1) ++ [⟨2, [], [body + 1 + q2, body + 1 + q4], 0⟩], _, by go_num, by simp; omega, HO9.out, by omega, by omega, HR9.out, HF9.out⟩
      case measure => simp [intOf]; omega
    · go_wp2_with fail
      refine (pick_any B R _ _ _ hR1 (by omega) (by omega) (by omega)).mono ?_
      rintro e w2 ⟨q2, rfl, a0', a1', hR2, hF2⟩
      have hrow2 := own_fr HRO1.out hF2 (by omega)
      have hin2 : ∀ x, x ∈ L → OwnDe w.heap.size w2 x.2.1 x.1.ds ∧ OwnInt w.heap.size w2 x.2.2 x.1.ks := fun x hx => ⟨own_fr (HIN1.out x hx).1 hF2 (by omega), own_fr (HIN1.out x hx).2 hF2 (by omega)⟩
      have HF2 : Hid (Fr R w.heap.size w w2) := HF1.out.trans (hF2.mono HF1.out.size)
      have HRO2 := (show Hid (World.ownsRow _ _ _ _ _ _ _) from hrow2)
      have HIN2 := (show Hid (∀ x, x ∈ L → _) from hin2)
      have HR2 : Hid (∀ o, RdAt B (w2.alloc o) R _) := fun o => hR2.below ((Below.refl _ _).alloc hR2.le _)
      have hs2 := HF2.out.size
      clear hF2 hR2 hR1 HF1 hrow2 hin2 HRO1 HIN1
      have HK3 : Hid (OwnInt w2.heap.size (w2.alloc (.cells #[.int .i64 (body + 1 + q2)] 3)) (.slice (some ⟨w2.heap.size, 0, none⟩) 1 1) [body + 1 + q2]) :=
        ⟨by simp, .inr ⟨w2.heap.size, 1, _, rfl, Nat.le_refl _, heap_alloc_new w2 _, by simp, by unfold maxLen; omega, by simp, by simp⟩⟩
      go_wp2_with fail
      refine (pick_any B R _ _ _ (HR2.out _) (by omega) (by omega) (by omega)).mono ?_
      rintro e w4 ⟨q3, rfl, b0', b1', hR4, hF4⟩
      have HX4 : Hid (Fr R w2.heap.size w2 w4) := ((Fr.refl R w2.heap.size w2).alloc (Nat.le_refl _) _).trans (hF4.mono (by simp))
      have HK4 : Hid (OwnInt w2.heap.size w4 (.slice (some ⟨w2.heap.size, 0, none⟩) 1 1) [body + 1 + q2]) := own_fr HK3.out hF4 (by omega)
      clear hF4 HK3 HR2
      by_cases gk : 0 < q3
      case neg =>
        have HR4 := (show Hid (RdAt _ _ _ _) from hR4)
        have HF4 : Hid (Fr R w.heap.size w w4) := HF2.out.trans (HX4.out.mono hs2)
        have HRO4 := (show Hid (World.ownsRow _ _ _ _ _ _ _) from own_fr HRO2.out HX4.out (by omega))
        have HIN4 : Hid (∀ x, x ∈ L → OwnDe w.heap.size w4 x.2.1 x.1.ds ∧ OwnInt w.heap.size w4 x.2.2 x.1.ks) := fun x hx => ⟨own_fr (HIN2.out x hx).1 HX4.out (by omega), own_fr (HIN2.out x hx).2 HX4.out (by omega)⟩
        have HKK : Hid (OwnInt w.heap.size w4 (.slice (some ⟨w2.heap.size, 0, none⟩) 1 1) [body + 1 + q2]) := own_base HK4.out hs2
        clear hR4 HX4 HK4 HRO2 HIN2 HF2
        go_wp2_with (at_builtin; refine wpList_append_own _ rfl _ _ 113 rfl w.heap.size 122 i1 (.agg #[.int .i64 0, .slice none 0 0, .slice none 0 0, .int .i64 0]) 4 64 Try.underlying113 hi1 hy0 hy1 hy2 rfl (by decide) _ _ _ rfl (HRO4.out.alloc _) ⟨w4.heap.size, 0, none⟩ 1 1 [.int .i64 2, .slice none 0 0, .slice (some ⟨w2.heap.size, 0, none⟩) 1 1, .int .i64 0] rfl rfl ?z4n2a ?z4n2b ?z4n2c ?z4n2d ?z4n2e ?_)
        case z4n2a =>
          intro j u hj
          match j, hj with
          | 0, hj => simp at hj; subst hj; simp [Addr.add]
          | 1, hj => simp at hj; subst hj; simp [Addr.add]
          | 2, hj => simp at hj; subst hj; simp [Addr.add]
          | 3, hj => simp at hj; subst hj; simp [Addr.add]
        case z4n2b => intro u hu; simp at hu; rcases hu with rfl | rfl | rfl | rfl <;> rfl
        case z4n2c => unfold maxLen; omega
        case z4n2d => omega
        case z4n2e => have := HF4.out.size; simp; omega
        intro v' w9 hown' hgrow _
        have hge : ∀ g, u9.ownBlock = some g → w.heap.size ≤ g := fun g hg => (HRO4.out.lt g hg).1
        have HO9 : Hid (OwnActs w.heap.size w9 v' (L.map (·.1) ++ [⟨2, [], [body + 1 + q2], 0⟩])) := act_snoc (HRO4.out.alloc _) (fun x hx => ⟨World.ownsRow.alloc (HIN4.out x hx).1 _, World.ownsRow.alloc (HIN4.out x hx).2 _⟩) (World.ownsRow.alloc (own_none w4 w.heap.size).1 _) (World.ownsRow.alloc HKK.out _) hown' hgrow
        have HF9 : Hid (Fr R w.heap.size w w9) := (HF4.out.alloc HF4.out.size _).grown hgrow (by have := HF4.out.size; simp; omega) hge
        have HR9 : Hid (RdAt B w9 R (p' + 1 + 1 + 1)) := HR4.out.below (((Below.refl _ _).alloc HR4.out.le _).grown hgrow (by have := HR4.out.le; simp; omega) (fun g hg => Nat.le_trans hle (hge g hg)))
        clear hown' hgrow hge
        go_wp2_with fail
        go_roundw
        case rel => exact ⟨k - 1, L.map (·.1) ++ [⟨2, [], [body + 1 + q2], 0⟩], _, by go_num, by simp; omega, HO9.out, by omega, by omega, HR9.out, HF9.out⟩
        case measure => simp [intOf]; omega
      go_wp2_with fail
      refine (pick_any B R _ _ _ hR4 (by omega) (by omega) (by omega)).mono ?_
      rintro e w5 ⟨q4, rfl, c0', c1', hR5, hF5⟩
      have HX5 : Hid (Fr R w2.heap.size w2 w5) := HX4.out.trans (hF5.mono HX4.out.size)
      have HK5 : Hid (OwnInt w2.heap.size w5 (.slice (some ⟨w2.heap.size, 0, none⟩) 1 1) [body + 1 + q2]) := own_fr HK4.out hF5 (by omega)
      have HR5 := (show Hid (RdAt _ _ _ _) from hR5)
      clear hF5 HK4 HX4 hR4 hR5
      go_wp2_with (at_builtin; refine wpList_append_own _ rfl _ _ 23 rfl w2.heap.size 3 i2 (.int .i64 0) 1 8 Try.underlying23 hi2 hx0 hx1 hx2 rfl (by decide) _ _ _ rfl (HK5.out.alloc _) ⟨w5.heap.size, 0, none⟩ 1 1 [.int .i64 (body + 1 + q4)] rfl rfl ?y5n2a ?y5n2b ?y5n2c ?y5n2d ?y5n2e ?_)
      case y5n2a =>
        intro j u hj
        match j, hj with
        | 0, hj => simp at hj; subst hj; simp [Addr.add]
      case y5n2b => intro u hu; simp at hu; subst hu; rfl
      case y5n2c => unfold maxLen; simp; try omega
      case y5n2d => simp
      case y5n2e => have := HX5.out.size; simp; omega
      intro kv' w7 hownk hgrowk _
      have HX7 : Hid (Fr R w2.heap.size w2 w7) := (HX5.out.alloc HX5.out.size _).grown hgrowk (by have := HX5.out.size; simp; omega) (fun g hg => (HK5.out.lt g hg).1)
      have hgb : ∀ g, (Value.slice (some ⟨w2.heap.size, 0, none⟩) 1 1).ownBlock = some g → B ≤ g := fun g hg => by have := (HK5.out.lt g hg).1; omega
      have HR7 : Hid (RdAt B w7 R (p' + 1 + 1 + 1 + 1)) := HR5.out.below (((Below.refl _ _).alloc HR5.out.le _).grown hgrowk (by have := HR5.out.le; simp; omega) hgb)
      have HKK : Hid (OwnInt w.heap.size w7 kv' [body + 1 + q2, body + 1 + q4]) := own_base (B := w2.heap.size) (by exact hownk) hs2
      obtain ⟨ak, ck, rfl, hck, hck'⟩ := own_shape hownk
      have HF7 : Hid (Fr R w.heap.size w w7) := HF2.out.trans (HX7.out.mono hs2)
      have HRO7 := (show Hid (World.ownsRow _ _ _ _ _ _ _) from own_fr HRO2.out HX7.out (by omega))
      have HIN7 : Hid (∀ x, x ∈ L → OwnDe w.heap.size w7 x.2.1 x.1.ds ∧ OwnInt w.heap.size w7 x.2.2 x.1.ks) := fun x hx => ⟨own_fr (HIN2.out x hx).1 HX7.out (by omega), own_fr (HIN2.out x hx).2 HX7.out (by omega)⟩
      clear hownk hgrowk HX5 HK5 HR5 HX7 hgb HRO2 HIN2 HF2
      have HK2 : Hid (OwnInt w.heap.size w7 (.slice ak 2 ck) [body + 1 + q2, body + 1 + q4]) := HKK.out
      clear HKK
      go_wp2_with (at_builtin; refine wpList_append_own _ rfl _ _ 113 rfl w.heap.size 122 i1 (.agg #[.int .i64 0, .slice none 0 0, .slice none 0 0, .int .i64 0]) 4 64 Try.underlying113 hi1 hy0 hy1 hy2 rfl (by decide) _ _ _ rfl (HRO7.out.alloc _) ⟨w7.heap.size, 0, none⟩ 1 1 [.int .i64 2, .slice none 0 0, .slice ak 2 ck, .int .i64 0] rfl rfl ?z101n2a ?z101n2b ?z101n2c ?z101n2d ?z101n2e ?_)
      case z101n2a =>
        intro j u hj
        match j, hj with
        | 0, hj => simp at hj; subst hj; simp [Addr.add]
        | 1, hj => simp at hj; subst hj; simp [Addr.add]
        | 2, hj => simp at hj; subst hj; simp [Addr.add]
        | 3, hj => simp at hj; subst hj; simp [Addr.add]
      case z101n2b => intro u hu; simp at hu; rcases hu with rfl | rfl | rfl | rfl <;> rfl
      case z101n2c => unfold maxLen; omega
      case z101n2d => omega
      case z101n2e => have := HF7.out.size; simp; omega
      intro v' w9 hown' hgrow _
      have hge : ∀ g, u9.ownBlock = some g → w.heap.size ≤ g := fun g hg => (HRO7.out.lt g hg).1
      have HO9 : Hid (OwnActs w.heap.size w9 v' (L.map (·.1) ++ [⟨2, [], [body + 1 + q2, body + 1 + q4], 0⟩])) := act_snoc (HRO7.out.alloc _) (fun x hx => ⟨World.ownsRow.alloc (HIN7.out x hx).1 _, World.ownsRow.alloc (HIN7.out x hx).2 _⟩) (World.ownsRow.alloc (own_none w7 w.heap.size).1 _) (World.ownsRow.alloc HK2.out _) hown' hgrow
      have HF9 : Hid (Fr R w.heap.size w w9) := (HF7.out.alloc HF7.out.size _).grown hgrow (by have := HF7.out.size; simp; omega) hge
      have HR9 : Hid (RdAt B w9 R (p' + 1 + 1 + 1 + 1)) := HR7.out.below (((Below.refl _ _).alloc HR7.out.le _).grown hgrow (by have := HR7.out.le; simp; omega) (fun g hg => Nat.le_trans hle (hge g hg)))
      clear hown' hgrow hge
      go_wp2_with fail
      go_roundw
      case rel => exact ⟨k - 1, L.map (·.1) ++ [⟨2, [], [body + 1 + q2, body + 1 + q4], 0⟩], _, by go_num, by simp; omega, HO9.out, by omega, by omega, HR9.out, HF9.out⟩
      case measure => simp [intOf]; omega
    · go_wp2_with fail
      refine (pick_any B R _ _ _ hR1 (by omega) (by omega) (by omega)).mono ?_
      rintro e w2 ⟨q2, rfl, a0', a1', hR2, hF2⟩
      have hrow2 := own_fr HRO1.out hF2 (by omega)
      have hin2 : ∀ x, x ∈ L → OwnDe w.heap.size w2 x.2.1 x.1.ds ∧ OwnInt w.heap.size w2 x.2.2 x.1.ks := fun x hx => ⟨own_fr (HIN1.out x hx).1 hF2 (by omega), own_fr (HIN1.out x hx).2 hF2 (by omega)⟩
      have HF2 : Hid (Fr R w.heap.size w w2) := HF1.out.trans (hF2.mono HF1.out.size)
      have HRO2 := (show Hid (World.ownsRow _ _ _ _ _ _ _) from hrow2)
      have HIN2 := (show Hid (∀ x, x ∈ L → _) from hin2)
      have HR2 : Hid (∀ o, RdAt B (w2.alloc o) R _) := fun o => hR2.below ((Below.refl _ _).alloc hR2.le _)
      have hs2 := HF2.out.size
      clear hF2 hR2 hR1 HF1 hrow2 hin2 HRO1 HIN1
      have HK3 : Hid (OwnInt w2.heap.size (w2.alloc (.cells #[.int .i64 (body + 1 + q2)] 3)) (.slice (some ⟨w2.heap.size, 0, none⟩) 1 1) [body + 1 + q2]) :=
        ⟨by simp, .inr ⟨w2.heap.size, 1, _, rfl, Nat.le_refl _, heap_alloc_new w2 _, by simp, by unfold maxLen; omega, by simp, by simp⟩⟩
      go_wp2_with fail
      refine (pick_any B R _ _ _ (HR2.out _) (by omega) (by omega) (by omega)).mono ?_
      rintro e w4 ⟨q3, rfl, b0', b1', hR4, hF4⟩
      have HX4 : Hid (Fr R w2.heap.size w2 w4) := ((Fr.refl R w2.heap.size w2).alloc (Nat.le_refl _) _).trans (hF4.mono (by simp))
      have HK4 : Hid (OwnInt w2.heap.size w4 (.slice (some ⟨w2.heap.size, 0, none⟩) 1 1) [body + 1 + q2]) := own_fr HK3.out hF4 (by omega)
      clear hF4 HK3 HR2
      by_cases gk : 0 < q3
      case neg =>
        have HR4 := (show Hid (RdAt _ _ _ _) from hR4)
        have HF4 : Hid (Fr R w.heap.size w w4) := HF2.out.trans (HX4.out.mono hs2)
        have HRO4 := (show Hid (World.ownsRow _ _ _ _ _ _ _) from own_fr HRO2.out HX4.out (by omega))
        have HIN4 : Hid (∀ x, x ∈ L → OwnDe w.heap.size w4 x.2.1 x.1.ds ∧ OwnInt w.heap.size w4 x.2.2 x.1.ks) := fun x hx => ⟨own_fr (HIN2.out x hx).1 HX4.out (by omega), own_fr (HIN2.out x hx).2 HX4.out (by omega)⟩
        have HKK : Hid (OwnInt w.heap.size w4 (.slice (some ⟨w2.heap.size, 0, none⟩) 1 1) [body + 1 + q2]) := own_base HK4.out hs2
        clear hR4 HX4 HK4 HRO2 HIN2 HF2
        go_wp2_with (at_builtin; refine wpList_append_own _ rfl _ _ 113 rfl w.heap.size 122 i1 (.agg #[.int .i64 0, .slice none 0 0, .slice none 0 0, .int .i64 0]) 4 64 Try.underlying113 hi1 hy0 hy1 hy2 rfl (by decide) _ _ _ rfl (HRO4.out.alloc _) ⟨w4.heap.size, 0, none⟩ 1 1 [.int .i64 2, .slice none 0 0, .slice (some ⟨w2.heap.size, 0, none⟩) 1 1, .int .i64 0] rfl rfl ?z4n3a ?z4n3b ?z4n3c ?z4n3d ?z4n3e ?_)
        case z4n3a =>
          intro j u hj
          match j, hj with
          | 0, hj => simp at hj; subst hj; simp [Addr.add]
          | 1, hj => simp at hj; subst hj; simp [Addr.add]
          | 2, hj => simp at hj; subst hj; simp [Addr.add]
          | 3, hj => simp at hj; subst hj; simp [Addr.add]
        case z4n3b => intro u hu; simp at hu; rcases hu with rfl | rfl | rfl | rfl <;> rfl
        case z4n3c => unfold maxLen; omega
        case z4n3d => omega
        case z4n3e => have := HF4.out.size; simp; omega
        intro v' w9 hown' hgrow _
        have hge : ∀ g, u9.ownBlock = some g → w.heap.size ≤ g := fun g hg => (HRO4.out.lt g hg).1
        have HO9 : Hid (OwnActs w.heap.size w9 v' (L.map (·.1) ++ [⟨2, [], [body + 1 + q2], 0⟩])) := act_snoc (HRO4.out.alloc _) (fun x hx => ⟨World.ownsRow.alloc (HIN4.out x hx).1 _, World.ownsRow.alloc (HIN4.out x hx).2 _⟩) (World.ownsRow.alloc (own_none w4 w.heap.size).1 _) (World.ownsRow.alloc HKK.out _) hown' hgrow
        have HF9 : Hid (Fr R w.heap.size w w9) := (HF4.out.alloc HF4.out.size _).grown hgrow (by have := HF4.out.size; simp; omega) hge
        have HR9 : Hid (RdAt B w9 R (p' + 1 + 1 + 1)) := HR4.out.below (((Below.refl _ _).alloc HR4.out.le _).grown hgrow (by have := HR4.out.le; simp; omega) (fun g hg => Nat.le_trans hle (hge g hg)))
        clear hown' hgrow hge
        go_wp2_with fail
        go_roundw
        case rel => exact ⟨k - 1, L.map (·.1) ++ [⟨2, [], [body + 1 + q2], 0⟩], _, by go_num, by simp; omega, HO9.out, by omega, by omega, HR9.out, HF9.out⟩
        case measure => simp [intOf]; omega
      go_wp2_with fail
      refine (pick_any B R _ _ _ hR4 (by omega) (by omega) (by omega)).mono ?_
      rintro e w5 ⟨q4, rfl, c0', c1', hR5, hF5⟩
      have HX5 : Hid (Fr R w2.heap.size w2 w5) := HX4.out.trans (hF5.mono HX4.out.size)
      have HK5 : Hid (OwnInt w2.heap.size w5 (.slice (some ⟨w2.heap.size, 0, none⟩) 1 1) [body + 1 + q2]) := own_fr HK4.out hF5 (by omega)
      have HR5 := (show Hid (RdAt _ _ _ _) from hR5)
      clear hF5 HK4 HX4 hR4 hR5
      go_wp2_with (at_builtin; refine wpList_append_own _ rfl _ _ 23 rfl w2.heap.size 3 i2 (.int .i64 0) 1 8 Try.underlying23 hi2 hx0 hx1 hx2 rfl (by decide) _ _ _ rfl (HK5.out.alloc _) ⟨w5.heap.size, 0, none⟩ 1 1 [.int .i64 (body + 1 + q4)] rfl rfl ?y5n3a ?y5n3b ?y5n3c ?y5n3d ?y5n3e ?_)
      case y5n3a =>
        intro j u hj
        match j, hj with
        | 0, hj => simp at hj; subst hj; simp [Addr.add]
      case y5n3b => intro u hu; simp at hu; subst hu; rfl
      case y5n3c => unfold maxLen; simp; try omega
      case y5n3d => simp
      case y5n3e => have := HX5.out.size; simp; omega
      intro kv' w7 hownk hgrowk _
      have HX7 : Hid (Fr R w2.heap.size w2 w7) := (HX5.out.alloc HX5.out.size _).grown hgrowk (by have := HX5.out.size; simp; omega) (fun g hg => (HK5.out.lt g hg).1)
      have hgb : ∀ g, (Value.slice (some ⟨w2.heap.size, 0, none⟩) 1 1).ownBlock = some g → B ≤ g := fun g hg => by have := (HK5.out.lt g hg).1; omega
      have HR7 : Hid (RdAt B w7 R (p' + 1 + 1 + 1 + 1)) := HR5.out.below (((Below.refl _ _).alloc HR5.out.le _).grown hgrowk (by have := HR5.out.le; simp; omega) hgb)
      have HKK : Hid (OwnInt w.heap.size w7 kv' [body + 1 + q2, body + 1 + q4]) := own_base (B := w2.heap.size) (by exact hownk) hs2
      obtain ⟨ak, ck, rfl, hck, hck'⟩ := own_shape hownk
      have HF7 : Hid (Fr R w.heap.size w w7) := HF2.out.trans (HX7.out.mono hs2)
      have HRO7 := (show Hid (World.ownsRow _ _ _ _ _ _ _) from own_fr HRO2.out HX7.out (by omega))
      have HIN7 : Hid (∀ x, x ∈ L → OwnDe w.heap.size w7 x.2.1 x.1.ds ∧ OwnInt w.heap.size w7 x.2.2 x.1.ks) := fun x hx => ⟨own_fr (HIN2.out x hx).1 HX7.out (by omega), own_fr (HIN2.out x hx).2 HX7.out (by omega)⟩
      clear hownk hgrowk HX5 HK5 HR5 HX7 hgb HRO2 HIN2 HF2
      have HK2 : Hid (OwnInt w.heap.size w7 (.slice ak 2 ck) [body + 1 + q2, body + 1 + q4]) := HKK.out
      clear HKK
      go_wp2_with (at_builtin; refine wpList_append_own _ rfl _ _ 113 rfl w.heap.size 122 i1 (.agg #[.int .i64 0, .slice none 0 0, .slice none 0 0, .int .i64 0]) 4 64 Try.underlying113 hi1 hy0 hy1 hy2 rfl (by decide) _ _ _ rfl (HRO7.out.alloc _) ⟨w7.heap.size, 0, none⟩ 1 1 [.int .i64 2, .slice none 0 0, .slice ak 2 ck, .int .i64 0] rfl rfl ?z101n3a ?z101n3b ?z101n3c ?z101n3d ?z101n3e ?_)
      case z101n3a =>
        intro j u hj
        match j, hj with
        | 0, hj => simp at hj; subst hj; simp [Addr.add]
        | 1, hj => simp at hj; subst hj; simp [Addr.add]
        | 2, hj => simp at hj; subst hj; simp [Addr.add]
        | 3, hj => simp at hj; subst hj; simp [Addr.add]
      case z101n3b => intro u hu; simp at hu; rcases hu with rfl | rfl | rfl | rfl <;> rfl
      case z101n3c => unfold maxLen; omega
      case z101n3d => omega
      case z101n3e => have := HF7.out.size; simp; omega
      intro v' w9 hown' hgrow _
      have hge : ∀ g, u9.ownBlock = some g → w.heap.size ≤ g := fun g hg => (HRO7.out.lt g hg).1
      have HO9 : Hid (OwnActs w.heap.size w9 v' (L.map (·.1) ++ [⟨2, [], [body + 1 + q2, body + 1 + q4], 0⟩])) := act_snoc (HRO7.out.alloc _) (fun x hx => ⟨World.ownsRow.alloc (HIN7.out x hx).1 _, World.ownsRow.alloc (HIN7.out x hx).2 _⟩) (World.ownsRow.alloc (own_none w7 w.heap.size).1 _) (World.ownsRow.alloc HK2.out _) hown' hgrow
      have HF9 : Hid (Fr R w.heap.size w w9) := (HF7.out.alloc HF7.out.size _).grown hgrow (by have := HF7.out.size; simp; omega) hge
      have HR9 : Hid (RdAt B w9 R (p' + 1 + 1 + 1 + 1)) := HR7.out.below (((Below.refl _ _).alloc HR7.out.le _).grown hgrow (by have := HR7.out.le; simp; omega) (fun g hg => Nat.le_trans hle (hge g hg)))
      clear hown' hgrow hge
      go_wp2_with fail
      go_roundw
      case rel => exact ⟨k - 1, L.map (·.1) ++ [⟨2, [], [body + 1 + q2, body + 1 + q4], 0⟩], _, by go_num, by simp; omega, HO9.out, by omega, by omega, HR9.out, HF9.out⟩
      case measure => simp [intOf]; omega
end Go.Proofs.Ytgbgjljflgbcaaa
