/-
  FnLogReal (by mkl17.py).
-/
import Derived.Test.YtnbgonmdjgapnaaL17
namespace Go.Proofs.Ytnbgonmdjgapnaa
open Go.RowKit
set_option linter.unusedSimpArgs false
set_option linter.unusedVariables false
set_option maxRecDepth 20000

/-- all pairs of the first k -/
def LrK (xs : List En) (k : Nat) : Prop := ∀ i, i < k → ∀ j : Nat, (j : Int) < (nth En.z xs i).from_ → j < i → ahB (nth En.z xs i) (nth En.z xs j) = false
/-- the first m of one -/
def LrM (xs : List En) (k m : Nat) : Prop := ∀ j : Nat, j < m → ahB (nth En.z xs k) (nth En.z xs j) = false
theorem lrK_all {xs : List En} {q : Bool} (h : q = true ↔ LrK xs xs.length) : q = true ↔ LrP xs := h
theorem lrK_next {xs : List En} {k m : Nat} {q : Bool} (h : q = true ↔ LrK xs k ∧ LrM xs k m) (hm : ∀ j : Nat, j < m ↔ (j : Int) < (nth En.z xs k).from_ ∧ j < k) : q = true ↔ LrK xs (k + 1) := by
  rw [h]
  constructor
  · rintro ⟨h1, h2⟩ i hi j a b
    by_cases e : i = k
    · subst e; exact h2 j ((hm j).2 ⟨a, b⟩)
    · exact h1 i (by omega) j a b
  · intro h1
    exact ⟨fun i hi => h1 i (by omega), fun j hj => h1 k (by omega) j ((hm j).1 hj).1 ((hm j).1 hj).2⟩
theorem lrM_next {xs : List En} {k m : Nat} {q : Bool} (h : q = true ↔ LrK xs k ∧ LrM xs k m) : (q && !ahB (nth En.z xs k) (nth En.z xs m)) = true ↔ LrK xs k ∧ LrM xs k (m + 1) := by
  rw [Bool.and_eq_true, h, Bool.not_eq_true']
  constructor
  · rintro ⟨⟨h1, h2⟩, h3⟩
    refine ⟨h1, fun j hj => ?_⟩
    by_cases e : j = m
    · subst e; exact h3
    · exact h2 j (by omega)
  · rintro ⟨h1, h2⟩
    exact ⟨⟨h1, fun j hj => h2 j (by omega)⟩, h2 m (by omega)⟩
set_option maxHeartbeats 4000000 in
theorem fnLogReal_walk (a : Option Addr) (n cap : Nat) (w : World) (h : Bytes w a n) (hc : n ≤ cap) (hn : cap ≤ 9223372036854775807) :
    Calls Try.prog 10 #[.slice a n cap] w fun e w' => e = .returned (.bool true) ∧ Below w.heap.size w w' := by
  by_cases hbig : 1048576 < n
  · have hb' : (1048576 : Int) < (n : Int) := by omega
    clear h
    go_enter Try.func10, Try.ntmps10
    go_wp2_with fail
    go_ret
    exact ⟨rfl, Below.refl _ _⟩
  have hb' : ¬ (1048576 : Int) < (n : Int) := by omega
  have HY := (show Hid (Bytes _ _ _) from h)
  clear h
  go_enter Try.func10, Try.ntmps10
  go_wp2_with fail
  refine (drawLogReal_any a n cap w HY.out hc hn).mono ?_
  rintro e w1 ⟨L, lv, rfl, hL, h28, hb1⟩
  have HA := (show Hid (EnsAt _ _ _) from hL.at)
  have HB := (show Hid (Below _ _ _) from hb1)
  obtain ⟨la, lc, rfl, _⟩ := hL.shape
  clear hL hb1 HY
  go_wp2_with fail
  refine (logReal_any _ L w1 HA.out (by omega)).mono ?_
  rintro e w2 ⟨⟨q1, rfl, hq1⟩, hb2⟩
  have H2 : Hid (Below w.heap.size w w2) := HB.out.trans (hb2.mono HB.out.size)
  have HA2 : Hid (EnsAt w2 (.slice la L.length lc) L) := HA.out.mono hb2
  have HQ1 := (show Hid (_ ↔ _) from hq1)
  clear hb2 hq1 HA HB
  go_wp2_with fail
  go_loopw [6, 5] (fun q b w' => ∃ (k : Nat) (t : Bool), k ≤ L.length ∧ q = .int .i64 k ∧ b = .bool t ∧ Hid (t = true ↔ LrK L k) ∧ Below w2.heap.size w2 w') (fun q _ _ => L.length - (intOf q).toNat)
  case atStart => exact ⟨0, true, Nat.zero_le _, rfl, rfl, ⟨fun _ i hi => absurd hi (Nat.not_lt_zero _), fun _ => rfl⟩, Below.refl _ _⟩
  case round =>
    obtain ⟨k, t, hk, rfl, rfl, HT, hb⟩ := hrel
    have HR : Hid (Below w.heap.size w wr) := H2.out.trans (hb.mono H2.out.size)
    have HRr := (show Hid (Below _ _ _) from hb)
    have HAR : Hid (EnsAt wr (.slice la L.length lc) L) := HA2.out.mono hb
    clear hb
    by_cases hlt : k < L.length
    case neg =>
      have hlt' : ¬ (k : Int) < (L.length : Int) := by omega
      have ek : k = L.length := by omega
      subst ek
      have et := eq_of_iff (lrK_all HT.out) HQ1.out
      subst et
      go_wp2_with fail
      refine (sLogReal_any _ L wr HAR.out (by omega)).mono ?_
      rintro e w3 ⟨⟨q3, rfl, hq3⟩, hb3⟩
      have HF : Hid (Below w.heap.size w w3) := HR.out.trans (hb3.mono HR.out.size)
      have et := eq_of_iff hq3 HQ1.out
      subst et
      clear hb3 hq3 HT HQ1
      cases q3
      all_goals
        go_wp2_with fail
        go_ret
        exact ⟨rfl, HF.out⟩
    have hlt' : (k : Int) < (L.length : Int) := by omega
    obtain ⟨wo, hwo⟩ : ∃ wo : World, wo = wr := ⟨_, rfl⟩
    subst hwo
    go_wp2_with fail
    go_loopw [7, 5] (fun q b w' => ∃ (m : Nat) (t : Bool), m ≤ k ∧ ((m : Int) ≤ (nth En.z L k).from_ ∨ m = 0) ∧ q = .int .i64 m ∧ b = .bool t ∧ Hid (t = true ↔ LrK L k ∧ LrM L k m) ∧ Below wo.heap.size wo w') (fun q _ _ => k - (intOf q).toNat)
    case atStart => exact ⟨0, t, Nat.zero_le _, .inr rfl, rfl, rfl, ⟨fun h => ⟨HT.out.1 h, fun j hj => absurd hj (Nat.not_lt_zero _)⟩, fun h => HT.out.2 h.1⟩, Below.refl _ _⟩
    case round =>
      obtain ⟨m, t', hmk, hmf, rfl, rfl, HM, hb⟩ := hrel
      have HRx : Hid (Below w2.heap.size w2 wr) := HRr.out.trans (hb.mono HRr.out.size)
      have HRo := (show Hid (Below _ _ _) from hb)
      have hwx : wo.heap.size ≤ wr.heap.size := hb.size
      have hAx : EnsAt wr (.slice la L.length lc) L := HAR.out.mono hb
      clear hb
      obtain ⟨_, _, eL, _, hcx⟩ := hAx
      injection eL with eL1 eL2 eL3
      subst eL1 eL3
      obtain ⟨b, off, v3, v4, eb, hbw, c0, c1, c2, c3, c4, c5, h3, h4⟩ := hcx k hlt
      obtain ⟨a3, e3, rfl, hm3⟩ := h3.shape
      obtain ⟨a4, e4, rfl, hm4⟩ := h4.shape
      subst eb
      clear h3 h4 eL2
      by_cases hlf : (m : Int) < (nth En.z L k).from_
      case neg =>
        have HN : Hid (t' = true ↔ LrK L (k + 1)) := lrK_next HM.out (fun j => by omega)
        clear hcx
        go_wp2_with fail
        go_roundw
        case rel => exact ⟨k + 1, t', by omega, by go_num, rfl, HN, HRx.out⟩
        case measure => simp [intOf]; omega
      by_cases hlk : m < k
      case neg =>
        have hlk' : ¬ (m : Int) < (k : Int) := by omega
        have HN : Hid (t' = true ↔ LrK L (k + 1)) := lrK_next HM.out (fun j => by omega)
        clear hcx
        go_wp2_with fail
        go_roundw
        case rel => exact ⟨k + 1, t', by omega, by go_num, rfl, HN, HRx.out⟩
        case measure => simp [intOf]; omega
      have hlk' : (m : Int) < (k : Int) := by omega
      have hmx : m < L.length := by omega
      have hmx' : (m : Int) < (L.length : Int) := by omega
      obtain ⟨b', off', u3, u4, eb, hbw', d0, d1, d2, d3, d4, d5, g3, g4⟩ := hcx m hmx
      injection eb with eb
      injection eb with eb1 eb2
      subst eb1 eb2
      obtain ⟨f3, k3, rfl, hn3⟩ := g3.shape
      obtain ⟨f4, k4, rfl, hn4⟩ := g4.shape
      clear g3 g4 hcx
      have HN := (show Hid (_ ↔ _) from lrM_next HM.out)
      cases t'
      · have HN' : Hid (false = true ↔ LrK L k ∧ LrM L k (m + 1)) := by have hx := HN.out; unfold Hid; simpa using hx
        clear HN HM
        go_wp2_with fail
        (try go_quiet (fail))
        (try go_wp2_with fail)
        go_roundw
        case rel => exact ⟨m + 1, false, by omega, .inl (by omega), by go_num, rfl, HN', (by repeat (first | with_reducible exact HRo.out | with_reducible refine Below.drew ?_ | with_reducible refine below_drewN ?_ _))⟩
        case measure => simp [intOf]; omega
      · rw [Bool.true_and] at HN
        clear HM
        go_wp2_with fail
        go_region_with (go_at_call 40; refine (lqAhead_any (nth En.z L k) (nth En.z L m) _ _ _ _ _ _ _ _ _).mono ?_; rintro e w5 ⟨rfl, hb5⟩)
        all_goals
          have HB5 : Hid (Below wo.heap.size wo w5) := below_then (by repeat (first | with_reducible exact HRo.out | with_reducible refine Below.drew ?_ | with_reducible refine below_drewN ?_ _)) (by (try simp); try omega) hb5
          clear hb5 c0 c1 c2 c3 c4 c5 d0 d1 d2 d3 d4 d5
          revert HN
          generalize ahB (nth En.z L k) (nth En.z L m) = hv
          intro HN
          cases hv
          all_goals
            go_wp2_with fail
            go_roundw
            case rel => exact ⟨m + 1, _, by omega, .inl (by omega), by go_num, rfl, HN, HB5.out⟩
            case measure => simp [intOf]; omega


end Go.Proofs.Ytnbgonmdjgapnaa
