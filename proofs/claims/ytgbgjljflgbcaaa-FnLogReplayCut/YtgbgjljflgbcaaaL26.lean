/-
  FnLogReplayCut (by mkl24.py).
-/
import Derived.Test.YtgbgjljflgbcaaaBase44
namespace Go.Proofs.Ytgbgjljflgbcaaa
open Go.RowKit
set_option linter.unusedSimpArgs false
set_option linter.unusedVariables false
set_option maxRecDepth 20000

set_option maxHeartbeats 4000000 in
theorem fnLogReplayCut_walk (a : Option Addr) (n cap : Nat) (a2 : Option Addr) (m capm : Nat) (w : World) (h : Bytes w a n) (hc : n ≤ cap) (hn : cap ≤ 9223372036854775807) (hcm : m ≤ capm) (hnm : capm ≤ 9223372036854775807) :
    Calls Try.prog 5 #[.slice a n cap, .slice a2 m capm] w fun e w' => e = .returned (.bool true) ∧ Below w.heap.size w w' := by
  by_cases hbig : 1048576 < n
  · have hb' : (1048576 : Int) < (n : Int) := by omega
    clear h
    go_enter Try.func5, Try.ntmps5
    go_wp2_with fail
    go_ret
    exact ⟨rfl, Below.refl _ _⟩
  have hb' : ¬ (1048576 : Int) < (n : Int) := by omega
  by_cases hbig2 : 1048576 < m
  · have hb2' : (1048576 : Int) < (m : Int) := by omega
    clear h
    go_enter Try.func5, Try.ntmps5
    go_wp2_with fail
    go_ret
    exact ⟨rfl, Below.refl _ _⟩
  have hb2' : ¬ (1048576 : Int) < (m : Int) := by omega
  have HY := (show Hid (Bytes _ _ _) from h)
  clear h
  go_enter Try.func5, Try.ntmps5
  go_wp2_with fail
  refine (drawLogReplay_any a n cap w HY.out hc hn).mono ?_
  rintro e w1 ⟨cs, L, cv, lv, rfl, hC, hL, hc1, hc3, h28, hb1⟩
  obtain ⟨ca, cc, rfl, _⟩ := hC.shape
  obtain ⟨la, lc, rfl, _⟩ := hL.shape
  have C1 := (show Hid (IntsAt _ _ _) from hC)
  have L1 := (show Hid (EnsAt _ _ _) from hL)
  have B1 := (show Hid (Below _ _ _) from hb1)
  have hcs : cs.length ≤ 1048576 := by omega
  clear hC hL hb1 HY
  go_wp2_with fail
  obtain ⟨cut, hct, hcu⟩ : ∃ c : Nat, (m : Int).tmod ((L.length : Int) + 1) = (c : Int) ∧ c ≤ L.length := by
    have h1 : (0 : Int) < (L.length : Int) + 1 := by omega
    have h2 := Int.tmod_lt_of_pos (m : Int) h1
    have h3 := Int.tmod_nonneg ((L.length : Int) + 1) (show (0 : Int) ≤ (m : Int) by omega)
    exact ⟨((m : Int).tmod ((L.length : Int) + 1)).toNat, by omega, by omega⟩
  have hcl : L.length ≤ lc ∧ lc ≤ 9223372036854775807 := by obtain ⟨_, _, e, h, _⟩ := L1.out.cap; injection e with _ _ e3; omega
  have hcl' : (cut : Int) ≤ (lc : Int) := by omega
  have hcl2 : (cut : Int) ≤ (L.length : Int) := by omega
  have hcl0 : (0 : Int) ≤ (cut : Int) := by omega
  cases hro : rpO cs L with
  | none =>
    have HRO := (show Hid (_ = _) from hro)
    clear hro
    refine (sLogReplay_no HRO.out _ _ w1 C1.out L1.out hcs).mono ?_
    rintro e w2 ⟨v2, rfl, hv, hb⟩
    have B2 : Hid (Below w.heap.size w w2) := B1.out.trans (hb.mono B1.out.size)
    have C2 : Hid (IntsAt w2 (.slice ca cs.length cc) cs) := C1.out.mono hb
    have L2 : Hid (EnsAt w2 (.slice la L.length lc) L) := L1.out.mono hb
    have W2 : Hid (IntsAt w2 v2 []) := OwnInt.at hv
    clear hb B1 C1 L1
    clear hv
    go_wp2_with fail
    refine (logReplay_no HRO.out _ _ w2 C2.out L2.out hcs).mono ?_
    rintro e w3 ⟨v3, rfl, hv, hb⟩
    have B3 : Hid (Below w.heap.size w w3) := B2.out.trans (hb.mono B2.out.size)
    have C3 : Hid (IntsAt w3 (.slice ca cs.length cc) cs) := C2.out.mono hb
    have L3 : Hid (EnsAt w3 (.slice la L.length lc) L) := L2.out.mono hb
    have W3 : Hid (IntsAt w3 v2 []) := W2.out.mono hb
    have X3 : Hid (IntsAt w3 v3 []) := OwnInt.at hv
    clear hb B2 C2 L2 W2
    clear hv
    go_wp2_with fail
    refine (lqI_same [] _ _ w3 X3.out W3.out).mono ?_
    rintro e w4 ⟨rfl, hb⟩
    have B4 : Hid (Below w.heap.size w w4) := B3.out.trans (hb.mono B3.out.size)
    have C4 : Hid (IntsAt w4 (.slice ca cs.length cc) cs) := C3.out.mono hb
    have L4 : Hid (EnsAt w4 (.slice la L.length lc) L) := L3.out.mono hb
    have W4 : Hid (IntsAt w4 v2 []) := W3.out.mono hb
    have X4 : Hid (IntsAt w4 v3 []) := X3.out.mono hb
    clear hb B3 C3 L3 W3 X3
    go_wp2_with fail
    have T4 : Hid (EnsAt w4 (.slice la cut lc) (L.take cut)) := L4.out.takeC hcu
    cases hr1 : rpO cs (L.take cut) with
    | none =>
      have HR1 := (show Hid (_ = _) from hr1)
      clear hr1
      refine (logReplay_no HR1.out _ _ w4 C4.out T4.out hcs).mono ?_
      rintro e w5 ⟨v5, rfl, hv, hb⟩
      have B5 : Hid (Below w.heap.size w w5) := B4.out.trans (hb.mono B4.out.size)
      have C5 : Hid (IntsAt w5 (.slice ca cs.length cc) cs) := C4.out.mono hb
      have L5 : Hid (EnsAt w5 (.slice la L.length lc) L) := L4.out.mono hb
      have W5 : Hid (IntsAt w5 v2 []) := W4.out.mono hb
      have X5 : Hid (IntsAt w5 v3 []) := X4.out.mono hb
      have T5 : Hid (EnsAt w5 (.slice la cut lc) (L.take cut)) := T4.out.mono hb
      clear hb B4 C4 L4 W4 X4 T4
      clear hv
      go_wp2_with fail
      go_ret
      exact ⟨rfl, B5.out⟩
    | some y =>
      have hyl : y.length ≤ 1048576 := by have := rpO_len hr1; omega
      have HR2 : Hid (rpO y (L.drop cut) = none) := by
        have := HRO.out
        rw [rpO_cut cs L cut, hr1] at this
        exact this
      have HR1 := (show Hid (_ = _) from hr1)
      clear hr1
      refine (logReplay_yes HR1.out _ _ w4 C4.out T4.out hcs).mono ?_
      rintro e w5 ⟨v5, rfl, hv, hb⟩
      have B5 : Hid (Below w.heap.size w w5) := B4.out.trans (hb.mono B4.out.size)
      have C5 : Hid (IntsAt w5 (.slice ca cs.length cc) cs) := C4.out.mono hb
      have L5 : Hid (EnsAt w5 (.slice la L.length lc) L) := L4.out.mono hb
      have W5 : Hid (IntsAt w5 v2 []) := W4.out.mono hb
      have X5 : Hid (IntsAt w5 v3 []) := X4.out.mono hb
      have T5 : Hid (EnsAt w5 (.slice la cut lc) (L.take cut)) := T4.out.mono hb
      have Y5 : Hid (IntsAt w5 v5 y) := OwnInt.at hv
      clear hb B4 C4 L4 W4 X4 T4
      clear hv
      by_cases hend : cut = L.length
      case pos =>
        have HR3 : Hid (rpO y [] = none) := by have h1 := HR2.out; rwa [List.drop_eq_nil_of_le (by omega)] at h1
        clear HR2
        go_wp2_with fail
        all_goals
          refine (logReplay_no HR3.out _ _ w5 Y5.out (EnsAt.zero _ _ (by omega)) hyl).mono ?_
          rintro e w6 ⟨v6, rfl, hv, hb⟩
          have B6 : Hid (Below w.heap.size w w6) := B5.out.trans (hb.mono B5.out.size)
          have Z6 : Hid (IntsAt w6 v6 []) := OwnInt.at hv
          have X6 : Hid (IntsAt w6 v3 []) := X5.out.mono hb
          clear hv hb
          go_wp2_with fail
          refine (lqI_same [] _ _ w6 Z6.out X6.out).mono ?_
          rintro e w7 ⟨rfl, hb⟩
          have B7 : Hid (Below w.heap.size w w7) := B6.out.trans (hb.mono B6.out.size)
          clear hb
          go_wp2_with fail
          go_ret
          exact ⟨rfl, B7.out⟩
      have hlt3 : (cut : Int) < (L.length : Int) := by omega
      obtain ⟨lb, lo, rfl⟩ := L5.out.block (by omega)
      go_wp2_with fail
      all_goals
        refine (logReplay_no HR2.out _ _ w5 Y5.out (EnsAt.dropC L5.out hcu ⟨by omega, by omega⟩) hyl).mono ?_
        rintro e w6 ⟨v6, rfl, hv, hb⟩
        have B6 : Hid (Below w.heap.size w w6) := B5.out.trans (hb.mono B5.out.size)
        have Z6 : Hid (IntsAt w6 v6 []) := OwnInt.at hv
        have X6 : Hid (IntsAt w6 v3 []) := X5.out.mono hb
        clear hv hb
        go_wp2_with fail
        refine (lqI_same [] _ _ w6 Z6.out X6.out).mono ?_
        rintro e w7 ⟨rfl, hb⟩
        have B7 : Hid (Below w.heap.size w w7) := B6.out.trans (hb.mono B6.out.size)
        clear hb
        go_wp2_with fail
        go_ret
        exact ⟨rfl, B7.out⟩
  | some r =>
    have HRO := (show Hid (_ = _) from hro)
    clear hro
    refine (sLogReplay_yes HRO.out _ _ w1 C1.out L1.out hcs).mono ?_
    rintro e w2 ⟨v2, rfl, hv, hb⟩
    have B2 : Hid (Below w.heap.size w w2) := B1.out.trans (hb.mono B1.out.size)
    have C2 : Hid (IntsAt w2 (.slice ca cs.length cc) cs) := C1.out.mono hb
    have L2 : Hid (EnsAt w2 (.slice la L.length lc) L) := L1.out.mono hb
    have W2 : Hid (IntsAt w2 v2 r) := OwnInt.at hv
    clear hb B1 C1 L1
    clear hv
    go_wp2_with fail
    refine (logReplay_yes HRO.out _ _ w2 C2.out L2.out hcs).mono ?_
    rintro e w3 ⟨v3, rfl, hv, hb⟩
    have B3 : Hid (Below w.heap.size w w3) := B2.out.trans (hb.mono B2.out.size)
    have C3 : Hid (IntsAt w3 (.slice ca cs.length cc) cs) := C2.out.mono hb
    have L3 : Hid (EnsAt w3 (.slice la L.length lc) L) := L2.out.mono hb
    have W3 : Hid (IntsAt w3 v2 r) := W2.out.mono hb
    have X3 : Hid (IntsAt w3 v3 r) := OwnInt.at hv
    clear hb B2 C2 L2 W2
    clear hv
    go_wp2_with fail
    refine (lqI_same r _ _ w3 X3.out W3.out).mono ?_
    rintro e w4 ⟨rfl, hb⟩
    have B4 : Hid (Below w.heap.size w w4) := B3.out.trans (hb.mono B3.out.size)
    have C4 : Hid (IntsAt w4 (.slice ca cs.length cc) cs) := C3.out.mono hb
    have L4 : Hid (EnsAt w4 (.slice la L.length lc) L) := L3.out.mono hb
    have W4 : Hid (IntsAt w4 v2 r) := W3.out.mono hb
    have X4 : Hid (IntsAt w4 v3 r) := X3.out.mono hb
    clear hb B3 C3 L3 W3 X3
    go_wp2_with fail
    have T4 : Hid (EnsAt w4 (.slice la cut lc) (L.take cut)) := L4.out.takeC hcu
    cases hr1 : rpO cs (L.take cut) with
    | none =>
      exfalso
      have := HRO.out
      rw [rpO_cut cs L cut, hr1] at this
      cases this
    | some y =>
      have hyl : y.length ≤ 1048576 := by have := rpO_len hr1; omega
      have HR2 : Hid (rpO y (L.drop cut) = some r) := by
        have := HRO.out
        rw [rpO_cut cs L cut, hr1] at this
        exact this
      have HR1 := (show Hid (_ = _) from hr1)
      clear hr1
      refine (logReplay_yes HR1.out _ _ w4 C4.out T4.out hcs).mono ?_
      rintro e w5 ⟨v5, rfl, hv, hb⟩
      have B5 : Hid (Below w.heap.size w w5) := B4.out.trans (hb.mono B4.out.size)
      have C5 : Hid (IntsAt w5 (.slice ca cs.length cc) cs) := C4.out.mono hb
      have L5 : Hid (EnsAt w5 (.slice la L.length lc) L) := L4.out.mono hb
      have W5 : Hid (IntsAt w5 v2 r) := W4.out.mono hb
      have X5 : Hid (IntsAt w5 v3 r) := X4.out.mono hb
      have T5 : Hid (EnsAt w5 (.slice la cut lc) (L.take cut)) := T4.out.mono hb
      have Y5 : Hid (IntsAt w5 v5 y) := OwnInt.at hv
      clear hb B4 C4 L4 W4 X4 T4
      clear hv
      by_cases hend : cut = L.length
      case pos =>
        have HR3 : Hid (rpO y [] = some r) := by have h1 := HR2.out; rwa [List.drop_eq_nil_of_le (by omega)] at h1
        clear HR2
        go_wp2_with fail
        all_goals
          refine (logReplay_yes HR3.out _ _ w5 Y5.out (EnsAt.zero _ _ (by omega)) hyl).mono ?_
          rintro e w6 ⟨v6, rfl, hv, hb⟩
          have B6 : Hid (Below w.heap.size w w6) := B5.out.trans (hb.mono B5.out.size)
          have Z6 : Hid (IntsAt w6 v6 r) := OwnInt.at hv
          have X6 : Hid (IntsAt w6 v3 r) := X5.out.mono hb
          clear hv hb
          go_wp2_with fail
          refine (lqI_same r _ _ w6 Z6.out X6.out).mono ?_
          rintro e w7 ⟨rfl, hb⟩
          have B7 : Hid (Below w.heap.size w w7) := B6.out.trans (hb.mono B6.out.size)
          clear hb
          go_wp2_with fail
          go_ret
          exact ⟨rfl, B7.out⟩
      have hlt3 : (cut : Int) < (L.length : Int) := by omega
      obtain ⟨lb, lo, rfl⟩ := L5.out.block (by omega)
      go_wp2_with fail
      all_goals
        refine (logReplay_yes HR2.out _ _ w5 Y5.out (EnsAt.dropC L5.out hcu ⟨by omega, by omega⟩) hyl).mono ?_
        rintro e w6 ⟨v6, rfl, hv, hb⟩
        have B6 : Hid (Below w.heap.size w w6) := B5.out.trans (hb.mono B5.out.size)
        have Z6 : Hid (IntsAt w6 v6 r) := OwnInt.at hv
        have X6 : Hid (IntsAt w6 v3 r) := X5.out.mono hb
        clear hv hb
        go_wp2_with fail
        refine (lqI_same r _ _ w6 Z6.out X6.out).mono ?_
        rintro e w7 ⟨rfl, hb⟩
        have B7 : Hid (Below w.heap.size w w7) := B6.out.trans (hb.mono B6.out.size)
        clear hb
        go_wp2_with fail
        go_ret
        exact ⟨rfl, B7.out⟩

end Go.Proofs.Ytgbgjljflgbcaaa
