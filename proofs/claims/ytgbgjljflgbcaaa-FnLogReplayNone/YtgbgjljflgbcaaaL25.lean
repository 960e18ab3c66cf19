/-
  FnLogReplayNone (by mkl24.py).
-/
import Derived.Test.YtgbgjljflgbcaaaBase44
namespace Go.Proofs.Ytgbgjljflgbcaaa
open Go.RowKit
set_option linter.unusedSimpArgs false
set_option linter.unusedVariables false
set_option maxRecDepth 20000

set_option maxHeartbeats 4000000 in
theorem fnLogReplayNone_walk (a : Option Addr) (n cap : Nat) (w : World) (h : Bytes w a n) (hc : n ≤ cap) (hn : cap ≤ 9223372036854775807) :
    Calls Try.prog 6 #[.slice a n cap] w fun e w' => e = .returned (.bool true) ∧ Below w.heap.size w w' := by
  by_cases hbig : 1048576 < n
  · have hb' : (1048576 : Int) < (n : Int) := by omega
    clear h
    go_enter Try.func6, Try.ntmps6
    go_wp2_with fail
    go_ret
    exact ⟨rfl, Below.refl _ _⟩
  have hb' : ¬ (1048576 : Int) < (n : Int) := by omega
  have HY := (show Hid (Bytes _ _ _) from h)
  clear h
  go_enter Try.func6, Try.ntmps6
  go_wp2_with fail
  refine (drawLogReplay_any a n cap w HY.out hc hn).mono ?_
  rintro e w1 ⟨cs, L, cv, lv, rfl, hC, hL, hc1, hc3, h28, hb1⟩
  obtain ⟨ca, cc, rfl, _⟩ := hC.shape
  obtain ⟨la, lc, rfl, _⟩ := hL.shape
  have C1 := (show Hid (IntsAt _ _ _) from hC)
  have L1 := (show Hid (EnsAt _ _ _) from hL)
  have B1 := (show Hid (Below _ _ _) from hb1)
  have hcs : cs.length ≤ 1048576 := by omega
  clear hC hL hb1 HY
  go_wp2_with fail
  cases hro : rpO cs L with
  | none =>
    have HRO := (show Hid (_ = _) from hro)
    clear hro
    refine (sLogReplay_no HRO.out _ _ w1 C1.out L1.out hcs).mono ?_
    rintro e w2 ⟨v2, rfl, hv, hb⟩
    have B2 : Hid (Below w.heap.size w w2) := B1.out.trans (hb.mono B1.out.size)
    have C2 : Hid (IntsAt w2 (.slice ca cs.length cc) cs) := C1.out.mono hb
    have L2 : Hid (EnsAt w2 (.slice la L.length lc) L) := L1.out.mono hb
    have W2 : Hid (IntsAt w2 v2 []) := OwnInt.at hv
    clear hb B1 C1 L1
    clear hv
    go_wp2_with fail
    refine (logReplay_no HRO.out _ _ w2 C2.out L2.out hcs).mono ?_
    rintro e w3 ⟨v3, rfl, hv, hb⟩
    have B3 : Hid (Below w.heap.size w w3) := B2.out.trans (hb.mono B2.out.size)
    have C3 : Hid (IntsAt w3 (.slice ca cs.length cc) cs) := C2.out.mono hb
    have L3 : Hid (EnsAt w3 (.slice la L.length lc) L) := L2.out.mono hb
    have W3 : Hid (IntsAt w3 v2 []) := W2.out.mono hb
    clear hb B2 C2 L2 W2
    have X3 : Hid (IntsAt w3 _ []) := OwnInt.at hv
    clear hv
    go_wp2_with fail
    refine (logReplay_yes (rpO_nil cs) _ _ w3 C3.out (ens_nil _) hcs).mono ?_
    rintro e w4 ⟨v4, rfl, hv, hb⟩
    have B4 : Hid (Below w.heap.size w w4) := B3.out.trans (hb.mono B3.out.size)
    have C4 : Hid (IntsAt w4 (.slice ca cs.length cc) cs) := C3.out.mono hb
    have L4 : Hid (EnsAt w4 (.slice la L.length lc) L) := L3.out.mono hb
    have W4 : Hid (IntsAt w4 v2 []) := W3.out.mono hb
    have X4 : Hid (IntsAt w4 _ []) := X3.out.mono hb
    have Y4 : Hid (IntsAt w4 v4 cs) := OwnInt.at hv
    clear hb B3 C3 L3 W3 X3
    clear hv
    go_wp2_with fail
    refine (lqI_same [] _ _ w4 X4.out W4.out).mono ?_
    rintro e w5 ⟨rfl, hb⟩
    have B5 : Hid (Below w.heap.size w w5) := B4.out.trans (hb.mono B4.out.size)
    have C5 : Hid (IntsAt w5 (.slice ca cs.length cc) cs) := C4.out.mono hb
    have L5 : Hid (EnsAt w5 (.slice la L.length lc) L) := L4.out.mono hb
    have W5 : Hid (IntsAt w5 v2 []) := W4.out.mono hb
    have X5 : Hid (IntsAt w5 _ []) := X4.out.mono hb
    have Y5 : Hid (IntsAt w5 v4 cs) := Y4.out.mono hb
    clear hb B4 C4 L4 W4 X4 Y4
    go_wp2_with fail
    refine (lqI_same cs _ _ w5 Y5.out C5.out).mono ?_
    rintro e w6 ⟨rfl, hb⟩
    have B6 : Hid (Below w.heap.size w w6) := B5.out.trans (hb.mono B5.out.size)
    have C6 : Hid (IntsAt w6 (.slice ca cs.length cc) cs) := C5.out.mono hb
    have L6 : Hid (EnsAt w6 (.slice la L.length lc) L) := L5.out.mono hb
    have W6 : Hid (IntsAt w6 v2 []) := W5.out.mono hb
    have X6 : Hid (IntsAt w6 _ []) := X5.out.mono hb
    have Y6 : Hid (IntsAt w6 v4 cs) := Y5.out.mono hb
    clear hb B5 C5 L5 W5 X5 Y5
    go_wp2_with fail
    go_ret
    exact ⟨rfl, B6.out⟩
  | some r =>
    have hrl : r.length = cs.length := rpO_len hro
    have hrli : ((r.length : Nat) : Int) = ((cs.length : Nat) : Int) := by omega
    have HRO := (show Hid (_ = _) from hro)
    clear hro
    refine (sLogReplay_yes HRO.out _ _ w1 C1.out L1.out hcs).mono ?_
    rintro e w2 ⟨v2, rfl, hv, hb⟩
    have B2 : Hid (Below w.heap.size w w2) := B1.out.trans (hb.mono B1.out.size)
    have C2 : Hid (IntsAt w2 (.slice ca cs.length cc) cs) := C1.out.mono hb
    have L2 : Hid (EnsAt w2 (.slice la L.length lc) L) := L1.out.mono hb
    have W2 : Hid (IntsAt w2 v2 r) := OwnInt.at hv
    clear hb B1 C1 L1
    clear hv
    go_wp2_with fail
    refine (logReplay_yes HRO.out _ _ w2 C2.out L2.out hcs).mono ?_
    rintro e w3 ⟨v3, rfl, hv, hb⟩
    have B3 : Hid (Below w.heap.size w w3) := B2.out.trans (hb.mono B2.out.size)
    have C3 : Hid (IntsAt w3 (.slice ca cs.length cc) cs) := C2.out.mono hb
    have L3 : Hid (EnsAt w3 (.slice la L.length lc) L) := L2.out.mono hb
    have W3 : Hid (IntsAt w3 v2 r) := W2.out.mono hb
    clear hb B2 C2 L2 W2
    obtain ⟨xa, xc, ex, _⟩ := own_shape hv
    rw [hrl] at ex
    subst ex
    have X3 : Hid (IntsAt w3 _ r) := OwnInt.at hv
    clear hv
    go_wp2_with fail
    refine (logReplay_yes (rpO_nil cs) _ _ w3 C3.out (ens_nil _) hcs).mono ?_
    rintro e w4 ⟨v4, rfl, hv, hb⟩
    have B4 : Hid (Below w.heap.size w w4) := B3.out.trans (hb.mono B3.out.size)
    have C4 : Hid (IntsAt w4 (.slice ca cs.length cc) cs) := C3.out.mono hb
    have L4 : Hid (EnsAt w4 (.slice la L.length lc) L) := L3.out.mono hb
    have W4 : Hid (IntsAt w4 v2 r) := W3.out.mono hb
    have X4 : Hid (IntsAt w4 _ r) := X3.out.mono hb
    have Y4 : Hid (IntsAt w4 v4 cs) := OwnInt.at hv
    clear hb B3 C3 L3 W3 X3
    clear hv
    go_wp2_with fail
    refine (lqI_same r _ _ w4 X4.out W4.out).mono ?_
    rintro e w5 ⟨rfl, hb⟩
    have B5 : Hid (Below w.heap.size w w5) := B4.out.trans (hb.mono B4.out.size)
    have C5 : Hid (IntsAt w5 (.slice ca cs.length cc) cs) := C4.out.mono hb
    have L5 : Hid (EnsAt w5 (.slice la L.length lc) L) := L4.out.mono hb
    have W5 : Hid (IntsAt w5 v2 r) := W4.out.mono hb
    have X5 : Hid (IntsAt w5 _ r) := X4.out.mono hb
    have Y5 : Hid (IntsAt w5 v4 cs) := Y4.out.mono hb
    clear hb B4 C4 L4 W4 X4 Y4
    go_wp2_with fail
    refine (lqI_same cs _ _ w5 Y5.out C5.out).mono ?_
    rintro e w6 ⟨rfl, hb⟩
    have B6 : Hid (Below w.heap.size w w6) := B5.out.trans (hb.mono B5.out.size)
    have C6 : Hid (IntsAt w6 (.slice ca cs.length cc) cs) := C5.out.mono hb
    have L6 : Hid (EnsAt w6 (.slice la L.length lc) L) := L5.out.mono hb
    have W6 : Hid (IntsAt w6 v2 r) := W5.out.mono hb
    have X6 : Hid (IntsAt w6 _ r) := X5.out.mono hb
    have Y6 : Hid (IntsAt w6 v4 cs) := Y5.out.mono hb
    clear hb B5 C5 L5 W5 X5 Y5
    go_wp2_with fail
    go_ret
    exact ⟨rfl, B6.out⟩

end Go.Proofs.Ytgbgjljflgbcaaa
