import Derived.Test.YtpncmjlaijojlaaH2
namespace Go.Proofs.Ytpncmjlaijojlaa
open Go.RowKit
set_option linter.unusedSimpArgs false
set_option linter.unusedVariables false
set_option maxRecDepth 20000

set_option maxHeartbeats 4000000 in
theorem changeCut_walk (a : Option Addr) (n cap : Nat) (b : Option Addr) (m capm : Nat) (w : World) (h : Bytes w a n) (hc : n ≤ cap) (hn : cap ≤ 9223372036854775807) (hcm : m ≤ capm) (hnm : capm ≤ 9223372036854775807) :
    Calls Try.prog 4 #[.slice a n cap, .slice b m capm] w fun e w' => e = .returned (.bool true) ∧ Below w.heap.size w w' := by
  by_cases hbig : 1048576 < n
  · have hbig' : decide ((1048576 : Int) < (n : Int)) = true := by simp; omega
    clear h
    go_enter Try.func4, Try.ntmps4
    go_wp2_with fail
    go_ret
    exact ⟨rfl, Below.refl _ _⟩
  have hbig' : decide ((1048576 : Int) < (n : Int)) = false := by simp; omega
  by_cases hbm : 1048576 < m
  · have hbm' : (1048576 : Int) < (m : Int) := by omega
    clear h
    go_enter Try.func4, Try.ntmps4
    go_wp2_with fail
    go_ret
    exact ⟨rfl, Below.refl _ _⟩
  have hbm' : ¬ (1048576 : Int) < (m : Int) := by omega
  have HBy := (show Hid (Bytes _ _ _) from h)
  clear h
  go_enter Try.func4, Try.ntmps4
  go_wp2_with fail
  refine (drawChangeDo_any a n cap _ HBy.out hc hn).mono ?_
  rintro e w1 ⟨cv, rv, dv, c, r, ds, rfl, hoc, hor, hod, hl6, hb1⟩
  obtain ⟨ac, cc, rfl, hcc, _⟩ := own_shape hoc
  obtain ⟨ar, cr, rfl, hcr, _⟩ := own_shape hor
  obtain ⟨ad, cd, rfl, hcd, hcd'⟩ := own_shape hod
  obtain ⟨C, R, ok, hX⟩ : ∃ C R ok, chX c r ds = (C, R, ok) := ⟨_, _, _, rfl⟩
  have HX := (show Hid (chX _ _ _ = _) from hX)
  have HC := (show Hid (IntsAt _ _ _) from hoc.at)
  have HR := (show Hid (IntsAt _ _ _) from hor.at)
  have HD := (show Hid (DeedsAt _ _ _) from hod.at)
  have HOD := (show Hid (OwnDe _ _ _ _) from hod)
  have HB1 := (show Hid (Below _ _ _) from hb1)
  clear hoc hor hod hb1 hX HBy
  go_wp2_with fail
  refine (sChangeDo_is HX.out _ _ _ _ HC.out HR.out HD.out).mono ?_
  rintro e w2 ⟨a0, k0, a1, k1, rfl, hs0, hs1, hb2⟩
  have HS0 := (show Hid (IntsAt _ _ _) from hs0)
  have HS1 := (show Hid (IntsAt _ _ _) from hs1)
  have HB2 := (show Hid (Below _ _ _) from hb2)
  clear hs0 hs1 hb2
  go_wp2_with fail
  refine (changeDo_is HX.out _ _ _ _ (HC.out.mono HB2.out) (HR.out.mono HB2.out) (HD.out.mono HB2.out)).mono ?_
  rintro e w3 ⟨a2, k2, a3, k3, rfl, hy0, hy1, hb3⟩
  have HY0 := (show Hid (IntsAt _ _ _) from hy0)
  have HY1 := (show Hid (IntsAt _ _ _) from hy1)
  have HS0' := (show Hid (IntsAt _ _ _) from HS0.out.mono hb3)
  have HS1' := (show Hid (IntsAt _ _ _) from HS1.out.mono hb3)
  have HB3 : Hid (Below w1.heap.size w1 w3) := below_then HB2.out HB2.out.size hb3
  clear hy0 hy1 hb3 HS0 HS1 HB2
  have hlenC : C.length ≤ 9223372036854775807 := by obtain ⟨_, _, e, h⟩ := HY0.out.shape; exact h
  cases ok
  · go_wp2_with fail
    refine (lqInts_same C _ _ _ HY0.out HS0'.out).mono ?_
    rintro e w4 ⟨rfl, hb4⟩
    have HY1b := (show Hid (IntsAt _ _ _) from HY1.out.mono hb4)
    have HS1b := (show Hid (IntsAt _ _ _) from HS1'.out.mono hb4)
    have HB4 : Hid (Below w1.heap.size w1 w4) := below_then HB3.out HB3.out.size hb4
    have HY0b := (show Hid (IntsAt _ _ _) from HY0.out.mono hb4)
    have HS0b := (show Hid (IntsAt _ _ _) from HS0'.out.mono hb4)
    clear hb4 HY1 HS1' HB3 HY0 HS0'
    go_wp2_with fail
    refine (lqInts_same R _ _ _ HY1b.out HS1b.out).mono ?_
    rintro e w5 ⟨rfl, hb5⟩
    have HB5 : Hid (Below w1.heap.size w1 w5) := below_then HB4.out HB4.out.size hb5
    have HY1c := (show Hid (IntsAt _ _ _) from HY1b.out.mono hb5)
    have HS1c := (show Hid (IntsAt _ _ _) from HS1b.out.mono hb5)
    have HY0c := (show Hid (IntsAt _ _ _) from HY0b.out.mono hb5)
    have HS0c := (show Hid (IntsAt _ _ _) from HS0b.out.mono hb5)
    clear hb5 HY1b HS1b HB4 HY0b HS0b
    go_wp2_with fail
    refine (lqInts_same C _ _ _ HY0c.out HS0c.out).mono ?_
    rintro e w6 ⟨rfl, hb6⟩
    have HB6 : Hid (Below w1.heap.size w1 w6) := below_then HB5.out HB5.out.size hb6
    have HY1d := (show Hid (IntsAt _ _ _) from HY1c.out.mono hb6)
    have HS1d := (show Hid (IntsAt _ _ _) from HS1c.out.mono hb6)
    clear hb6 HY1c HS1c HB5 HY0c HS0c
    go_wp2_with fail
    refine (lqInts_same R _ _ _ HY1d.out HS1d.out).mono ?_
    rintro e w7 ⟨rfl, hb7⟩
    have HB7 : Hid (Below w1.heap.size w1 w7) := below_then HB6.out HB6.out.size hb7
    clear hb7
    go_wp2_with fail
    go_ret
    exact ⟨rfl, HB1.out.trans (HB7.out.mono HB1.out.size)⟩
  go_wp2_with fail
  refine (lqInts_same C _ _ _ HY0.out HS0'.out).mono ?_
  rintro e w4 ⟨rfl, hb4⟩
  have HY1b := (show Hid (IntsAt _ _ _) from HY1.out.mono hb4)
  have HS1b := (show Hid (IntsAt _ _ _) from HS1'.out.mono hb4)
  have HY0b := (show Hid (IntsAt _ _ _) from HY0.out.mono hb4)
  have HS0b := (show Hid (IntsAt _ _ _) from HS0'.out.mono hb4)
  have HB4 : Hid (Below w1.heap.size w1 w4) := below_then HB3.out HB3.out.size hb4
  clear hb4 HY1 HS1' HB3 HY0 HS0'
  go_wp2_with fail
  refine (lqInts_same R _ _ _ HY1b.out HS1b.out).mono ?_
  rintro e w5 ⟨rfl, hb5⟩
  have HY0c := (show Hid (IntsAt _ _ _) from HY0b.out.mono hb5)
  have HY1c := (show Hid (IntsAt _ _ _) from HY1b.out.mono hb5)
  have HS0c := (show Hid (IntsAt _ _ _) from HS0b.out.mono hb5)
  have HS1c := (show Hid (IntsAt _ _ _) from HS1b.out.mono hb5)
  have HB5 : Hid (Below w1.heap.size w1 w5) := below_then HB4.out HB4.out.size hb5
  clear hb5 HS1b HB4 HY0b HY1b HS0b
  clear HS0c HS1c
  obtain ⟨q, hq⟩ : ∃ q : Nat, q = m % (ds.length + 1) := ⟨_, rfl⟩
  have hqle : q ≤ ds.length := by have := Nat.mod_lt m (show 0 < ds.length + 1 by omega); omega
  have hqi : ((m : Int) % ((ds.length : Int) + 1)) = (q : Int) := by rw [hq]; simp
  have hqcd : (q : Int) ≤ (cd : Int) := by omega
  have hqlen : (q : Int) ≤ (ds.length : Int) := by omega
  have hql2 : ¬ (ds.length : Int) < (q : Int) := by omega
  have hql3 : ¬ (cd : Int) < (q : Int) := by omega
  obtain ⟨c1, r1, hX1, hX2⟩ := chX_cut HX.out q
  have HX1 := (show Hid (chX _ _ _ = _) from hX1)
  have HX2 := (show Hid (chX _ _ _ = _) from hX2)
  clear hX1 hX2 hq
  have HD5 := (show Hid (DeedsAt _ _ _) from HD.out.mono HB5.out)
  go_wp2_with fail
  refine (changeDo_is HX1.out _ _ _ _ (HC.out.mono HB5.out) (HR.out.mono HB5.out) (HD5.out.take q hqle cd)).mono ?_
  rintro e w6 ⟨a4, k4, a5, k5, rfl, hz0, hz1, hb6⟩
  have HZ0 := (show Hid (IntsAt _ _ _) from hz0)
  have HZ1 := (show Hid (IntsAt _ _ _) from hz1)
  have HB6 : Hid (Below w1.heap.size w1 w6) := below_then HB5.out HB5.out.size hb6
  have HD6 := (show Hid (DeedsAt _ _ _) from HD5.out.mono hb6)
  have HY0d := (show Hid (IntsAt _ _ _) from HY0c.out.mono hb6)
  have HY1d := (show Hid (IntsAt _ _ _) from HY1c.out.mono hb6)
  clear hz0 hz1 hb6 HB5 HD5 HY0c HY1c
  have hcase : (ad = none ∧ ds.length = 0 ∧ cd = 0) ∨ ∃ g, ad = some ⟨g, 0, none⟩ := by
    rcases HOD.out.2 with ⟨e, h0⟩ | ⟨g, cap, cur, e, _⟩
    · injection e with e1 e2 e3; exact .inl ⟨e1, h0, e3⟩
    · injection e with e1; exact .inr ⟨g, e1⟩
  clear HOD
  rcases hcase with ⟨rfl, hd0, rfl⟩ | ⟨g, rfl⟩
  · have hq0 : q = 0 := by omega
    subst hq0
    have hds : ds = [] := List.eq_nil_of_length_eq_zero hd0
    subst hds
    go_wp2_with fail
    refine (changeDo_is HX2.out _ _ _ _ HZ0.out HZ1.out (DeedsAt.nil _ _ _)).mono ?_
    rintro e w7 ⟨a6, k6, a7, k7, rfl, hv0, hv1, hb7⟩
    have HV0 := (show Hid (IntsAt _ _ _) from hv0)
    have HV1 := (show Hid (IntsAt _ _ _) from hv1)
    have HB7 : Hid (Below w1.heap.size w1 w7) := below_then HB6.out HB6.out.size hb7
    have HY0e := (show Hid (IntsAt _ _ _) from HY0d.out.mono hb7)
    have HY1e := (show Hid (IntsAt _ _ _) from HY1d.out.mono hb7)
    clear hv0 hv1 hb7
    go_wp2_with fail
    refine (lqInts_same _ _ _ _ (HV0.out) (HY0e.out)).mono ?_
    rintro e wx1 ⟨rfl, hx1⟩
    have HP1 := (show Hid (IntsAt _ _ _) from IntsAt.mono (HV1.out) hx1)
    have HQ1 := (show Hid (IntsAt _ _ _) from IntsAt.mono (HY1e.out) hx1)
    have HBx1 : Hid (Below w1.heap.size w1 wx1) := below_then HB7.out HB7.out.size hx1
    clear hx1
    go_wp2_with fail
    refine (lqInts_same _ _ _ _ HP1.out HQ1.out).mono ?_
    rintro e wx2 ⟨rfl, hx2⟩
    have HBx2 : Hid (Below w1.heap.size w1 wx2) := below_then HBx1.out HBx1.out.size hx2
    clear hx2
    go_wp2_with fail
    go_ret
    exact ⟨rfl, HB1.out.trans (HBx2.out.mono HB1.out.size)⟩
  · go_wp2_with fail
    all_goals
      refine (changeDo_is HX2.out _ _ _ _ HZ0.out HZ1.out (by first | exact DeedsAt.dropEnd _ _ _ (by omega) | (have hh := HD6.out.drop q hqle (cd - q); rwa [Nat.zero_add] at hh))).mono ?_
      rintro e w7 ⟨a6, k6, a7, k7, rfl, hv0, hv1, hb7⟩
      have HV0 := (show Hid (IntsAt _ _ _) from hv0)
      have HV1 := (show Hid (IntsAt _ _ _) from hv1)
      have HB7 : Hid (Below w1.heap.size w1 w7) := below_then HB6.out HB6.out.size hb7
      have HY0e := (show Hid (IntsAt _ _ _) from HY0d.out.mono hb7)
      have HY1e := (show Hid (IntsAt _ _ _) from HY1d.out.mono hb7)
      clear hv0 hv1 hb7
      go_wp2_with fail
      refine (lqInts_same _ _ _ _ (HV0.out) (HY0e.out)).mono ?_
      rintro e wx1 ⟨rfl, hx1⟩
      have HP1 := (show Hid (IntsAt _ _ _) from IntsAt.mono (HV1.out) hx1)
      have HQ1 := (show Hid (IntsAt _ _ _) from IntsAt.mono (HY1e.out) hx1)
      have HBx1 : Hid (Below w1.heap.size w1 wx1) := below_then HB7.out HB7.out.size hx1
      clear hx1
      go_wp2_with fail
      refine (lqInts_same _ _ _ _ HP1.out HQ1.out).mono ?_
      rintro e wx2 ⟨rfl, hx2⟩
      have HBx2 : Hid (Below w1.heap.size w1 wx2) := below_then HBx1.out HBx1.out.size hx2
      clear hx2
      go_wp2_with fail
      go_ret
      exact ⟨rfl, HB1.out.trans (HBx2.out.mono HB1.out.size)⟩

end Go.Proofs.Ytpncmjlaijojlaa
