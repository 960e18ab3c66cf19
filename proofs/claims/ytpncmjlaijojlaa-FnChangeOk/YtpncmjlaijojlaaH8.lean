import Derived.Test.YtpncmjlaijojlaaH7
namespace Go.Proofs.Ytpncmjlaijojlaa
open Go.RowKit
set_option linter.unusedSimpArgs false
set_option linter.unusedVariables false
set_option maxRecDepth 20000

theorem DeedsAt.recap {w : World} {a : Option Addr} {n cap : Nat} {ds : List De} (h : DeedsAt w (.slice a n cap) ds) (cap' : Nat) : DeedsAt w (.slice a n cap') ds := by
  obtain ⟨a', c', e, hm, hc⟩ := h
  injection e with e1 e2 e3
  subst e1 e2
  exact ⟨a, cap', rfl, hm, hc⟩
set_option maxHeartbeats 4000000 in
theorem changeOk_walk (a : Option Addr) (n cap : Nat) (b : Option Addr) (m capm : Nat) (w : World) (h : Bytes w a n) (hc : n ≤ cap) (hn : cap ≤ 9223372036854775807) (hcm : m ≤ capm) (hnm : capm ≤ 9223372036854775807) :
    Calls Try.prog 3 #[.slice a n cap, .slice b m capm] w fun e w' => e = .returned (.bool true) ∧ Below w.heap.size w w' := by
  by_cases hbig : 1048576 < n
  · have hbig' : decide ((1048576 : Int) < (n : Int)) = true := by simp; omega
    clear h
    go_enter Try.func3, Try.ntmps3
    go_wp2_with fail
    go_ret
    exact ⟨rfl, Below.refl _ _⟩
  have hbig' : decide ((1048576 : Int) < (n : Int)) = false := by simp; omega
  by_cases hbm : 1048576 < m
  · have hbm' : (1048576 : Int) < (m : Int) := by omega
    clear h
    go_enter Try.func3, Try.ntmps3
    go_wp2_with fail
    go_ret
    exact ⟨rfl, Below.refl _ _⟩
  have hbm' : ¬ (1048576 : Int) < (m : Int) := by omega
  have HBy := (show Hid (Bytes _ _ _) from h)
  clear h
  go_enter Try.func3, Try.ntmps3
  go_wp2_with fail
  refine (drawChangeOk_any a n cap _ HBy.out hc hn).mono ?_
  rintro e w1 ⟨ad, cd, ds, x, rfl, hod, hl10, x0, x4, hb1⟩
  obtain ⟨_, _, e1, hcd, hcd'⟩ := own_shape hod
  injection e1 with e2 e3 e4
  subst e4
  clear e2 e3
  have HOD := (show Hid (OwnDe _ _ _ _) from hod)
  have HD := (show Hid (DeedsAt _ _ _) from hod.at)
  have HB1 := (show Hid (Below _ _ _) from hb1)
  clear hod hb1 HBy
  go_wp2_with fail
  refine (changeOk_any _ ds x _ HD.out).mono ?_
  rintro e w2 ⟨rfl, hb2⟩
  have HB2 := (show Hid (Below _ _ _) from hb2)
  clear hb2
  go_wp2_with fail
  refine (sChangeOk_any _ ds x _ (HD.out.mono HB2.out) (by omega)).mono ?_
  rintro e w3 ⟨rfl, hb3⟩
  have HB3 : Hid (Below w1.heap.size w1 w3) := below_then HB2.out HB2.out.size hb3
  clear hb3 HB2
  cases hok : chB ds x
  · go_wp2_with fail
    refine (sChangeOk_any _ ds x _ (HD.out.mono HB3.out) (by omega)).mono ?_
    rintro e w4 ⟨rfl, hb4⟩
    rw [hok]
    have HB4 : Hid (Below w1.heap.size w1 w4) := below_then HB3.out HB3.out.size hb4
    clear hb4 HB3
    go_wp2_with fail
    go_ret
    exact ⟨rfl, HB1.out.trans (HB4.out.mono HB1.out.size)⟩
  obtain ⟨q, hq⟩ : ∃ q : Nat, q = m % (ds.length + 1) := ⟨_, rfl⟩
  have hqle : q ≤ ds.length := by have := Nat.mod_lt m (show 0 < ds.length + 1 by omega); omega
  have hqi : ((m : Int) % ((ds.length : Int) + 1)) = (q : Int) := by rw [hq]; simp
  have hqcd : (q : Int) ≤ (cd : Int) := by omega
  have hqlen : (q : Int) ≤ (ds.length : Int) := by omega
  have hql2 : ¬ (ds.length : Int) < (q : Int) := by omega
  have hql3 : ¬ (cd : Int) < (q : Int) := by omega
  have HT : Hid (chB (ds.take q) x = true) := chB_sub hok (by simp; omega) (fun d hd => List.mem_of_mem_take hd)
  have HDr : Hid (chB (ds.drop q) x = true) := chB_sub hok (by simp) (fun d hd => List.mem_of_mem_drop hd)
  have HU : Hid (x ≠ 3 → chB ds (x + 1) = true) := fun h3 => chB_up hok h3
  clear hq
  go_wp2_with fail
  refine (changeOk_any _ (ds.take q) x _ ((HD.out.mono HB3.out).take q hqle cd)).mono ?_
  rintro e w4 ⟨rfl, hb4⟩
  rw [HT.out]
  have HB4 : Hid (Below w1.heap.size w1 w4) := below_then HB3.out HB3.out.size hb4
  have HD4 := (show Hid (DeedsAt _ _ _) from HD.out.mono HB4.out)
  clear hb4 HB3
  have hcase : (ad = none ∧ ds.length = 0 ∧ cd = 0) ∨ ∃ g, ad = some ⟨g, 0, none⟩ := by
    rcases HOD.out.2 with ⟨e, h0⟩ | ⟨g, cap, cur, e, _⟩
    · injection e with e1 e2 e3; exact .inl ⟨e1, h0, e3⟩
    · injection e with e1; exact .inr ⟨g, e1⟩
  clear HOD
  by_cases hx3 : x = 3
  · have hx3' : (x == 3) = true := by simp [hx3]
    rcases hcase with ⟨rfl, hd0, rfl⟩ | ⟨g, rfl⟩
    · have hq0 : q = 0 := by omega
      subst hq0
      have hds : ds = [] := List.eq_nil_of_length_eq_zero hd0
      subst hds
      clear hx3
      go_wp2_with fail
      refine (changeOk_any _ [] x _ (DeedsAt.nil _ _ _)).mono ?_
      rintro e w5 ⟨rfl, hb5⟩
      have hh := HDr.out
      rw [List.drop_zero] at hh
      rw [hh]
      have HB5 : Hid (Below w1.heap.size w1 w5) := below_then HB4.out HB4.out.size hb5
      clear hb5
      go_wp2_with fail
      go_ret
      exact ⟨rfl, HB1.out.trans (HB5.out.mono HB1.out.size)⟩
    · clear hx3
      go_wp2_with fail
      all_goals
        refine (changeOk_any _ (ds.drop q) x _ (by first | exact DeedsAt.dropEnd _ _ _ (by omega) | (have hh := HD4.out.drop q hqle (cd - q); rwa [Nat.zero_add] at hh))).mono ?_
        rintro e w5 ⟨rfl, hb5⟩
        rw [HDr.out]
        have HB5 : Hid (Below w1.heap.size w1 w5) := below_then HB4.out HB4.out.size hb5
        clear hb5
        go_wp2_with fail
        go_ret
        exact ⟨rfl, HB1.out.trans (HB5.out.mono HB1.out.size)⟩
  · have hx3' : (x == 3) = false := by simp [hx3]
    rcases hcase with ⟨rfl, hd0, rfl⟩ | ⟨g, rfl⟩
    · have hq0 : q = 0 := by omega
      subst hq0
      have hds : ds = [] := List.eq_nil_of_length_eq_zero hd0
      subst hds
      go_wp2_with fail
      refine (changeOk_any _ [] x _ (DeedsAt.nil _ _ _)).mono ?_
      rintro e w5 ⟨rfl, hb5⟩
      have hh := HDr.out
      rw [List.drop_zero] at hh
      rw [hh]
      have HB5 : Hid (Below w1.heap.size w1 w5) := below_then HB4.out HB4.out.size hb5
      clear hb5
      go_wp2_with fail
      refine (changeOk_any _ [] (x + 1) _ (DeedsAt.nil _ _ _)).mono ?_
      rintro e w6 ⟨rfl, hb6⟩
      rw [HU.out hx3]
      have HB6 : Hid (Below w1.heap.size w1 w6) := below_then HB5.out HB5.out.size hb6
      clear hb6
      go_wp2_with fail
      go_ret
      exact ⟨rfl, HB1.out.trans (HB6.out.mono HB1.out.size)⟩
    · go_wp2_with fail
      all_goals
        refine (changeOk_any _ (ds.drop q) x _ (by first | exact DeedsAt.dropEnd _ _ _ (by omega) | (have hh := HD4.out.drop q hqle (cd - q); rwa [Nat.zero_add] at hh))).mono ?_
        rintro e w5 ⟨rfl, hb5⟩
        rw [HDr.out]
        have HB5 : Hid (Below w1.heap.size w1 w5) := below_then HB4.out HB4.out.size hb5
        have HD5 := (show Hid (DeedsAt _ _ _) from HD4.out.mono hb5)
        clear hb5
        go_wp2_with fail
        refine (changeOk_any _ ds (x + 1) _ (DeedsAt.recap HD5.out _)).mono ?_
        rintro e w6 ⟨rfl, hb6⟩
        rw [HU.out hx3]
        have HB6 : Hid (Below w1.heap.size w1 w6) := below_then HB5.out HB5.out.size hb6
        clear hb6
        go_wp2_with fail
        go_ret
        exact ⟨rfl, HB1.out.trans (HB6.out.mono HB1.out.size)⟩

end Go.Proofs.Ytpncmjlaijojlaa
