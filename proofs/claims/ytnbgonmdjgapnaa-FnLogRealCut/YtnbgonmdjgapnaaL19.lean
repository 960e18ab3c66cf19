/-
  FnLogRealCut (by mkl17.py).
-/
import Derived.Test.YtnbgonmdjgapnaaL17
namespace Go.Proofs.Ytnbgonmdjgapnaa
open Go.RowKit
set_option linter.unusedSimpArgs false
set_option linter.unusedVariables false
set_option maxRecDepth 20000

theorem LrP.take {xs : List En} (h : LrP xs) {n : Nat} (hn : n ≤ xs.length) : LrP (xs.take n) := by
  intro i hi j a b
  have hl : (xs.take n).length = n := by simp; omega
  rw [hl] at hi
  have e : ∀ i, i < n → nth En.z (xs.take n) i = nth En.z xs i := fun i hi => by rw [nth_eq _ _ i (by rw [hl]; exact hi), nth_eq _ _ i (by omega)]; simp
  rw [e i hi] at a ⊢
  rw [e j (by omega)]
  exact h i (by omega) j a b
theorem EnsAt.takeN {w : World} {a : Option Addr} {cap n : Nat} {xs : List En} (h : EnsAt w (.slice a xs.length cap) xs) (hn : n ≤ xs.length) : EnsAt w (.slice a n cap) (xs.take n) := by
  obtain ⟨a', cap', e, hm, hc⟩ := h
  injection e with e1 e2 e3
  subst e1 e3
  have hl : (xs.take n).length = n := by simp; omega
  refine ⟨a, cap, by rw [hl], by omega, fun i hi => ?_⟩
  rw [hl] at hi
  have e : nth En.z (xs.take n) i = nth En.z xs i := by rw [nth_eq _ _ i (by rw [hl]; exact hi), nth_eq _ _ i (by omega)]; simp
  rw [e]
  exact hc i (by omega)
set_option maxHeartbeats 4000000 in
theorem fnLogRealCut_walk (a : Option Addr) (n cap : Nat) (a2 : Option Addr) (m capm : Nat) (w : World) (h : Bytes w a n) (hc : n ≤ cap) (hn : cap ≤ 9223372036854775807) (hcm : m ≤ capm) (hnm : capm ≤ 9223372036854775807) :
    Calls Try.prog 11 #[.slice a n cap, .slice a2 m capm] w fun e w' => e = .returned (.bool true) ∧ Below w.heap.size w w' := by
  by_cases hbig : 1048576 < n
  · have hb' : (1048576 : Int) < (n : Int) := by omega
    clear h
    go_enter Try.func11, Try.ntmps11
    go_wp2_with fail
    go_ret
    exact ⟨rfl, Below.refl _ _⟩
  have hb' : ¬ (1048576 : Int) < (n : Int) := by omega
  by_cases hbig2 : 1048576 < m
  · have hb2' : (1048576 : Int) < (m : Int) := by omega
    clear h
    go_enter Try.func11, Try.ntmps11
    go_wp2_with fail
    go_ret
    exact ⟨rfl, Below.refl _ _⟩
  have hb2' : ¬ (1048576 : Int) < (m : Int) := by omega
  have HY := (show Hid (Bytes _ _ _) from h)
  clear h
  go_enter Try.func11, Try.ntmps11
  go_wp2_with fail
  refine (drawLogReal_any a n cap w HY.out hc hn).mono ?_
  rintro e w1 ⟨L, lv, rfl, hL, h28, hb1⟩
  have HA := (show Hid (EnsAt _ _ _) from hL.at)
  have HB := (show Hid (Below _ _ _) from hb1)
  obtain ⟨la, lc, rfl, _⟩ := hL.shape
  clear hL hb1 HY
  go_wp2_with fail
  refine (logReal_any _ L w1 HA.out (by omega)).mono ?_
  rintro e w2 ⟨⟨q1, rfl, hq1⟩, hb2⟩
  have H2 : Hid (Below w.heap.size w w2) := HB.out.trans (hb2.mono HB.out.size)
  have HA2 : Hid (EnsAt w2 (.slice la L.length lc) L) := HA.out.mono hb2
  have HQ1 := (show Hid (_ ↔ _) from hq1)
  clear hb2 hq1 HA HB
  go_wp2_with fail
  refine (sLogReal_any _ L w2 HA2.out (by omega)).mono ?_
  rintro e w3 ⟨⟨q3, rfl, hq3⟩, hb3⟩
  have H3 : Hid (Below w.heap.size w w3) := H2.out.trans (hb3.mono H2.out.size)
  have HA3 : Hid (EnsAt w3 (.slice la L.length lc) L) := HA2.out.mono hb3
  have et := eq_of_iff hq3 HQ1.out
  subst et
  clear hb3 hq3 HA2 H2
  cases q3
  · go_wp2_with fail
    refine (sLogReal_any _ L w3 HA3.out (by omega)).mono ?_
    rintro e w4 ⟨⟨q4, rfl, hq4⟩, hb4⟩
    have H4 : Hid (Below w.heap.size w w4) := H3.out.trans (hb4.mono H3.out.size)
    have et := eq_of_iff hq4 HQ1.out
    subst et
    clear hb4 hq4
    go_wp2_with fail
    go_ret
    exact ⟨rfl, H4.out⟩
  have HP : Hid (LrP L) := HQ1.out.1 rfl
  clear HQ1
  obtain ⟨c, hc1, hc2⟩ : ∃ c : Nat, (m : Int).tmod ((L.length : Int) + 1) = (c : Int) ∧ c ≤ L.length := by
    have h1 : (0 : Int) < (L.length : Int) + 1 := by omega
    have h2 := Int.tmod_lt_of_pos (m : Int) h1
    have h3 := Int.tmod_nonneg ((L.length : Int) + 1) (show (0 : Int) ≤ (m : Int) by omega)
    exact ⟨((m : Int).tmod ((L.length : Int) + 1)).toNat, by omega, by omega⟩
  have hcl : L.length ≤ lc := by obtain ⟨_, _, e, h, _⟩ := HA3.out.cap; injection e with _ _ e3; omega
  have hcl' : (c : Int) ≤ (lc : Int) := by omega
  go_wp2_with fail
  have HA4 : Hid (EnsAt w3 (.slice la c lc) (L.take c)) := HA3.out.takeN hc2
  refine (logReal_any _ (L.take c) w3 HA4.out (by simp; omega)).mono ?_
  rintro e w5 ⟨⟨q5, rfl, hq5⟩, hb5⟩
  have H5 : Hid (Below w.heap.size w w5) := H3.out.trans (hb5.mono H3.out.size)
  have et : q5 = true := hq5.2 (HP.out.take hc2)
  subst et
  clear hb5 hq5 HA4
  go_wp2_with fail
  refine (logReal_any (.slice none 0 0) [] w5 ⟨none, 0, rfl, ⟨Nat.le_refl _, by omega⟩, fun i hi => absurd hi (Nat.not_lt_zero _)⟩ (by simp)).mono ?_
  rintro e w6 ⟨⟨q6, rfl, hq6⟩, hb6⟩
  have H6 : Hid (Below w.heap.size w w6) := H5.out.trans (hb6.mono H5.out.size)
  have et : q6 = true := hq6.2 (fun i hi => absurd hi (Nat.not_lt_zero _))
  subst et
  clear hb6 hq6
  go_wp2_with fail
  go_ret
  exact ⟨rfl, H6.out⟩


end Go.Proofs.Ytnbgonmdjgapnaa
