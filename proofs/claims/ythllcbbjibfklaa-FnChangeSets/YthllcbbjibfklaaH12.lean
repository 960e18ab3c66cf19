/-
  The walk of FnChangeSets.
-/
import Derived.Test.YthllcbbjibfklaaH9
import Derived.Test.YthllcbbjibfklaaG3c
namespace Go.Proofs.Ythllcbbjibfklaa
open Go.RowKit
set_option linter.unusedSimpArgs false
set_option linter.unusedVariables false
set_option maxRecDepth 20000

theorem store_has {ds : List De} {d : De} (hd : d ∈ ds) (hB : deB d 3 = true) (h2 : d.k = 2) : hasB (chW ds) d.a = true := by
  unfold hasB chW
  rw [decide_eq_true_eq, mem_srt]
  refine ⟨(raw_two ds _).2 ⟨d, hd, h2, rfl⟩, ?_⟩
  rcases deB_cases (n := 3) hB with ⟨a, b, rfl, hA, hB⟩ | ⟨a, b, rfl, hA, hB⟩ | ⟨a, b, rfl, hA, hB⟩ | ⟨a, b, rfl, hA, hB⟩ | ⟨a, rfl, hA⟩ <;> simp at h2
  dsimp only; omega
theorem load_has {ds : List De} {d : De} (hd : d ∈ ds) (hB : deB d 3 = true) (h1 : d.k = 1) : hasB (chR ds) d.b = true ∨ hasB (chW ds) d.b = true := by
  have hp : 0 ≤ d.b ∧ d.b ≤ 2 := by
    rcases deB_cases (n := 3) hB with ⟨a, b, rfl, hA, hB⟩ | ⟨a, b, rfl, hA, hB⟩ | ⟨a, b, rfl, hA, hB⟩ | ⟨a, b, rfl, hA, hB⟩ | ⟨a, rfl, hA⟩ <;> simp at h1
    dsimp only; omega
  unfold hasB chR chW
  rw [decide_eq_true_eq, decide_eq_true_eq, mem_srt, mem_srt]
  rcases load_in hd h1 with h | h
  · exact .inl ⟨h, hp⟩
  · exact .inr ⟨h, hp⟩
theorem upB_chR (ds : List De) : upB (chR ds) = true := srt_up _
theorem upB_chW (ds : List De) : upB (chW ds) = true := srt_up _
theorem lqUp_is {xs : List Int} (hb : upB xs = true) (v : Value) (w : World) (h : IntsAt w v xs) :
    Calls Try.prog 19 #[v] w fun r w' => r = .returned (.bool true) ∧ Below w.heap.size w w' := hb ▸ lqUp_any v xs w h

set_option maxHeartbeats 4000000 in
theorem changeSets_walk (a : Option Addr) (n cap : Nat) (w : World) (h : Bytes w a n) (hc : n ≤ cap) (hn : cap ≤ 9223372036854775807) :
    Calls Try.prog 5 #[.slice a n cap] w fun e w' => e = .returned (.bool true) ∧ Below w.heap.size w w' := by
  by_cases hbig : 1048576 < n
  · have hbig' : (1048576 : Int) < (n : Int) := by omega
    clear h
    go_enter Try.func5, Try.ntmps5
    go_wp2_with fail
    go_ret
    exact ⟨rfl, Below.refl _ _⟩
  have hbig' : ¬ (1048576 : Int) < (n : Int) := by omega
  have HBy := (show Hid (Bytes _ _ _) from h)
  clear h
  go_enter Try.func5, Try.ntmps5
  go_wp2_with fail
  refine (drawChangeReads_ok a n cap _ HBy.out hc hn).mono ?_
  rintro e w1 ⟨ad, cd, ds, rfl, hod, hal, hl10, hb1⟩
  have HD := (show Hid (DeedsAt _ _ _) from hod.at)
  have HAL := (show Hid (∀ x, x ∈ ds → deB x 3 = true) from hal)
  have HB1 := (show Hid (Below _ _ _) from hb1)
  clear hod hal hb1 HBy
  go_wp2_with fail
  refine (changeReads_any _ ds _ HD.out).mono ?_
  rintro e w2 ⟨v2, rfl, ho2, hb2⟩
  obtain ⟨a2, k2, rfl, _⟩ := own_shape ho2
  have HR2 := (show Hid (IntsAt _ _ _) from ho2.at)
  have HB2 := (show Hid (Below _ _ _) from hb2)
  clear ho2 hb2
  go_wp2_with fail
  refine (changeWrites_any _ ds _ (HD.out.mono HB2.out)).mono ?_
  rintro e w3 ⟨v3, rfl, ho3, hb3⟩
  obtain ⟨a3, k3, rfl, _⟩ := own_shape ho3
  have HW3 := (show Hid (IntsAt _ _ _) from ho3.at)
  have HR3 := (show Hid (IntsAt _ _ _) from HR2.out.mono hb3)
  have HB3 : Hid (Below w1.heap.size w1 w3) := below_then HB2.out HB2.out.size hb3
  clear ho3 hb3 HR2 HB2
  go_wp2_with fail
  refine (sChangeReads_any _ ds _ (HD.out.mono HB3.out) (by omega)).mono ?_
  rintro e w4 ⟨v4, rfl, ho4, hb4⟩
  obtain ⟨a4, k4, rfl, _⟩ := own_shape ho4
  have HS4 := (show Hid (IntsAt _ _ _) from ho4.at)
  have HR4 := (show Hid (IntsAt _ _ _) from HR3.out.mono hb4)
  have HW4 := (show Hid (IntsAt _ _ _) from HW3.out.mono hb4)
  have HB4 : Hid (Below w1.heap.size w1 w4) := below_then HB3.out HB3.out.size hb4
  clear ho4 hb4 HR3 HW3 HB3
  go_wp2_with fail
  refine (lqInts_same (chR ds) _ _ _ HR4.out HS4.out).mono ?_
  rintro e w5 ⟨rfl, hb5⟩
  have HR5 := (show Hid (IntsAt _ _ _) from HR4.out.mono hb5)
  have HW5 := (show Hid (IntsAt _ _ _) from HW4.out.mono hb5)
  have HB5 : Hid (Below w1.heap.size w1 w5) := below_then HB4.out HB4.out.size hb5
  clear hb5 HR4 HW4 HB4 HS4
  go_wp2_with fail
  refine (sChangeWrites_any _ ds _ (HD.out.mono HB5.out) (by omega)).mono ?_
  rintro e w6 ⟨v6, rfl, ho6, hb6⟩
  obtain ⟨a6, k6, rfl, _⟩ := own_shape ho6
  have HS6 := (show Hid (IntsAt _ _ _) from ho6.at)
  have HR6 := (show Hid (IntsAt _ _ _) from HR5.out.mono hb6)
  have HW6 := (show Hid (IntsAt _ _ _) from HW5.out.mono hb6)
  have HB6 : Hid (Below w1.heap.size w1 w6) := below_then HB5.out HB5.out.size hb6
  clear ho6 hb6 HR5 HW5 HB5
  go_wp2_with fail
  refine (lqInts_same (chW ds) _ _ _ HW6.out HS6.out).mono ?_
  rintro e w7 ⟨rfl, hb7⟩
  have HR7 := (show Hid (IntsAt _ _ _) from HR6.out.mono hb7)
  have HW7 := (show Hid (IntsAt _ _ _) from HW6.out.mono hb7)
  have HB7 : Hid (Below w1.heap.size w1 w7) := below_then HB6.out HB6.out.size hb7
  have HD7 := (show Hid (DeedsAt _ _ _) from HD.out.mono HB7.out)
  clear hb7 HR6 HW6 HB6 HS6
  go_wp2_with fail
  go_loop [6] (fun i => ∃ k : Nat, k ≤ ds.length ∧ i = .int .i64 k) (fun i => ds.length - (intOf i).toNat)
  case atStart => exact ⟨0, by omega, rfl⟩
  case round =>
    obtain ⟨k, hk, rfl⟩ := hrel
    by_cases hlt : k < ds.length
    · have hlt' : (k : Int) < (ds.length : Int) := by omega
      obtain ⟨ad', cd2, ed, _, hcs⟩ := HD7.out
      injection ed with ed1 ed2 ed3
      obtain ⟨b0, off, e0, hb0, c0, c1, c2⟩ := hcs k hlt
      rw [← ed1] at e0
      subst e0
      have hmem := nth_mem De.z ds k hlt
      have hdB := HAL.out _ hmem
      have HST := (show Hid (_ → _) from store_has hmem hdB)
      have HLD := (show Hid (_ → _) from load_has hmem hdB)
      clear hcs ed1 ed2 ed3 hmem hdB
      generalize nth De.z ds k = d at c0 c1 c2 HST HLD
      by_cases h2 : d.k = 2
      · have h2' : (d.k == 2) = true := by simp [h2]
        have h1' : (d.k == 1) = false := by simp [h2]
        have HH := (show Hid (hasB _ _ = _) from HST.out h2)
        clear HST HLD h2
        go_wp2_with (go_at_call 14; refine (lqHas_is HH.out _ _ HW7.out).mono ?_; rintro e w' ⟨rfl, hw⟩; have hw := hw.symm; subst hw)
        go_round
        case rel => exact ⟨k + 1, by omega, by go_num⟩
        case measure => simp [intOf]; omega
      have h2' : (d.k == 2) = false := by simp [h2]
      by_cases h1 : d.k = 1
      · have h1' : (d.k == 1) = true := by simp [h1]
        have HL := (show Hid (_ ∨ _) from HLD.out h1)
        clear HST HLD h1 h2
        cases hr : hasB (chR ds) d.b
        · have HH := (show Hid (hasB (chR ds) _ = _) from hr)
          have HH2 : Hid (hasB (chW ds) d.b = true) := by
            rcases HL.out with h | h
            · rw [hr] at h; cases h
            · exact h
          clear hr HL
          go_wp2_with fail
          refine (lqHas_is HH.out _ _ HR7.out).mono ?_
          rintro e w' ⟨rfl, hw⟩
          have hw := hw.symm
          subst hw
          go_wp2_with fail
          refine (lqHas_is HH2.out _ _ HW7.out).mono ?_
          rintro e w' ⟨rfl, hw⟩
          have hw := hw.symm
          subst hw
          go_wp2_with fail
          go_round
          case rel => exact ⟨k + 1, by omega, by go_num⟩
          case measure => simp [intOf]; omega
        · have HH := (show Hid (hasB (chR ds) _ = _) from hr)
          clear hr HL
          go_wp2_with (go_at_call 14; refine (lqHas_is HH.out _ _ HR7.out).mono ?_; rintro e w' ⟨rfl, hw⟩; have hw := hw.symm; subst hw)
          go_round
          case rel => exact ⟨k + 1, by omega, by go_num⟩
          case measure => simp [intOf]; omega
      · have h1' : (d.k == 1) = false := by simp [h1]
        clear HST HLD h1 h2
        go_wp2_with fail
        go_round
        case rel => exact ⟨k + 1, by omega, by go_num⟩
        case measure => simp [intOf]; omega
    · have hlt' : ¬ (k : Int) < (ds.length : Int) := by omega
      go_wp2_with fail
      refine (lqUp_is (upB_chR ds) _ _ HR7.out).mono ?_
      rintro e w8 ⟨rfl, hb8⟩
      have HW8 := (show Hid (IntsAt _ _ _) from HW7.out.mono hb8)
      have HB8 : Hid (Below w1.heap.size w1 w8) := below_then HB7.out HB7.out.size hb8
      clear hb8
      go_wp2_with fail
      refine (lqUp_is (upB_chW ds) _ _ HW8.out).mono ?_
      rintro e w9 ⟨rfl, hb9⟩
      have HB9 : Hid (Below w1.heap.size w1 w9) := below_then HB8.out HB8.out.size hb9
      clear hb9
      go_wp2_with fail
      go_ret
      exact ⟨rfl, HB1.out.trans (HB9.out.mono HB1.out.size)⟩

end Go.Proofs.Ythllcbbjibfklaa
