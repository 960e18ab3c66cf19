import Derived.Test.YthllcbbjibfklaaH9
import Derived.Deep.QuietTactic
import Derived.BigQuiet
namespace Go.Proofs.Ythllcbbjibfklaa
open Go.RowKit
set_option linter.unusedSimpArgs false
set_option linter.unusedVariables false
set_option maxRecDepth 20000

set_option maxHeartbeats 4000000 in
theorem changeReads_walk (a : Option Addr) (n cap : Nat) (w : World) (h : Bytes w a n) (hc : n ≤ cap) (hn : cap ≤ 9223372036854775807) :
    Calls Try.prog 4 #[.slice a n cap] w fun e w' => e = .returned (.bool true) ∧ Below w.heap.size w w' := by
  by_cases hbig : 1048576 < n
  · have hbig' : (1048576 : Int) < (n : Int) := by omega
    clear h
    go_enter Try.func4, Try.ntmps4
    go_wp2_with fail
    go_ret
    exact ⟨rfl, Below.refl _ _⟩
  have hbig' : ¬ (1048576 : Int) < (n : Int) := by omega
  have HBy := (show Hid (Bytes _ _ _) from h)
  clear h
  go_enter Try.func4, Try.ntmps4
  go_wp2_with fail
  refine (drawChangeDo_any a n cap _ HBy.out hc hn).mono ?_
  rintro e w1 ⟨cv, rv, dv, c, r, ds, rfl, hoc, hor, hod, hl6, hb1⟩
  obtain ⟨ac, cc, rfl, hcc, _⟩ := own_shape hoc
  obtain ⟨ar, cr, rfl, hcr, _⟩ := own_shape hor
  obtain ⟨ad, cd, rfl, hcd, hcd'⟩ := own_shape hod
  obtain ⟨C, R, ok, hX⟩ : ∃ C R ok, chX c r ds = (C, R, ok) := ⟨_, _, _, rfl⟩
  have HX := (show Hid (chX _ _ _ = _) from hX)
  have HC := (show Hid (IntsAt _ _ _) from hoc.at)
  have HR := (show Hid (IntsAt _ _ _) from hor.at)
  have HD := (show Hid (DeedsAt _ _ _) from hod.at)
  have HOD := (show Hid (OwnDe _ _ _ _) from hod)
  have HB1 := (show Hid (Below _ _ _) from hb1)
  clear hoc hor hod hb1 hX HBy
  go_wp2_with fail
  refine (sChangeDo_is HX.out _ _ _ _ HC.out HR.out HD.out).mono ?_
  rintro e w2 ⟨a0, k0, a1, k1, rfl, hs0, hs1, hb2⟩
  have HS0 := (show Hid (IntsAt _ _ _) from hs0)
  have HS1 := (show Hid (IntsAt _ _ _) from hs1)
  have HB2 := (show Hid (Below _ _ _) from hb2)
  clear hs0 hs1 hb2
  go_wp2_with fail
  refine (changeDo_is HX.out _ _ _ _ (HC.out.mono HB2.out) (HR.out.mono HB2.out) (HD.out.mono HB2.out)).mono ?_
  rintro e w3 ⟨a2, k2, a3, k3, rfl, hy0, hy1, hb3⟩
  have HY0 := (show Hid (IntsAt _ _ _) from hy0)
  have HY1 := (show Hid (IntsAt _ _ _) from hy1)
  have HS0' := (show Hid (IntsAt _ _ _) from HS0.out.mono hb3)
  have HS1' := (show Hid (IntsAt _ _ _) from HS1.out.mono hb3)
  have HB3 : Hid (Below w1.heap.size w1 w3) := below_then HB2.out HB2.out.size hb3
  clear hy0 hy1 hb3 HS0 HS1 HB2
  have hlenC : C.length ≤ 9223372036854775807 := by obtain ⟨_, _, e, h⟩ := HY0.out.shape; exact h
  cases ok
  · go_wp2_with fail
    refine (lqInts_same C _ _ _ HY0.out HS0'.out).mono ?_
    rintro e w4 ⟨rfl, hb4⟩
    have HY1b := (show Hid (IntsAt _ _ _) from HY1.out.mono hb4)
    have HS1b := (show Hid (IntsAt _ _ _) from HS1'.out.mono hb4)
    have HB4 : Hid (Below w1.heap.size w1 w4) := below_then HB3.out HB3.out.size hb4
    have HY0b := (show Hid (IntsAt _ _ _) from HY0.out.mono hb4)
    have HS0b := (show Hid (IntsAt _ _ _) from HS0'.out.mono hb4)
    clear hb4 HY1 HS1' HB3 HY0 HS0'
    go_wp2_with fail
    refine (lqInts_same R _ _ _ HY1b.out HS1b.out).mono ?_
    rintro e w5 ⟨rfl, hb5⟩
    have HB5 : Hid (Below w1.heap.size w1 w5) := below_then HB4.out HB4.out.size hb5
    have HY1c := (show Hid (IntsAt _ _ _) from HY1b.out.mono hb5)
    have HS1c := (show Hid (IntsAt _ _ _) from HS1b.out.mono hb5)
    have HY0c := (show Hid (IntsAt _ _ _) from HY0b.out.mono hb5)
    have HS0c := (show Hid (IntsAt _ _ _) from HS0b.out.mono hb5)
    clear hb5 HY1b HS1b HB4 HY0b HS0b
    go_wp2_with fail
    refine (lqInts_same C _ _ _ HY0c.out HS0c.out).mono ?_
    rintro e w6 ⟨rfl, hb6⟩
    have HB6 : Hid (Below w1.heap.size w1 w6) := below_then HB5.out HB5.out.size hb6
    have HY1d := (show Hid (IntsAt _ _ _) from HY1c.out.mono hb6)
    have HS1d := (show Hid (IntsAt _ _ _) from HS1c.out.mono hb6)
    clear hb6 HY1c HS1c HB5 HY0c HS0c
    go_wp2_with fail
    refine (lqInts_same R _ _ _ HY1d.out HS1d.out).mono ?_
    rintro e w7 ⟨rfl, hb7⟩
    have HB7 : Hid (Below w1.heap.size w1 w7) := below_then HB6.out HB6.out.size hb7
    clear hb7
    go_wp2_with fail
    go_ret
    exact ⟨rfl, HB1.out.trans (HB7.out.mono HB1.out.size)⟩
  go_wp2_with fail
  refine (lqInts_same C _ _ _ HY0.out HS0'.out).mono ?_
  rintro e w4 ⟨rfl, hb4⟩
  have HY1b := (show Hid (IntsAt _ _ _) from HY1.out.mono hb4)
  have HS1b := (show Hid (IntsAt _ _ _) from HS1'.out.mono hb4)
  have HY0b := (show Hid (IntsAt _ _ _) from HY0.out.mono hb4)
  have HS0b := (show Hid (IntsAt _ _ _) from HS0'.out.mono hb4)
  have HB4 : Hid (Below w1.heap.size w1 w4) := below_then HB3.out HB3.out.size hb4
  clear hb4 HY1 HS1' HB3 HY0 HS0'
  go_wp2_with fail
  refine (lqInts_same R _ _ _ HY1b.out HS1b.out).mono ?_
  rintro e w5 ⟨rfl, hb5⟩
  have HY0c := (show Hid (IntsAt _ _ _) from HY0b.out.mono hb5)
  have HY1c := (show Hid (IntsAt _ _ _) from HY1b.out.mono hb5)
  have HS0c := (show Hid (IntsAt _ _ _) from HS0b.out.mono hb5)
  have HS1c := (show Hid (IntsAt _ _ _) from HS1b.out.mono hb5)
  have HB5 : Hid (Below w1.heap.size w1 w5) := below_then HB4.out HB4.out.size hb5
  clear hb5 HS1b HB4 HY0b HY1b HS0b
  obtain ⟨hR3, hr3, hCl, _, _⟩ := chX_regs HX.out
  obtain ⟨hg, hdo⟩ := chX_true HX.out
  obtain ⟨hF, hc3, _⟩ := goB_inF hg
  obtain ⟨C2, hX2, hl2, hC2⟩ := chX_other HX.out
  have HX2 := (show Hid (chX _ _ _ = _) from hX2)
  have HC2 := (show Hid (∀ i : Nat, _ → _) from hC2)
  have HPL := (show Hid (∀ i, _ → _) from chX_place HX.out)
  have HCA := (show Hid (∀ x, x ∈ c → _) from hF.ca)
  have HLC := (show Hid (C.length = c.length) from hCl)
  have HL2 := (show Hid (C2.length = c.length) from hl2)
  clear HS0c HS1c hR3 hr3 hCl HOD HX hX2 hC2 hg hdo hF hl2
  obtain ⟨i0, hi, hz0, hz1, hz2⟩ := info_parts Try.info_int
  go_wp2_with fail
  refine (changeReads_any _ ds _ (HD.out.mono HB5.out)).mono ?_
  rintro e w6 ⟨rv, rfl, ho6, hb6⟩
  obtain ⟨arv, krv, rfl, _⟩ := own_shape ho6
  have HRD6 := (show Hid (IntsAt _ _ _) from ho6.at)
  have HY6 := (show Hid (IntsAt _ _ _) from HY0c.out.mono hb6)
  have HZ6 := (show Hid (IntsAt _ _ _) from HY1c.out.mono hb6)
  have HB6 : Hid (Below w1.heap.size w1 w6) := below_then HB5.out HB5.out.size hb6
  clear ho6 hb6 HY0c HY1c HB5
  go_wp2_with fail
  refine (changeWrites_any _ ds _ (HD.out.mono HB6.out)).mono ?_
  rintro e w7 ⟨wv, rfl, ho7, hb7⟩
  obtain ⟨awv, kwv, rfl, _⟩ := own_shape ho7
  have HWR7 := (show Hid (IntsAt _ _ _) from ho7.at)
  have HRD7 := (show Hid (IntsAt _ _ _) from HRD6.out.mono hb7)
  have HY7 := (show Hid (IntsAt _ _ _) from HY6.out.mono hb7)
  have HZ7 := (show Hid (IntsAt _ _ _) from HZ6.out.mono hb7)
  have HB7 : Hid (Below w1.heap.size w1 w7) := below_then HB6.out HB6.out.size hb7
  have HC7 := (show Hid (IntsAt _ _ _) from HC.out.mono HB7.out)
  clear ho7 hb7 HRD6 HY6 HZ6 HB6
  go_wp2_with (at_builtin; refine wpList_append_src rfl _ _ 23 rfl w7.heap.size 3 i0 (.int .i64 0) 1 8 Try.underlying23 hi hz0 hz1 hz2 rfl (by decide) _ _ _ rfl (World.ownsRow_made _ #[] 0 (Nat.le_refl _) (by unfold maxLen; omega) (by simp)) _ _ _ (c.map (Value.int .i64)) rfl (by simp) ?s1 (ints_one c) ?s3 ?s4 ?s5 ?_)
  case s1 => exact ints_from (IntsAt.mono HC7.out ((Below.refl _ _).alloc (Nat.le_refl _) _))
  case s3 => unfold maxLen; omega
  case s4 => omega
  case s5 => simp
  intro v8 w8 hown8 hgrow8
  have HO8 : Hid (OwnInt w7.heap.size w8 v8 c) := by
    unfold Hid OwnInt
    (try rw [Nat.zero_add] at hown8); (try rw [List.nil_append] at hown8)
    exact hown8
  have HB8 : Hid (Below w7.heap.size w7 w8) := ((Below.refl _ _).alloc (Nat.le_refl _) _).grown hgrow8 (by simp) (fun g hg => by simp [Value.ownBlock] at hg; omega)
  clear hown8 hgrow8
  obtain ⟨a8, k8, rfl, hk8, _⟩ := own_shape HO8.out
  go_wp2_with fail
  go_loopw [15] (fun i w' => ∃ k : Nat, k ≤ c.length ∧ i = .int .i64 k ∧ OwnInt w7.heap.size w' (.slice a8 c.length k8) (othC (chR ds) c k) ∧ Below w7.heap.size w7 w') (fun i _ => c.length - (intOf i).toNat)
  case atStart => exact ⟨0, by omega, rfl, by rw [othC_zero]; exact HO8.out, HB8.out⟩
  clear HO8 HB8
  case round =>
    obtain ⟨k, hk, rfl, hown, hb⟩ := hrel
    have HO := (show Hid (OwnInt _ _ _ _) from hown)
    have HBK := (show Hid (Below _ _ _) from hb)
    clear hown hb
    by_cases hlt : k < c.length
    · have hlt' : (k : Int) < (c.length : Int) := by omega
      have HRr := (show Hid (IntsAt _ _ _) from HRD7.out.mono HBK.out)
      cases hh : hasB (chR ds) (k : Int)
      · have HSU : Hid (othC (chR ds) c (k + 1) = (othC (chR ds) c k).set k ((nth 0 (othC (chR ds) c k) k + 1) % 100)) := by rw [Hid, othC_succ _ _ _ hlt, if_pos hh]
        obtain ⟨n0, n1⟩ := othC_bdn (chR ds) c k HCA.out k
        obtain ⟨g, cap, e8, hge, hgw, _, _, hcg⟩ := OwnInt.get HO.out k (by rw [othC_len]; exact hlt)
        injection e8 with e8a e8b e8c
        subst e8a
        have c0 := (hcg k (by rw [othC_len]; exact hlt)).1
        have c1 := (hcg k (by rw [othC_len]; exact hlt)).2
        generalize hx : nth 0 (othC (chR ds) c k) k = x at c0 n0 n1
        have HXX := (show Hid (_ = x) from hx)
        have HH := (show Hid (hasB _ _ = _) from hh)
        clear hh hx hcg e8b e8c
        go_wp2_with (go_at_call 14; refine (lqHas_is HH.out _ _ HRr.out).mono ?_; rintro e w' ⟨rfl, hw⟩; have hw := hw.symm; subst hw)
        go_roundw
        case rel =>
          refine ⟨k + 1, by omega, by go_num, ?_, ?_⟩
          · rw [HSU.out, HXX.out]
            exact HO.out.set_same k _
          · exact HBK.out.setCell (by simp; omega) _
        case measure => simp [intOf]; omega
      · have HSU : Hid (othC (chR ds) c (k + 1) = othC (chR ds) c k) := by rw [Hid, othC_succ _ _ _ hlt, if_neg (by simp [hh])]
        have HH := (show Hid (hasB _ _ = _) from hh)
        clear hh
        go_wp2_with (go_at_call 14; refine (lqHas_is HH.out _ _ HRr.out).mono ?_; rintro e w' ⟨rfl, hw⟩; have hw := hw.symm; subst hw)
        go_roundw
        case rel => exact ⟨k + 1, by omega, by go_num, by rw [HSU.out]; exact HO.out, HBK.out⟩
        case measure => simp [intOf]; omega
    · have hlt' : ¬ (k : Int) < (c.length : Int) := by omega
      have he : k = c.length := by omega
      subst he
      have HBW : Hid (Below w1.heap.size w1 wr) := below_then HB7.out HB7.out.size HBK.out
      go_wp2_with fail
      refine (changeDo_is HX2.out _ _ _ _ HO.out.at (HR.out.mono HBW.out) (HD.out.mono HBW.out)).mono ?_
      rintro e w9 ⟨a4, k4, a5, k5, rfl, hv0, hv1, hb9⟩
      have HV0 := (show Hid (IntsAt _ _ _) from hv0)
      have HV1 := (show Hid (IntsAt _ _ _) from hv1)
      have HB9 : Hid (Below w1.heap.size w1 w9) := below_then HBW.out HBW.out.size hb9
      have HB79 : Hid (Below w7.heap.size w7 w9) := below_then HBK.out HBK.out.size hb9
      have HW9 := (show Hid (IntsAt _ _ _) from HWR7.out.mono HB79.out)
      have HY9 := (show Hid (IntsAt _ _ _) from HY7.out.mono HB79.out)
      have HZ9 := (show Hid (IntsAt _ _ _) from HZ7.out.mono HB79.out)
      clear hv0 hv1 hb9 HO HBK HBW HB79 HWR7 HY7 HZ7 HRD7 HB7
      go_wp2_with fail
      go_loopw [19] (fun i w' => ∃ j : Nat, j ≤ (chW ds).length ∧ i = .int .i64 j ∧ Below w9.heap.size w9 w') (fun i _ => (chW ds).length - (intOf i).toNat)
      case atStart => exact ⟨0, by omega, rfl, Below.refl _ _⟩
      case round =>
        obtain ⟨j, hj, rfl, hb⟩ := hrel
        have HBJ := (show Hid (Below _ _ _) from hb)
        clear hb
        by_cases hjl : j < (chW ds).length
        · have hjl' : decide ((j : Int) < ((chW ds).length : Int)) = true := by simp; omega
          have hjl2 : (j : Int) < ((chW ds).length : Int) := by omega
          obtain ⟨p, hp, hpl, hpw⟩ := HPL.out j hjl
          have hv := HC2.out p hpw
          have hv' : (nth 0 C2 p != nth 0 C p) = false := by simp [hv]
          have hp1 : (p : Int) < (C2.length : Int) := by have := HL2.out; omega
          have hp2 : (p : Int) < (C.length : Int) := by have := HLC.out; omega
          obtain ⟨aw, kw, ew, _, hcw⟩ := HW9.out.mono HBJ.out
          obtain ⟨b1, off1, ew1, hb1, cw⟩ := hcw j hjl
          injection ew with ew2 ew3 ew4
          rw [← ew2] at ew1
          subst ew1
          rw [hp] at cw
          obtain ⟨ax, kx, ex, _, hcx⟩ := HV0.out.mono HBJ.out
          obtain ⟨b2, off2, ex1, hb2, cx⟩ := hcx p (by have := HL2.out; omega)
          injection ex with ex2 ex3 ex4
          rw [← ex2] at ex1
          subst ex1
          obtain ⟨ay, ky, ey, _, hcy⟩ := HY9.out.mono HBJ.out
          obtain ⟨b3, off3, ey1, hb3, cy⟩ := hcy p (by have := HLC.out; omega)
          injection ey with ey2 ey3 ey4
          rw [← ey2] at ey1
          subst ey1
          clear hcw hcx hcy ew2 ew3 ew4 ex2 ex3 ex4 ey2 ey3 ey4 hv hp hpw
          go_wp2_with fail
          go_quiet (fail)
          go_wp2_with fail
          go_roundw
          case rel => exact ⟨j + 1, by omega, by go_num, below_drewN HBJ.out _⟩
          case measure => simp [intOf]; omega
        · have hjl' : decide ((j : Int) < ((chW ds).length : Int)) = false := by simp; omega
          go_wp2_with fail
          refine (lqInts_same R _ _ _ (HV1.out.mono HBJ.out) (HZ9.out.mono HBJ.out)).mono ?_
          rintro e wz ⟨rfl, hbz⟩
          have HBZ : Hid (Below w9.heap.size w9 wz) := below_then HBJ.out HBJ.out.size hbz
          clear hbz
          go_wp2_with fail
          go_ret
          exact ⟨rfl, HB1.out.trans ((below_then HB9.out HB9.out.size HBZ.out).mono HB1.out.size)⟩

end Go.Proofs.Ythllcbbjibfklaa
