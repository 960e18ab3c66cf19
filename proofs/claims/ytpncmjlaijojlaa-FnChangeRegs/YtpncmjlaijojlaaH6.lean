import Derived.Test.YtpncmjlaijojlaaH2
import Derived.Deep.QuietTactic
import Derived.BigQuiet
namespace Go.Proofs.Ytpncmjlaijojlaa
open Go.RowKit
set_option linter.unusedSimpArgs false
set_option linter.unusedVariables false
set_option maxRecDepth 20000

set_option maxHeartbeats 4000000 in
theorem changeRegs_walk (a : Option Addr) (n cap : Nat) (w : World) (h : Bytes w a n) (hc : n ≤ cap) (hn : cap ≤ 9223372036854775807) :
    Calls Try.prog 7 #[.slice a n cap] w fun e w' => e = .returned (.bool true) ∧ Below w.heap.size w w' := by
  by_cases hbig : 1048576 < n
  · have hbig' : (1048576 : Int) < (n : Int) := by omega
    clear h
    go_enter Try.func7, Try.ntmps7
    go_wp2_with fail
    go_ret
    exact ⟨rfl, Below.refl _ _⟩
  have hbig' : ¬ (1048576 : Int) < (n : Int) := by omega
  have HBy := (show Hid (Bytes _ _ _) from h)
  clear h
  go_enter Try.func7, Try.ntmps7
  go_wp2_with fail
  refine (drawChangeDo_any a n cap _ HBy.out hc hn).mono ?_
  rintro e w1 ⟨cv, rv, dv, c, r, ds, rfl, hoc, hor, hod, hl6, hb1⟩
  obtain ⟨ac, cc, rfl, hcc, _⟩ := own_shape hoc
  obtain ⟨ar, cr, rfl, hcr, _⟩ := own_shape hor
  obtain ⟨ad, cd, rfl, hcd, hcd'⟩ := own_shape hod
  obtain ⟨C, R, ok, hX⟩ : ∃ C R ok, chX c r ds = (C, R, ok) := ⟨_, _, _, rfl⟩
  have HX := (show Hid (chX _ _ _ = _) from hX)
  have HC := (show Hid (IntsAt _ _ _) from hoc.at)
  have HR := (show Hid (IntsAt _ _ _) from hor.at)
  have HD := (show Hid (DeedsAt _ _ _) from hod.at)
  have HOD := (show Hid (OwnDe _ _ _ _) from hod)
  have HB1 := (show Hid (Below _ _ _) from hb1)
  clear hoc hor hod hb1 hX HBy
  go_wp2_with fail
  refine (sChangeDo_is HX.out _ _ _ _ HC.out HR.out HD.out).mono ?_
  rintro e w2 ⟨a0, k0, a1, k1, rfl, hs0, hs1, hb2⟩
  have HS0 := (show Hid (IntsAt _ _ _) from hs0)
  have HS1 := (show Hid (IntsAt _ _ _) from hs1)
  have HB2 := (show Hid (Below _ _ _) from hb2)
  clear hs0 hs1 hb2
  go_wp2_with fail
  refine (changeDo_is HX.out _ _ _ _ (HC.out.mono HB2.out) (HR.out.mono HB2.out) (HD.out.mono HB2.out)).mono ?_
  rintro e w3 ⟨a2, k2, a3, k3, rfl, hy0, hy1, hb3⟩
  have HY0 := (show Hid (IntsAt _ _ _) from hy0)
  have HY1 := (show Hid (IntsAt _ _ _) from hy1)
  have HS0' := (show Hid (IntsAt _ _ _) from HS0.out.mono hb3)
  have HS1' := (show Hid (IntsAt _ _ _) from HS1.out.mono hb3)
  have HB3 : Hid (Below w1.heap.size w1 w3) := below_then HB2.out HB2.out.size hb3
  clear hy0 hy1 hb3 HS0 HS1 HB2
  have hlenC : C.length ≤ 9223372036854775807 := by obtain ⟨_, _, e, h⟩ := HY0.out.shape; exact h
  cases ok
  · go_wp2_with fail
    refine (lqInts_same C _ _ _ HY0.out HS0'.out).mono ?_
    rintro e w4 ⟨rfl, hb4⟩
    have HY1b := (show Hid (IntsAt _ _ _) from HY1.out.mono hb4)
    have HS1b := (show Hid (IntsAt _ _ _) from HS1'.out.mono hb4)
    have HB4 : Hid (Below w1.heap.size w1 w4) := below_then HB3.out HB3.out.size hb4
    have HY0b := (show Hid (IntsAt _ _ _) from HY0.out.mono hb4)
    have HS0b := (show Hid (IntsAt _ _ _) from HS0'.out.mono hb4)
    clear hb4 HY1 HS1' HB3 HY0 HS0'
    go_wp2_with fail
    refine (lqInts_same R _ _ _ HY1b.out HS1b.out).mono ?_
    rintro e w5 ⟨rfl, hb5⟩
    have HB5 : Hid (Below w1.heap.size w1 w5) := below_then HB4.out HB4.out.size hb5
    have HY1c := (show Hid (IntsAt _ _ _) from HY1b.out.mono hb5)
    have HS1c := (show Hid (IntsAt _ _ _) from HS1b.out.mono hb5)
    have HY0c := (show Hid (IntsAt _ _ _) from HY0b.out.mono hb5)
    have HS0c := (show Hid (IntsAt _ _ _) from HS0b.out.mono hb5)
    clear hb5 HY1b HS1b HB4 HY0b HS0b
    go_wp2_with fail
    refine (lqInts_same C _ _ _ HY0c.out HS0c.out).mono ?_
    rintro e w6 ⟨rfl, hb6⟩
    have HB6 : Hid (Below w1.heap.size w1 w6) := below_then HB5.out HB5.out.size hb6
    have HY1d := (show Hid (IntsAt _ _ _) from HY1c.out.mono hb6)
    have HS1d := (show Hid (IntsAt _ _ _) from HS1c.out.mono hb6)
    clear hb6 HY1c HS1c HB5 HY0c HS0c
    go_wp2_with fail
    refine (lqInts_same R _ _ _ HY1d.out HS1d.out).mono ?_
    rintro e w7 ⟨rfl, hb7⟩
    have HB7 : Hid (Below w1.heap.size w1 w7) := below_then HB6.out HB6.out.size hb7
    clear hb7
    go_wp2_with fail
    go_ret
    exact ⟨rfl, HB1.out.trans (HB7.out.mono HB1.out.size)⟩
  go_wp2_with fail
  refine (lqInts_same C _ _ _ HY0.out HS0'.out).mono ?_
  rintro e w4 ⟨rfl, hb4⟩
  have HY1b := (show Hid (IntsAt _ _ _) from HY1.out.mono hb4)
  have HS1b := (show Hid (IntsAt _ _ _) from HS1'.out.mono hb4)
  have HY0b := (show Hid (IntsAt _ _ _) from HY0.out.mono hb4)
  have HS0b := (show Hid (IntsAt _ _ _) from HS0'.out.mono hb4)
  have HB4 : Hid (Below w1.heap.size w1 w4) := below_then HB3.out HB3.out.size hb4
  clear hb4 HY1 HS1' HB3 HY0 HS0'
  go_wp2_with fail
  refine (lqInts_same R _ _ _ HY1b.out HS1b.out).mono ?_
  rintro e w5 ⟨rfl, hb5⟩
  have HY0c := (show Hid (IntsAt _ _ _) from HY0b.out.mono hb5)
  have HY1c := (show Hid (IntsAt _ _ _) from HY1b.out.mono hb5)
  have HS0c := (show Hid (IntsAt _ _ _) from HS0b.out.mono hb5)
  have HS1c := (show Hid (IntsAt _ _ _) from HS1b.out.mono hb5)
  have HB5 : Hid (Below w1.heap.size w1 w5) := below_then HB4.out HB4.out.size hb5
  clear hb5 HS1b HB4 HY0b HY1b HS0b
  obtain ⟨hR3, hr3, hCl, hbd, hkeep⟩ := chX_regs HX.out
  have HR5 := (show Hid (IntsAt _ _ _) from HR.out.mono HB5.out)
  have HD5 := (show Hid (DeedsAt _ _ _) from HD.out.mono HB5.out)
  have HR3 := (show Hid (R.length = 3) from hR3)
  have Hr3 := (show Hid (r.length = 3) from hr3)
  have HBD := (show Hid (∀ k : Nat, _) from hbd)
  have HK := (show Hid (∀ k : Nat, _ → _) from hkeep)
  clear hR3 hr3 hCl hbd hkeep HS0c HS1c HY0c HC HR HD HOD HX
  go_wp2_with fail
  go_loopw [12] (fun i w' => ∃ k : Nat, k ≤ 3 ∧ i = .int .i64 k ∧ Below w5.heap.size w5 w') (fun i _ => 3 - (intOf i).toNat)
  case atStart => exact ⟨0, by omega, rfl, Below.refl _ _⟩
  case round =>
    obtain ⟨k, hk, rfl, hb⟩ := hrel
    have HBK := (show Hid (Below _ _ _) from hb)
    clear hb
    by_cases hlt : k < 3
    · have hlt' : (k : Int) < 3 := by omega
      have hkR : (k : Int) < (R.length : Int) := by have := HR3.out; omega
      have hkr : (k : Int) < (r.length : Int) := by have := Hr3.out; omega
      go_wp2_with fail
      go_loop [13, 14] (fun s i => ∃ j : Nat, j ≤ ds.length ∧ i = .int .i64 j ∧ s = .bool ((ds.take j).any (setsB k))) (fun _ i => ds.length - (intOf i).toNat)
      case atStart => exact ⟨0, Nat.zero_le _, rfl, by simp⟩
      case round =>
        obtain ⟨j, hj, rfl, rfl⟩ := hrel
        by_cases hjl : j < ds.length
        · have hjl' : (j : Int) < (ds.length : Int) := by omega
          have hsn : ((ds.take (j + 1)).any (setsB k)) = ((ds.take j).any (setsB k) || setsB k (nth De.z ds j)) := by
            rw [take_nth De.z ds j hjl]; simp
          have HSN := (show Hid (_ = _) from hsn)
          obtain ⟨ad', cd2, ed, _, hcs⟩ := HD5.out.mono HBK.out
          injection ed with ed1 ed2 ed3
          obtain ⟨b0, off, e0, hb0, c0, c1, c2⟩ := hcs j hjl
          rw [← ed1] at e0
          subst e0
          clear hcs ed1 ed2 ed3 hsn
          cases hs : (ds.take j).any (setsB k)
          · by_cases ha : (nth De.z ds j).a = k
            · have ha' : ((nth De.z ds j).a == (k : Int)) = true := by simp [ha]
              by_cases h1 : (nth De.z ds j).k = 1
              · have h1' : ((nth De.z ds j).k == 1) = true := by simp [h1]
                have HV : Hid ((ds.take (j + 1)).any (setsB k) = true) := by rw [Hid, HSN.out, hs]; simp [setsB, ha, h1]
                clear HSN hs ha h1
                go_wp2_with fail
                go_round
                case rel => exact ⟨j + 1, by omega, by go_num, by rw [HV.out]⟩
                case measure => simp [intOf]; omega
              · have h1' : ((nth De.z ds j).k == 1) = false := by simp [h1]
                by_cases h3 : (nth De.z ds j).k = 3
                · have h3' : ((nth De.z ds j).k == 3) = true := by simp [h3]
                  have HV : Hid ((ds.take (j + 1)).any (setsB k) = true) := by rw [Hid, HSN.out, hs]; simp [setsB, ha, h3]
                  clear HSN hs ha h1 h3
                  go_wp2_with fail
                  go_round
                  case rel => exact ⟨j + 1, by omega, by go_num, by rw [HV.out]⟩
                  case measure => simp [intOf]; omega
                · have h3' : ((nth De.z ds j).k == 3) = false := by simp [h3]
                  have HV : Hid ((ds.take (j + 1)).any (setsB k) = ((nth De.z ds j).k == 4)) := by
                    rw [Hid, HSN.out, hs]
                    simp only [setsB, ha, h1, h3, Bool.false_or, decide_false, decide_true, Bool.true_and]
                    rw [Bool.eq_iff_iff]; simp
                  clear HSN hs ha h1 h3
                  go_wp2_with fail
                  go_round
                  case rel => exact ⟨j + 1, by omega, by go_num, by rw [HV.out]⟩
                  case measure => simp [intOf]; omega
            · have ha' : ((nth De.z ds j).a == (k : Int)) = false := by simp [ha]
              have HV : Hid ((ds.take (j + 1)).any (setsB k) = false) := by rw [Hid, HSN.out, hs]; simp [setsB, ha]
              clear HSN hs ha
              go_wp2_with fail
              go_round
              case rel => exact ⟨j + 1, by omega, by go_num, by rw [HV.out]⟩
              case measure => simp [intOf]; omega
          · have HV : Hid ((ds.take (j + 1)).any (setsB k) = true) := by rw [Hid, HSN.out, hs]; rfl
            clear HSN
            go_wp2_with fail
            go_round
            case rel => exact ⟨j + 1, by omega, by go_num, by rw [HV.out]⟩
            case measure => simp [intOf]; omega
        · have he : j = ds.length := by omega
          have hjl' : ¬ (j : Int) < (ds.length : Int) := by omega
          have HS : Hid ((ds.take j).any (setsB k) = false → nth 0 R k = nth 0 r k) := fun hs => HK.out k (fun d hd => by
            rw [he, List.take_length] at hs
            rw [List.any_eq_false] at hs
            simpa using hs d hd)
          obtain ⟨n0, n1⟩ := HBD.out k
          have n0' : decide (nth 0 R k < 0) = false := by simp; omega
          have n1' : ¬ (100 ≤ nth 0 R k) := by omega
          obtain ⟨ay, ky, ey, _, hcy⟩ := HY1c.out.mono HBK.out
          obtain ⟨b1, off1, ey1, hb1, cy⟩ := hcy k (by have := HR3.out; omega)
          injection ey with ey2 ey3 ey4
          rw [← ey2] at ey1
          subst ey1
          obtain ⟨az, kz, ez, _, hcz⟩ := HR5.out.mono HBK.out
          obtain ⟨b2, off2, ez1, hb2, cz⟩ := hcz k (by have := Hr3.out; omega)
          injection ez with ez2 ez3 ez4
          rw [← ez2] at ez1
          subst ez1
          clear hcy hcz ey2 ey3 ey4 ez2 ez3 ez4 he
          cases hs : (ds.take j).any (setsB k)
          · have hv := HS.out hs
            have hv' : (nth 0 R k != nth 0 r k) = false := by simp [hv]
            clear HS hv hs
            go_wp2_with fail
            go_quiet (fail)
            go_wp2_with fail
            go_roundw
            case rel => exact ⟨k + 1, by omega, by go_num, below_drewN HBK.out _⟩
            case measure => simp [intOf]; omega
          · clear HS hs
            go_wp2_with fail
            go_quiet (fail)
            go_wp2_with fail
            go_roundw
            case rel => exact ⟨k + 1, by omega, by go_num, below_drewN HBK.out _⟩
            case measure => simp [intOf]; omega
    · have hlt' : ¬ (k : Int) < 3 := by omega
      go_wp2_with fail
      go_ret
      exact ⟨rfl, HB1.out.trans ((below_then HB5.out HB5.out.size HBK.out).mono HB1.out.size)⟩

end Go.Proofs.Ytpncmjlaijojlaa
