import Derived.Test.YthllcbbjibfklaaH9
import Derived.Deep.QuietTactic
import Derived.BigQuiet
namespace Go.Proofs.Ythllcbbjibfklaa
open Go.RowKit
set_option linter.unusedSimpArgs false
set_option linter.unusedVariables false
set_option maxRecDepth 20000

set_option maxHeartbeats 4000000 in
theorem changeDo_walk (a : Option Addr) (n cap : Nat) (w : World) (h : Bytes w a n) (hc : n ≤ cap) (hn : cap ≤ 9223372036854775807) :
    Calls Try.prog 3 #[.slice a n cap] w fun e w' => e = .returned (.bool true) ∧ Below w.heap.size w w' := by
  by_cases hbig : 1048576 < n
  · have hbig' : (1048576 : Int) < (n : Int) := by omega
    clear h
    go_enter Try.func3, Try.ntmps3
    go_wp2_with fail
    go_ret
    exact ⟨rfl, Below.refl _ _⟩
  have hbig' : ¬ (1048576 : Int) < (n : Int) := by omega
  have HBy := (show Hid (Bytes _ _ _) from h)
  clear h
  go_enter Try.func3, Try.ntmps3
  go_wp2_with fail
  refine (drawChangeDo_any a n cap _ HBy.out hc hn).mono ?_
  rintro e w1 ⟨cv, rv, dv, c, r, ds, rfl, hoc, hor, hod, hl6, hb1⟩
  obtain ⟨ac, cc, rfl, hcc, _⟩ := own_shape hoc
  obtain ⟨ar, cr, rfl, hcr, _⟩ := own_shape hor
  obtain ⟨ad, cd, rfl, hcd, hcd'⟩ := own_shape hod
  obtain ⟨C, R, ok, hX⟩ : ∃ C R ok, chX c r ds = (C, R, ok) := ⟨_, _, _, rfl⟩
  have HX := (show Hid (chX _ _ _ = _) from hX)
  have HC := (show Hid (IntsAt _ _ _) from hoc.at)
  have HR := (show Hid (IntsAt _ _ _) from hor.at)
  have HD := (show Hid (DeedsAt _ _ _) from hod.at)
  have HOD := (show Hid (OwnDe _ _ _ _) from hod)
  have HB1 := (show Hid (Below _ _ _) from hb1)
  clear hoc hor hod hb1 hX HBy
  go_wp2_with fail
  refine (sChangeDo_is HX.out _ _ _ _ HC.out HR.out HD.out).mono ?_
  rintro e w2 ⟨a0, k0, a1, k1, rfl, hs0, hs1, hb2⟩
  have HS0 := (show Hid (IntsAt _ _ _) from hs0)
  have HS1 := (show Hid (IntsAt _ _ _) from hs1)
  have HB2 := (show Hid (Below _ _ _) from hb2)
  clear hs0 hs1 hb2
  go_wp2_with fail
  refine (changeDo_is HX.out _ _ _ _ (HC.out.mono HB2.out) (HR.out.mono HB2.out) (HD.out.mono HB2.out)).mono ?_
  rintro e w3 ⟨a2, k2, a3, k3, rfl, hy0, hy1, hb3⟩
  have HY0 := (show Hid (IntsAt _ _ _) from hy0)
  have HY1 := (show Hid (IntsAt _ _ _) from hy1)
  have HS0' := (show Hid (IntsAt _ _ _) from HS0.out.mono hb3)
  have HS1' := (show Hid (IntsAt _ _ _) from HS1.out.mono hb3)
  have HB3 : Hid (Below w1.heap.size w1 w3) := below_then HB2.out HB2.out.size hb3
  clear hy0 hy1 hb3 HS0 HS1 HB2
  have hlenC : C.length ≤ 9223372036854775807 := by obtain ⟨_, _, e, h⟩ := HY0.out.shape; exact h
  cases ok
  · go_wp2_with fail
    refine (lqInts_same C _ _ _ HY0.out HS0'.out).mono ?_
    rintro e w4 ⟨rfl, hb4⟩
    have HY1b := (show Hid (IntsAt _ _ _) from HY1.out.mono hb4)
    have HS1b := (show Hid (IntsAt _ _ _) from HS1'.out.mono hb4)
    have HB4 : Hid (Below w1.heap.size w1 w4) := below_then HB3.out HB3.out.size hb4
    have HY0b := (show Hid (IntsAt _ _ _) from HY0.out.mono hb4)
    have HS0b := (show Hid (IntsAt _ _ _) from HS0'.out.mono hb4)
    clear hb4 HY1 HS1' HB3 HY0 HS0'
    go_wp2_with fail
    refine (lqInts_same R _ _ _ HY1b.out HS1b.out).mono ?_
    rintro e w5 ⟨rfl, hb5⟩
    have HB5 : Hid (Below w1.heap.size w1 w5) := below_then HB4.out HB4.out.size hb5
    have HY1c := (show Hid (IntsAt _ _ _) from HY1b.out.mono hb5)
    have HS1c := (show Hid (IntsAt _ _ _) from HS1b.out.mono hb5)
    have HY0c := (show Hid (IntsAt _ _ _) from HY0b.out.mono hb5)
    have HS0c := (show Hid (IntsAt _ _ _) from HS0b.out.mono hb5)
    clear hb5 HY1b HS1b HB4 HY0b HS0b
    go_wp2_with fail
    refine (lqInts_same C _ _ _ HY0c.out HS0c.out).mono ?_
    rintro e w6 ⟨rfl, hb6⟩
    have HB6 : Hid (Below w1.heap.size w1 w6) := below_then HB5.out HB5.out.size hb6
    have HY1d := (show Hid (IntsAt _ _ _) from HY1c.out.mono hb6)
    have HS1d := (show Hid (IntsAt _ _ _) from HS1c.out.mono hb6)
    clear hb6 HY1c HS1c HB5 HY0c HS0c
    go_wp2_with fail
    refine (lqInts_same R _ _ _ HY1d.out HS1d.out).mono ?_
    rintro e w7 ⟨rfl, hb7⟩
    have HB7 : Hid (Below w1.heap.size w1 w7) := below_then HB6.out HB6.out.size hb7
    clear hb7
    go_wp2_with fail
    go_ret
    exact ⟨rfl, HB1.out.trans (HB7.out.mono HB1.out.size)⟩
  go_wp2_with fail
  refine (lqInts_same C _ _ _ HY0.out HS0'.out).mono ?_
  rintro e w4 ⟨rfl, hb4⟩
  have HY1b := (show Hid (IntsAt _ _ _) from HY1.out.mono hb4)
  have HS1b := (show Hid (IntsAt _ _ _) from HS1'.out.mono hb4)
  have HY0b := (show Hid (IntsAt _ _ _) from HY0.out.mono hb4)
  have HS0b := (show Hid (IntsAt _ _ _) from HS0'.out.mono hb4)
  have HB4 : Hid (Below w1.heap.size w1 w4) := below_then HB3.out HB3.out.size hb4
  clear hb4 HY1 HS1' HB3 HY0 HS0'
  go_wp2_with fail
  refine (lqInts_same R _ _ _ HY1b.out HS1b.out).mono ?_
  rintro e w5 ⟨rfl, hb5⟩
  have HY0c := (show Hid (IntsAt _ _ _) from HY0b.out.mono hb5)
  have HY1c := (show Hid (IntsAt _ _ _) from HY1b.out.mono hb5)
  have HS0c := (show Hid (IntsAt _ _ _) from HS0b.out.mono hb5)
  have HS1c := (show Hid (IntsAt _ _ _) from HS1b.out.mono hb5)
  have HB5 : Hid (Below w1.heap.size w1 w5) := below_then HB4.out HB4.out.size hb5
  clear hb5 HS1b HB4 HY0b HY1b HS0b
  obtain ⟨hR3, hr3, hCl, _, _⟩ := chX_regs HX.out
  have hlC : (C.length : Int) = (c.length : Int) := by omega
  have hlR : (R.length : Int) = (r.length : Int) := by omega
  have HLC := (show Hid (C.length = c.length) from hCl)
  have HLC2 := (show Hid ((C.length : Int) = (c.length : Int)) from hlC)
  have HLR2 := (show Hid ((R.length : Int) = (r.length : Int)) from hlR)
  have HKC := (show Hid (∀ k : Nat, _ → _ → _) from chX_cells HX.out)
  clear HS0c HS1c HY1c hR3 hr3 hCl hlC hlR HR HOD HX
  go_wp2_with fail
  refine (changeWrites_any _ ds _ (HD.out.mono HB5.out)).mono ?_
  rintro e w6 ⟨wv, rfl, ho6, hb6⟩
  obtain ⟨aw, kw, rfl, _⟩ := own_shape ho6
  have HW6 := (show Hid (IntsAt _ _ _) from ho6.at)
  have HY6 := (show Hid (IntsAt _ _ _) from HY0c.out.mono hb6)
  have HB6 : Hid (Below w1.heap.size w1 w6) := below_then HB5.out HB5.out.size hb6
  have HC6 := (show Hid (IntsAt _ _ _) from HC.out.mono HB6.out)
  clear ho6 hb6 HY0c HB5 HC HD
  go_wp2_with fail
  go_loopw [13] (fun i w' => ∃ k : Nat, k ≤ c.length ∧ i = .int .i64 k ∧ Below w6.heap.size w6 w') (fun i _ => c.length - (intOf i).toNat)
  case atStart => exact ⟨0, by omega, rfl, Below.refl _ _⟩
  case round =>
    obtain ⟨k, hk, rfl, hb⟩ := hrel
    have HBK := (show Hid (Below _ _ _) from hb)
    clear hb
    by_cases hlt : k < c.length
    · have hlt' : (k : Int) < (c.length : Int) := by omega
      have hkC : (k : Int) < (C.length : Int) := by have := HLC.out; omega
      obtain ⟨ay, ky, ey, _, hcy⟩ := HY6.out.mono HBK.out
      obtain ⟨b1, off1, ey1, hb1, cy⟩ := hcy k (by have := HLC.out; omega)
      injection ey with ey2 ey3 ey4
      rw [← ey2] at ey1
      subst ey1
      obtain ⟨az, kz, ez, _, hcz⟩ := HC6.out.mono HBK.out
      obtain ⟨b2, off2, ez1, hb2, cz⟩ := hcz k hlt
      injection ez with ez2 ez3 ez4
      rw [← ez2] at ez1
      subst ez1
      have HWr := (show Hid (IntsAt _ _ _) from HW6.out.mono HBK.out)
      clear hcy hcz ey2 ey3 ey4 ez2 ez3 ez4
      cases hh : hasB (chW ds) (k : Int)
      · have hv := HKC.out k hlt hh
        have hv' : (nth 0 C k != nth 0 c k) = false := by simp [hv]
        have HH := (show Hid (hasB _ _ = _) from hh)
        clear hv hh
        go_wp2_with fail
        go_quiet ((go_at_call 14; exact Calls.quiet_of_same (lqHas_is HH.out _ _ (HWr.out.drewN _))))
        go_wp2_with fail
        go_roundw
        case rel => exact ⟨k + 1, by omega, by go_num, below_drewN HBK.out _⟩
        case measure => simp [intOf]; omega
      · have HH := (show Hid (hasB _ _ = _) from hh)
        clear hh
        go_wp2_with fail
        go_quiet ((go_at_call 14; exact Calls.quiet_of_same (lqHas_is HH.out _ _ (HWr.out.drewN _))))
        go_wp2_with fail
        go_roundw
        case rel => exact ⟨k + 1, by omega, by go_num, below_drewN HBK.out _⟩
        case measure => simp [intOf]; omega
    · have hlt' : ¬ (k : Int) < (c.length : Int) := by omega
      have e1 : ((C.length : Int) == (c.length : Int)) = true := by simp [HLC2.out]
      have e2 : ((R.length : Int) == (r.length : Int)) = true := by simp [HLR2.out]
      go_wp2_with fail
      go_ret
      exact ⟨rfl, HB1.out.trans ((below_then HB6.out HB6.out.size HBK.out).mono HB1.out.size)⟩

end Go.Proofs.Ythllcbbjibfklaa
