/-
  Laws of systems that are told: what cells have.
-/
import Derived.Test.YtnbgonmdjgapnaaBase36
import Derived.Test.YtnbgonmdjgapnaaL7
import Derived.Test.YtnbgonmdjgapnaaN1
namespace Go.Proofs.Ytnbgonmdjgapnaa
open Go.RowKit
set_option linter.unusedSimpArgs false
set_option linter.unusedVariables false
set_option maxRecDepth 20000

theorem nums_nth (s : Sy) {k : Nat} (hk : k < s.cells.length) : nth 0 (s.cells.map (·.num)) k = (nth Ce.z s.cells k).num := by
  rw [nth_eq 0 _ k (by simpa using hk), nth_eq Ce.z _ k hk]; simp
theorem ways_nth (s : Sy) {k : Nat} (hk : k < s.tasks.length) : nth 0 (s.tasks.map (·.way)) k = (nth Ta.z s.tasks k).way := by
  rw [nth_eq 0 _ k (by simpa using hk), nth_eq Ta.z _ k hk]; simp
set_option maxHeartbeats 2000000 in
theorem fnSysNums_walk (a : Option Addr) (n cap : Nat) (w : World) (h : Bytes w a n) (hc : n ≤ cap) (hn : cap ≤ 9223372036854775807) :
    Calls Try.prog 4 #[.slice a n cap] w fun e w' => e = .returned (.bool true) ∧ Below w.heap.size w w' := by
  by_cases hbig : 1048576 < n
  · have hb' : (1048576 : Int) < (n : Int) := by omega
    clear h
    go_enter Try.func4, Try.ntmps4
    go_wp2_with fail
    go_ret
    exact ⟨rfl, Below.refl _ _⟩
  have hb' : ¬ (1048576 : Int) < (n : Int) := by omega
  have HY := (show Hid (Bytes _ _ _) from h)
  clear h
  go_enter Try.func4, Try.ntmps4
  go_wp2_with fail
  refine (drawSysNums_any a n cap w HY.out hc hn).mono ?_
  rintro e w1 ⟨pr, s, c, t, l, rfl, hS, hO, hb1⟩
  obtain ⟨xa, xc, ya, yc, za, zc, rfl, rfl, rfl⟩ := hS.shapes
  have hc3 := hO.cs
  have HSV : Hid (SyAt (w1.alloc (.cells #[.slice xa s.cells.length xc, .slice ya s.tasks.length yc, .int .i64 s.clock, .slice za s.log.length zc] 32)) (.slice xa s.cells.length xc) (.slice ya s.tasks.length yc) (.slice za s.log.length zc) s ∧ SBox (w1.alloc (.cells #[.slice xa s.cells.length xc, .slice ya s.tasks.length yc, .int .i64 s.clock, .slice za s.log.length zc] 32)) w1.heap.size (.slice xa s.cells.length xc) (.slice ya s.tasks.length yc) (.slice za s.log.length zc) s.clock ∧ Below w.heap.size w (w1.alloc (.cells #[.slice xa s.cells.length xc, .slice ya s.tasks.length yc, .int .i64 s.clock, .slice za s.log.length zc] 32))) :=
    ⟨hS.at.mono ((Below.refl _ _).alloc (Nat.le_refl _) _), heap_alloc_new w1 _, hb1.alloc hb1.size _⟩
  clear hS hO hb1 HY
  go_wp2_with fail
  revert HSV
  generalize (w1.alloc (.cells #[.slice xa s.cells.length xc, .slice ya s.tasks.length yc, .int .i64 s.clock, .slice za s.log.length zc] 32)) = V
  generalize w1.heap.size = X
  intro HSV
  have HS := (show Hid (SyAt _ _ _ _ _) from HSV.out.1)
  have HX := (show Hid (SBox _ _ _ _ _ _) from HSV.out.2.1)
  have HB := (show Hid (Below _ _ _) from HSV.out.2.2)
  clear HSV
  have hXl := HX.out.lt
  refine (sysNums_any s _ _ _ _ HS.out.1 ⟨_, _, rfl⟩ ⟨_, _, rfl⟩ ⟨_, _, rfl⟩ (by omega)).mono ?_
  rintro e w2 ⟨v2, rfl, hv2, hb2⟩
  have hml : (s.cells.map (·.num)).length = s.cells.length := by simp
  obtain ⟨va, vc, ev, _⟩ := own_shape hv2
  rw [hml] at ev
  subst ev
  clear hml
  have H2 := (show Hid (Below _ _ _) from hb2)
  have HV2 : Hid (IntsAt w2 (.slice va s.cells.length vc) (s.cells.map (·.num))) := OwnInt.at hv2
  obtain ⟨⟨x0, x1, x2, x3⟩, _, _⟩ := (HX.out.heap (hb2.block X hXl)).cells
  clear hv2 hb2
  go_wp2_with fail
  refine (sSysNums_any s _ _ _ _ (HS.out.1.mono H2.out) ⟨_, _, rfl⟩ ⟨_, _, rfl⟩ ⟨_, _, rfl⟩ (by omega)).mono ?_
  rintro e w3 ⟨v3, rfl, hv3, hb3⟩
  have H3 : Hid (Below V.heap.size V w3) := H2.out.trans (hb3.mono H2.out.size)
  have HV3 : Hid (IntsAt w3 v3 (s.cells.map (·.num)) ∧ IntsAt w3 (.slice va s.cells.length vc) (s.cells.map (·.num))) := ⟨OwnInt.at hv3, HV2.out.mono hb3⟩
  clear hv3 hb3 x0 x1 x2 x3
  go_wp2_with fail
  refine (lqInts_any _ _ _ _ _ HV3.out.2 HV3.out.1).mono ?_
  rw [show decide ((s.cells.map (·.num)) = (s.cells.map (·.num))) = true from by simp]
  rintro e w4 ⟨rfl, hb4⟩
  have H4 : Hid (Below V.heap.size V w4) := H3.out.trans (hb4.mono H3.out.size)
  have HV4 : Hid (IntsAt w4 (.slice va s.cells.length vc) (s.cells.map (·.num))) := HV3.out.2.mono hb4
  clear hb4 HV2 HV3 H2 H3
  go_wp2_with fail
  go_loopw [5] (fun q w' => ∃ k : Nat, k ≤ s.cells.length ∧ q = .int .i64 k ∧ Below w4.heap.size w4 w') (fun q _ => s.cells.length - (intOf q).toNat)
  case atStart => exact ⟨0, Nat.zero_le _, rfl, Below.refl _ _⟩
  case round =>
    obtain ⟨k, hk, rfl, hbr⟩ := hrel
    have HBR : Hid (Below V.heap.size V wr) := H4.out.trans (hbr.mono H4.out.size)
    have HBr := (show Hid (Below _ _ _) from hbr)
    obtain ⟨⟨x0, x1, x2, x3⟩, _, _⟩ := (HX.out.heap (HBR.out.block X hXl)).cells
    by_cases hlt : k < s.cells.length
    · have hlt' : (k : Int) < (s.cells.length : Int) := by omega
      have hv := HV4.out.mono hbr
      obtain ⟨_, _, e1, _, hcv⟩ := hv
      injection e1 with e2 e3 e4
      subst e2 e4
      obtain ⟨b, off, rfl, hbl, y0⟩ := hcv k (by simpa using hlt)
      rw [nums_nth s hlt] at y0
      obtain ⟨_, _, e1', _, hcc⟩ := HS.out.1.mono HBR.out
      injection e1' with e2' e3' e4'
      subst e2' e4'
      obtain ⟨b2, off2, rfl, hbl2, z0, z1, z2⟩ := hcc k hlt
      clear hcv hcc e3 e3' hbr
      go_wp2_with fail
      go_quiet (fail)
      go_wp2_with fail
      go_roundw
      case rel => exact ⟨k + 1, by omega, by go_num, below_drewN HBr.out _⟩
      case measure => simp [intOf]; omega
    · have hlt' : ¬ (k : Int) < (s.cells.length : Int) := by omega
      have HF : Hid (Below w.heap.size w wr) := HB.out.trans (HBR.out.mono HB.out.size)
      clear hbr
      go_wp2_with fail
      go_ret
      exact ⟨rfl, HF.out⟩

end Go.Proofs.Ytnbgonmdjgapnaa
