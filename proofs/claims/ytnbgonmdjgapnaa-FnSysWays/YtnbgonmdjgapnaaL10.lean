/-
  How tasks stand is told (by mkl9.py).
-/
import Derived.Test.YtnbgonmdjgapnaaBase36
import Derived.Test.YtnbgonmdjgapnaaL7
import Derived.Test.YtnbgonmdjgapnaaN1
import Derived.Test.YtnbgonmdjgapnaaL8
import Derived.Test.YtnbgonmdjgapnaaA2
namespace Go.Proofs.Ytnbgonmdjgapnaa
open Go.RowKit
set_option linter.unusedSimpArgs false
set_option linter.unusedVariables false
set_option maxRecDepth 20000

set_option maxHeartbeats 4000000 in
theorem fnSysWays_walk (a : Option Addr) (n cap : Nat) (w : World) (h : Bytes w a n) (hc : n ≤ cap) (hn : cap ≤ 9223372036854775807) :
    Calls Try.prog 5 #[.slice a n cap] w fun e w' => e = .returned (.bool true) ∧ Below w.heap.size w w' := by
  by_cases hbig : 1048576 < n
  · have hb' : (1048576 : Int) < (n : Int) := by omega
    clear h
    go_enter Try.func5, Try.ntmps5
    go_wp2_with fail
    go_ret
    exact ⟨rfl, Below.refl _ _⟩
  have hb' : ¬ (1048576 : Int) < (n : Int) := by omega
  have HY := (show Hid (Bytes _ _ _) from h)
  clear h
  go_enter Try.func5, Try.ntmps5
  go_wp2_with fail
  refine (drawSysWays_any a n cap w HY.out hc hn).mono ?_
  rintro e w1 ⟨pr, s, c, t, l, rfl, hS, hO, hb1⟩
  obtain ⟨xa, xc, ya, yc, za, zc, rfl, rfl, rfl⟩ := hS.shapes
  have hc3 := hO.cs
  have hn7 := hO.n
  have HSV : Hid (SyAt (w1.alloc (.cells #[.slice xa s.cells.length xc, .slice ya s.tasks.length yc, .int .i64 s.clock, .slice za s.log.length zc] 32)) (.slice xa s.cells.length xc) (.slice ya s.tasks.length yc) (.slice za s.log.length zc) s ∧ SBox (w1.alloc (.cells #[.slice xa s.cells.length xc, .slice ya s.tasks.length yc, .int .i64 s.clock, .slice za s.log.length zc] 32)) w1.heap.size (.slice xa s.cells.length xc) (.slice ya s.tasks.length yc) (.slice za s.log.length zc) s.clock ∧ Below w.heap.size w (w1.alloc (.cells #[.slice xa s.cells.length xc, .slice ya s.tasks.length yc, .int .i64 s.clock, .slice za s.log.length zc] 32))) :=
    ⟨hS.at.mono ((Below.refl _ _).alloc (Nat.le_refl _) _), heap_alloc_new w1 _, hb1.alloc hb1.size _⟩
  clear hS hO hb1 HY
  go_wp2_with fail
  revert HSV
  generalize (w1.alloc (.cells #[.slice xa s.cells.length xc, .slice ya s.tasks.length yc, .int .i64 s.clock, .slice za s.log.length zc] 32)) = V
  generalize w1.heap.size = X
  intro HSV
  have HS := (show Hid (SyAt _ _ _ _ _) from HSV.out.1)
  have HX := (show Hid (SBox _ _ _ _ _ _) from HSV.out.2.1)
  have HB := (show Hid (Below _ _ _) from HSV.out.2.2)
  clear HSV
  have hXl := HX.out.lt
  refine (sysWays_any s _ _ _ _ HS.out.2.1 ⟨_, _, rfl⟩ ⟨_, _, rfl⟩ ⟨_, _, rfl⟩ (by omega)).mono ?_
  rintro e w2 ⟨v2, rfl, hv2, hb2⟩
  have H2 : Hid (Below V.heap.size V w2) := ((Below.refl V.heap.size V)).trans (hb2.mono ((Below.refl V.heap.size V)).size)
  have HV2 : Hid (IntsAt w2 v2 (s.tasks.map (·.way))) := OwnInt.at hv2
  obtain ⟨a2, c2, e2, _⟩ := own_shape hv2
  clear hv2 hb2
  have hml : (s.tasks.map (·.way)).length = s.tasks.length := by simp
  rw [hml] at e2
  subst e2
  obtain ⟨⟨x0, x1, x2, x3⟩, _, _⟩ := (HX.out.heap (H2.out.block X hXl)).cells
  go_wp2_with fail
  refine (sSysWays_any s _ _ _ _ (HS.out.2.1.mono H2.out) ⟨_, _, rfl⟩ ⟨_, _, rfl⟩ ⟨_, _, rfl⟩ (by omega)).mono ?_
  rintro e w3 ⟨v3, rfl, hv3, hb3⟩
  have H3 : Hid (Below V.heap.size V w3) := (H2.out).trans (hb3.mono (H2.out).size)
  have HV3 : Hid (IntsAt w3 v3 (s.tasks.map (·.way))) := OwnInt.at hv3
  have HB23 := (show Hid (Below _ _ _) from hb3)
  obtain ⟨a3, c3, e3, _⟩ := own_shape hv3
  clear hv3 hb3
  rw [hml] at e3
  subst e3
  have HW3 : Hid (IntsAt w3 (.slice a2 s.tasks.length c2) (s.tasks.map (·.way))) := by
    exact HV2.out.mono HB23.out
  clear x0 x1 x2 x3 hml
  go_wp2_with fail
  refine (lqInts_any _ _ _ _ _ HW3.out HV3.out).mono ?_
  rw [show decide ((s.tasks.map (·.way)) = (s.tasks.map (·.way))) = true from by simp]
  rintro e w4 ⟨rfl, hb4⟩
  have H4 : Hid (Below V.heap.size V w4) := H3.out.trans (hb4.mono H3.out.size)
  have HV4 : Hid (IntsAt w4 (.slice a2 s.tasks.length c2) (s.tasks.map (·.way))) := HW3.out.mono hb4
  clear hb4 HV2 HV3 HW3 H2 H3
  go_wp2_with fail
  go_loopw [5, 6] (fun o q w' => ∃ k : Nat, k ≤ s.tasks.length ∧ q = .int .i64 k ∧ o = .int .i64 ((plW (fun i => lvB (nth Ta.z s.tasks i)) k).length : Int) ∧ Below w4.heap.size w4 w') (fun _ q _ => s.tasks.length - (intOf q).toNat)
  case atStart => exact ⟨0, Nat.zero_le _, rfl, by simp [plW], Below.refl _ _⟩
  case round =>
    obtain ⟨k, hk, rfl, rfl, hbr⟩ := hrel
    have HBR : Hid (Below V.heap.size V wr) := H4.out.trans (hbr.mono H4.out.size)
    have HBr := (show Hid (Below _ _ _) from hbr)
    obtain ⟨⟨x0, x1, x2, x3⟩, _, _⟩ := (HX.out.heap (HBR.out.block X hXl)).cells
    have hpl := plW_len (fun i => lvB (nth Ta.z s.tasks i)) k
    have HPS : Hid ((plW (fun i => lvB (nth Ta.z s.tasks i)) (k + 1)).length = (plW (fun i => lvB (nth Ta.z s.tasks i)) k).length + (if lvB (nth Ta.z s.tasks k) = true then 1 else 0)) := by
      unfold Hid
      rw [plW_succ, List.length_append]
      cases lvB (nth Ta.z s.tasks k) <;> simp
    have HPE : Hid (k = s.tasks.length → (plW (fun i => lvB (nth Ta.z s.tasks i)) k) = liveL s) := fun e => by rw [e]; rfl
    revert hpl HPS HPE
    generalize (plW (fun i => lvB (nth Ta.z s.tasks i)) k) = P
    intro hpl HPS HPE
    by_cases hlt : k < s.tasks.length
    · have hlt' : (k : Int) < (s.tasks.length : Int) := by omega
      obtain ⟨_, _, e1, _, hcv⟩ := HV4.out.mono hbr
      injection e1 with e2 e3 e4
      subst e2 e4
      obtain ⟨b, off, rfl, hbl, y0⟩ := hcv k (by simpa using hlt)
      rw [ways_nth s hlt] at y0
      have hw1 : IntKind.i64.wrap ((P.length : Int) + 1) = (P.length : Int) + 1 := by rw [IntKind.wrap_i64]; omega
      have HPS' : Hid ((plW (fun i => lvB (nth Ta.z s.tasks i)) (k + 1)).length = P.length + (if (decide ((nth Ta.z s.tasks k).way = 0) || decide ((nth Ta.z s.tasks k).way = 1)) = true then 1 else 0)) := HPS.out
      clear hcv e3 hbr HPS
      revert y0 HPS'
      generalize (nth Ta.z s.tasks k).way = wy
      intro y0 HPS
      by_cases h0 : wy = 0
      · have h0b : (wy == 0) = true := by simp [h0]
        have HP1 : Hid ((plW (fun i => lvB (nth Ta.z s.tasks i)) (k + 1)).length = P.length + 1) := by unfold Hid; have := HPS.out; simp [h0] at this; exact this
        clear h0 HPS
        go_wp2_with fail
        go_roundw
        case rel => exact ⟨k + 1, by omega, by go_num, by rw [HP1.out]; go_num, HBr.out⟩
        case measure => simp [intOf]; omega
      · have h0b : (wy == 0) = false := by simp [h0]
        by_cases h1 : wy = 1
        · have h1b : (wy == 1) = true := by simp [h1]
          have HP1 : Hid ((plW (fun i => lvB (nth Ta.z s.tasks i)) (k + 1)).length = P.length + 1) := by unfold Hid; have := HPS.out; simp [h0, h1] at this; exact this
          clear h0 h1 HPS
          go_wp2_with fail
          go_roundw
          case rel => exact ⟨k + 1, by omega, by go_num, by rw [HP1.out]; go_num, HBr.out⟩
          case measure => simp [intOf]; omega
        · have h1b : (wy == 1) = false := by simp [h1]
          have HP1 : Hid ((plW (fun i => lvB (nth Ta.z s.tasks i)) (k + 1)).length = P.length) := by unfold Hid; have := HPS.out; simp [h0, h1] at this; exact this
          clear h0 h1 HPS
          go_wp2_with fail
          go_roundw
          case rel => exact ⟨k + 1, by omega, by go_num, by rw [HP1.out], HBr.out⟩
          case measure => simp [intOf]; omega
    · have hlt' : ¬ (k : Int) < (s.tasks.length : Int) := by omega
      have hPE := HPE.out (by omega)
      subst hPE
      clear hbr HPS HPE
      go_wp2_with fail
      refine (treeLive_any s _ _ _ _ _ _ _ (HS.out.2.1.mono HBR.out) (by omega)).mono ?_
      rintro e w6 ⟨v6, rfl, hv6, hb6⟩
      obtain ⟨a6, c6, e6, _⟩ := own_shape hv6
      subst e6
      have HF : Hid (Below w.heap.size w w6) := HB.out.trans ((HBR.out.trans (hb6.mono HBR.out.size)).mono HB.out.size)
      clear hv6 hb6
      go_wp2_with fail
      go_ret
      exact ⟨rfl, HF.out⟩

end Go.Proofs.Ytnbgonmdjgapnaa
