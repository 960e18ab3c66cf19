/-
  Who still goes on runs, or waits (by mkl9.py).
-/
import Derived.Test.YtnbgonmdjgapnaaBase36
import Derived.Test.YtnbgonmdjgapnaaL7
import Derived.Test.YtnbgonmdjgapnaaN1
import Derived.Test.YtnbgonmdjgapnaaL8
import Derived.Test.YtnbgonmdjgapnaaA2
namespace Go.Proofs.Ytnbgonmdjgapnaa
open Go.RowKit
set_option linter.unusedSimpArgs false
set_option linter.unusedVariables false
set_option maxRecDepth 20000

theorem plW_has (f : Nat → Bool) (n k : Nat) (hk : k < n) : hasB (plW f n) (k : Int) = f k := by
  unfold hasB plW
  rw [Bool.eq_iff_iff, decide_eq_true_eq, List.mem_map]
  constructor
  · rintro ⟨i, hi, e⟩
    have e' : i = k := by omega
    subst e'
    exact (List.mem_filter.1 hi).2
  · intro h
    exact ⟨k, List.mem_filter.2 ⟨List.mem_range.2 hk, h⟩, rfl⟩
theorem plW_up (f : Nat → Bool) (n : Nat) : upL (plW f n) = true := by
  have h : (plW f n).Pairwise (· < ·) := by
    unfold plW
    rw [List.pairwise_map]
    exact (List.Pairwise.sublist List.filter_sublist List.pairwise_lt_range).imp (fun h => by omega)
  unfold upL
  rw [List.all_eq_true]
  intro i hi
  have hi' := List.mem_range.1 hi
  rw [decide_eq_true_eq, nth_eq 0 _ i (by omega), nth_eq 0 _ (i + 1) (by omega)]
  exact List.pairwise_iff_getElem.1 h i (i + 1) (by omega) (by omega) (by omega)
theorem lqHas_b {xs : List Int} {n : Int} {b : Bool} (h : hasB xs n = b) (v : Value) (w : World) (hv : IntsAt w v xs) :
    Calls Try.prog 47 #[v, .int .i64 n] w fun r w' => r = .returned (.bool b) ∧ w' = w := by subst h; exact lqHas_any v xs n w hv
theorem IntsAt.drewn {w : World} {v : Value} {xs : List Int} (h : IntsAt w v xs) (n : Nat) : IntsAt (w.drewN n) v xs := h.mono (below_drewN (Below.refl _ _) n)
set_option maxHeartbeats 4000000 in
theorem fnTreeLive_walk (a : Option Addr) (n cap : Nat) (w : World) (h : Bytes w a n) (hc : n ≤ cap) (hn : cap ≤ 9223372036854775807) :
    Calls Try.prog 14 #[.slice a n cap] w fun e w' => e = .returned (.bool true) ∧ Below w.heap.size w w' := by
  by_cases hbig : 1048576 < n
  · have hb' : (1048576 : Int) < (n : Int) := by omega
    clear h
    go_enter Try.func14, Try.ntmps14
    go_wp2_with fail
    go_ret
    exact ⟨rfl, Below.refl _ _⟩
  have hb' : ¬ (1048576 : Int) < (n : Int) := by omega
  have HY := (show Hid (Bytes _ _ _) from h)
  clear h
  go_enter Try.func14, Try.ntmps14
  go_wp2_with fail
  refine (drawTreeLive_any a n cap w HY.out hc hn).mono ?_
  rintro e w1 ⟨pr, s, c, t, l, rfl, hS, hO, hb1⟩
  obtain ⟨xa, xc, ya, yc, za, zc, rfl, rfl, rfl⟩ := hS.shapes
  have hc3 := hO.cs
  have hn7 := hO.n
  have HSV : Hid (SyAt (w1.alloc (.cells #[.slice xa s.cells.length xc, .slice ya s.tasks.length yc, .int .i64 s.clock, .slice za s.log.length zc] 32)) (.slice xa s.cells.length xc) (.slice ya s.tasks.length yc) (.slice za s.log.length zc) s ∧ SBox (w1.alloc (.cells #[.slice xa s.cells.length xc, .slice ya s.tasks.length yc, .int .i64 s.clock, .slice za s.log.length zc] 32)) w1.heap.size (.slice xa s.cells.length xc) (.slice ya s.tasks.length yc) (.slice za s.log.length zc) s.clock ∧ Below w.heap.size w (w1.alloc (.cells #[.slice xa s.cells.length xc, .slice ya s.tasks.length yc, .int .i64 s.clock, .slice za s.log.length zc] 32))) :=
    ⟨hS.at.mono ((Below.refl _ _).alloc (Nat.le_refl _) _), heap_alloc_new w1 _, hb1.alloc hb1.size _⟩
  clear hS hO hb1 HY
  go_wp2_with fail
  revert HSV
  generalize (w1.alloc (.cells #[.slice xa s.cells.length xc, .slice ya s.tasks.length yc, .int .i64 s.clock, .slice za s.log.length zc] 32)) = V
  generalize w1.heap.size = X
  intro HSV
  have HS := (show Hid (SyAt _ _ _ _ _) from HSV.out.1)
  have HX := (show Hid (SBox _ _ _ _ _ _) from HSV.out.2.1)
  have HB := (show Hid (Below _ _ _) from HSV.out.2.2)
  clear HSV
  have hXl := HX.out.lt
  refine (treeLive_any s _ _ _ _ _ _ _ HS.out.2.1 (by omega)).mono ?_
  rintro e w2 ⟨v2, rfl, hv2, hb2⟩
  have H2 : Hid (Below V.heap.size V w2) := ((Below.refl V.heap.size V)).trans (hb2.mono ((Below.refl V.heap.size V)).size)
  have HV2 : Hid (IntsAt w2 v2 (liveL s)) := OwnInt.at hv2
  obtain ⟨a2, c2, e2, _⟩ := own_shape hv2
  clear hv2 hb2
  subst e2
  obtain ⟨⟨x0, x1, x2, x3⟩, _, _⟩ := (HX.out.heap (H2.out.block X hXl)).cells
  go_wp2_with fail
  refine (sTreeLive_any s _ _ _ _ _ _ _ (HS.out.2.1.mono H2.out) (by omega)).mono ?_
  rintro e w3 ⟨v3, rfl, hv3, hb3⟩
  have H3 : Hid (Below V.heap.size V w3) := (H2.out).trans (hb3.mono (H2.out).size)
  have HV3 : Hid (IntsAt w3 v3 (liveL s)) := OwnInt.at hv3
  have HW3 : Hid (IntsAt w3 (.slice a2 (liveL s).length c2) (liveL s)) := HV2.out.mono hb3
  obtain ⟨a3, c3, e3, _⟩ := own_shape hv3
  clear hv3 hb3
  subst e3
  clear x0 x1 x2 x3
  go_wp2_with fail
  refine (lqInts_any _ _ _ _ _ HW3.out HV3.out).mono ?_
  rw [show decide (liveL s = liveL s) = true from by simp]
  rintro e w4 ⟨rfl, hb4⟩
  have H4 : Hid (Below V.heap.size V w4) := H3.out.trans (hb4.mono H3.out.size)
  have HV4 : Hid (IntsAt w4 (.slice a2 (liveL s).length c2) (liveL s)) := HW3.out.mono hb4
  clear hb4 HV2 HV3 HW3 H2 H3
  obtain ⟨⟨x0, x1, x2, x3⟩, _, _⟩ := (HX.out.heap (H4.out.block X hXl)).cells
  go_wp2_with fail
  refine (sysWays_any s _ _ _ _ (HS.out.2.1.mono H4.out) ⟨_, _, rfl⟩ ⟨_, _, rfl⟩ ⟨_, _, rfl⟩ (by omega)).mono ?_
  rintro e w5 ⟨v5, rfl, hv5, hb5⟩
  have H5 : Hid (Below V.heap.size V w5) := (H4.out).trans (hb5.mono (H4.out).size)
  have HV5 : Hid (IntsAt w5 v5 (s.tasks.map (·.way))) := OwnInt.at hv5
  have HW5 : Hid (IntsAt w5 (.slice a2 (liveL s).length c2) (liveL s)) := HV4.out.mono hb5
  obtain ⟨a5, c5, e5, _⟩ := own_shape hv5
  clear hv5 hb5
  have hml : (s.tasks.map (·.way)).length = s.tasks.length := by simp
  rw [hml] at e5
  subst e5
  clear x0 x1 x2 x3 hml HV4
  go_wp2_with fail
  have hll : (liveL s).length ≤ s.tasks.length := plW_len _ _
  go_loopw [6] (fun q w' => ∃ k : Nat, k ≤ s.tasks.length ∧ q = .int .i64 k ∧ Below w5.heap.size w5 w') (fun q _ => s.tasks.length - (intOf q).toNat)
  case atStart => exact ⟨0, Nat.zero_le _, rfl, Below.refl _ _⟩
  case round =>
    obtain ⟨k, hk, rfl, hbr⟩ := hrel
    have HBR : Hid (Below V.heap.size V wr) := H5.out.trans (hbr.mono H5.out.size)
    have HBr := (show Hid (Below _ _ _) from hbr)
    have HLR : Hid (IntsAt wr (.slice a2 (liveL s).length c2) (liveL s)) := HW5.out.mono hbr
    by_cases hlt : k < s.tasks.length
    · have hlt' : (k : Int) < (s.tasks.length : Int) := by omega
      obtain ⟨_, _, e1, _, hcv⟩ := HV5.out.mono hbr
      injection e1 with e2 e3 e4
      subst e2 e4
      obtain ⟨b, off, rfl, hbl, y0⟩ := hcv k (by simpa using hlt)
      rw [ways_nth s hlt] at y0
      have HH : Hid (hasB (liveL s) (k : Int) = (decide ((nth Ta.z s.tasks k).way = 0) || decide ((nth Ta.z s.tasks k).way = 1))) := plW_has _ _ k hlt
      clear hcv e3 hbr
      revert y0 HH
      generalize (nth Ta.z s.tasks k).way = wy
      intro y0 HH
      by_cases h0 : wy = 0
      · have h0b : (wy == 0) = true := by simp [h0]
        have HP : Hid (hasB (liveL s) (k : Int) = true) := by unfold Hid; rw [HH.out]; simp [h0]
        clear h0 HH
        go_wp2_with fail
        go_quiet ((go_at_call 47; exact Calls.quiet_of_same (lqHas_b HP.out _ _ (HLR.out.drewn _))))
        go_wp2_with fail
        go_roundw
        case rel => exact ⟨k + 1, by omega, by go_num, below_drewN HBr.out _⟩
        case measure => simp [intOf]; omega
      · have h0b : (wy == 0) = false := by simp [h0]
        by_cases h1 : wy = 1
        · have h1b : (wy == 1) = true := by simp [h1]
          have HP : Hid (hasB (liveL s) (k : Int) = true) := by unfold Hid; rw [HH.out]; simp [h1]
          clear h0 h1 HH
          go_wp2_with fail
          go_quiet ((go_at_call 47; exact Calls.quiet_of_same (lqHas_b HP.out _ _ (HLR.out.drewn _))))
          go_wp2_with fail
          go_roundw
          case rel => exact ⟨k + 1, by omega, by go_num, below_drewN HBr.out _⟩
          case measure => simp [intOf]; omega
        · have h1b : (wy == 1) = false := by simp [h1]
          have HP : Hid (hasB (liveL s) (k : Int) = false) := by unfold Hid; rw [HH.out]; simp [h0, h1]
          clear h0 h1 HH
          go_wp2_with fail
          go_quiet ((go_at_call 47; exact Calls.quiet_of_same (lqHas_b HP.out _ _ (HLR.out.drewn _))))
          go_wp2_with fail
          go_roundw
          case rel => exact ⟨k + 1, by omega, by go_num, below_drewN HBr.out _⟩
          case measure => simp [intOf]; omega
    · have hlt' : ¬ (k : Int) < (s.tasks.length : Int) := by omega
      clear hbr
      go_wp2_with fail
      refine (lqUp_any _ (liveL s) _ HLR.out).mono ?_
      rw [show upL (liveL s) = true from plW_up _ _]
      rintro e w6 ⟨rfl, hb6⟩
      have HF : Hid (Below w.heap.size w w6) := HB.out.trans ((HBR.out.trans (hb6.mono HBR.out.size)).mono HB.out.size)
      clear hb6
      go_wp2_with fail
      go_ret
      exact ⟨rfl, HF.out⟩

end Go.Proofs.Ytnbgonmdjgapnaa
