/-
  Nobody goes on, if that for whose sake it was begun does not wait (by mkl9.py).
-/
import Derived.Test.YtnbgonmdjgapnaaBase36
import Derived.Test.YtnbgonmdjgapnaaA2
import Derived.Test.YtnbgonmdjgapnaaA4b
namespace Go.Proofs.Ytnbgonmdjgapnaa
open Go.RowKit
set_option linter.unusedSimpArgs false
set_option linter.unusedVariables false
set_option maxRecDepth 20000

def gB (s : Sy) (x : Int) : Bool := !upB s (nth Ta.z s.tasks x.toNat)
theorem tok_live (s : Sy) : tokB s = (liveL s).all (gB s) := by
  unfold tokB liveL plW gB
  rw [Bool.eq_iff_iff, List.all_eq_true, List.all_eq_true]
  constructor
  · intro h x hx
    obtain ⟨i, hi, rfl⟩ := List.mem_map.1 hx
    have h1 := List.mem_filter.1 hi
    have h2 := h i h1.1
    have h3 : lvB (nth Ta.z s.tasks i) = true := h1.2
    rw [h3, Bool.true_and] at h2
    simpa using h2
  · intro h i hi
    cases e : lvB (nth Ta.z s.tasks i)
    · simp
    · have h1 := h (i : Int) (List.mem_map.2 ⟨i, List.mem_filter.2 ⟨hi, e⟩, rfl⟩)
      simpa using h1
theorem live_atx (s : Sy) {k : Nat} (hk : k < (liveL s).length) : ∃ i : Nat, nth 0 (liveL s) k = (i : Int) ∧ i < s.tasks.length := by
  have h := nth_mem 0 (liveL s) k hk
  unfold liveL plW at h
  obtain ⟨i, hi, e⟩ := List.mem_map.1 h
  exact ⟨i, e.symm, List.mem_range.1 (List.mem_filter.1 hi).1⟩
theorem all_succ (s : Sy) {k : Nat} (hk : k < (liveL s).length) : ((liveL s).take (k + 1)).all (gB s) = (((liveL s).take k).all (gB s) && gB s (nth 0 (liveL s) k)) := by
  rw [take_nth 0 _ k hk, List.all_append]; simp
set_option maxHeartbeats 4000000 in
theorem fnTreeOk_walk (a : Option Addr) (n cap : Nat) (w : World) (h : Bytes w a n) (hc : n ≤ cap) (hn : cap ≤ 9223372036854775807) :
    Calls Try.prog 15 #[.slice a n cap] w fun e w' => e = .returned (.bool true) ∧ Below w.heap.size w w' := by
  by_cases hbig : 1048576 < n
  · have hb' : (1048576 : Int) < (n : Int) := by omega
    clear h
    go_enter Try.func15, Try.ntmps15
    go_wp2_with fail
    go_ret
    exact ⟨rfl, Below.refl _ _⟩
  have hb' : ¬ (1048576 : Int) < (n : Int) := by omega
  have HY := (show Hid (Bytes _ _ _) from h)
  clear h
  go_enter Try.func15, Try.ntmps15
  go_wp2_with fail
  refine (drawTreeOk_any a n cap w HY.out hc hn).mono ?_
  rintro e w1 ⟨pr, s, c, t, l, rfl, hS, hO, hb1⟩
  obtain ⟨xa, xc, ya, yc, za, zc, rfl, rfl, rfl⟩ := hS.shapes
  have hc3 := hO.cs
  have hn7 := hO.n
  have HSV : Hid (SyAt (w1.alloc (.cells #[.slice xa s.cells.length xc, .slice ya s.tasks.length yc, .int .i64 s.clock, .slice za s.log.length zc] 32)) (.slice xa s.cells.length xc) (.slice ya s.tasks.length yc) (.slice za s.log.length zc) s ∧ SBox (w1.alloc (.cells #[.slice xa s.cells.length xc, .slice ya s.tasks.length yc, .int .i64 s.clock, .slice za s.log.length zc] 32)) w1.heap.size (.slice xa s.cells.length xc) (.slice ya s.tasks.length yc) (.slice za s.log.length zc) s.clock ∧ Below w.heap.size w (w1.alloc (.cells #[.slice xa s.cells.length xc, .slice ya s.tasks.length yc, .int .i64 s.clock, .slice za s.log.length zc] 32))) :=
    ⟨hS.at.mono ((Below.refl _ _).alloc (Nat.le_refl _) _), heap_alloc_new w1 _, hb1.alloc hb1.size _⟩
  clear hS hO hb1 HY
  go_wp2_with fail
  revert HSV
  generalize (w1.alloc (.cells #[.slice xa s.cells.length xc, .slice ya s.tasks.length yc, .int .i64 s.clock, .slice za s.log.length zc] 32)) = V
  generalize w1.heap.size = X
  intro HSV
  have HS := (show Hid (SyAt _ _ _ _ _) from HSV.out.1)
  have HX := (show Hid (SBox _ _ _ _ _ _) from HSV.out.2.1)
  have HB := (show Hid (Below _ _ _) from HSV.out.2.2)
  clear HSV
  have hXl := HX.out.lt
  refine (treeOk_any s _ _ _ _ _ _ _ HS.out.2.1).mono ?_
  rintro e w2 ⟨rfl, hb2⟩
  have H2 : Hid (Below V.heap.size V w2) := hb2
  clear hb2
  obtain ⟨⟨x0, x1, x2, x3⟩, _, _⟩ := (HX.out.heap (H2.out.block X hXl)).cells
  go_wp2_with fail
  refine (treeLive_any s _ _ _ _ _ _ _ (HS.out.2.1.mono H2.out) (by omega)).mono ?_
  rintro e w3 ⟨v3, rfl, hv3, hb3⟩
  have H3 : Hid (Below V.heap.size V w3) := (H2.out).trans (hb3.mono (H2.out).size)
  have HV3 : Hid (IntsAt w3 v3 (liveL s)) := OwnInt.at hv3
  obtain ⟨a3, c3, e3, _⟩ := own_shape hv3
  clear hv3 hb3
  subst e3
  clear x0 x1 x2 x3
  have hll : (liveL s).length ≤ s.tasks.length := plW_len _ _
  go_wp2_with fail
  go_loopw [6, 7] (fun o q w' => ∃ k : Nat, k ≤ (liveL s).length ∧ q = .int .i64 k ∧ o = .bool (((liveL s).take k).all (gB s)) ∧ Below w3.heap.size w3 w') (fun _ q _ => (liveL s).length - (intOf q).toNat)
  case atStart => exact ⟨0, Nat.zero_le _, rfl, by simp, Below.refl _ _⟩
  case round =>
    obtain ⟨k, hk, rfl, rfl, hbr⟩ := hrel
    have HBR : Hid (Below V.heap.size V wr) := H3.out.trans (hbr.mono H3.out.size)
    have HBr := (show Hid (Below _ _ _) from hbr)
    obtain ⟨⟨x0, x1, x2, x3⟩, _, _⟩ := (HX.out.heap (HBR.out.block X hXl)).cells
    have HNX : Hid (∀ hlt : k < (liveL s).length, ((liveL s).take (k + 1)).all (gB s) = (((liveL s).take k).all (gB s) && gB s (nth 0 (liveL s) k))) := fun hlt => all_succ s hlt
    have HEN : Hid (k = (liveL s).length → ((liveL s).take k).all (gB s) = tokB s) := fun e => by rw [e, List.take_length, tok_live]
    revert HNX HEN
    generalize ((liveL s).take k).all (gB s) = A
    intro HNX HEN
    by_cases hlt : k < (liveL s).length
    · have hlt' : (k : Int) < ((liveL s).length : Int) := by omega
      obtain ⟨i, hi, hin⟩ := live_atx s hlt
      obtain ⟨_, _, e1, _, hcv⟩ := HV3.out.mono hbr
      injection e1 with e2 e3 e4
      subst e2 e4
      obtain ⟨b, off, rfl, hbl, y0⟩ := hcv k hlt
      have HN2 := HNX.out hlt
      rw [hi] at y0 HN2
      have HG : Hid (gB s (i : Int) = !(plB (nth Ta.z s.tasks i).up s.tasks.length && !decide ((nth Ta.z s.tasks (nth Ta.z s.tasks i).up.toNat).way = 1))) := by unfold Hid gB upB; simp
      have HT := HS.out.2.1.mono HBR.out
      obtain ⟨_, _, e1', _, hcc⟩ := HT
      injection e1' with e2' e3' e4'
      subst e2' e4'
      obtain ⟨b2, off2, v3, v8, v9, v10, rfl, hb2, c0, c1, c2, c3, c4, c5, c6, c7, c8, c9, c10, c11, c12, h3, h8, h9, h10⟩ := hcc i hin
      have HCC := (show Hid (∀ j, _) from hcc)
      have HN2 := (show Hid (_ = _) from HN2)
      have hin' : (i : Int) < (s.tasks.length : Int) := by omega
      clear hcv hcc e3 e3' hbr hi h3 h8 h9 h10 c0 c1 c3 c4 c5 c6 c7 c8 c9 c10 c11 c12 HNX
      revert c2 HG
      generalize (nth Ta.z s.tasks i).up = up
      intro HG c2
      go_wp2_with fail
      go_quiet (fail)
      by_cases hu0 : 0 ≤ up
      case neg =>
        have HP : Hid (((liveL s).take (k + 1)).all (gB s) = A) := by
          unfold Hid
          rw [HN2.out, HG.out]
          have : plB up s.tasks.length = false := by simp [plB, hu0]
          rw [this]; simp
        go_wp2_with fail
        go_roundw
        case rel => exact ⟨k + 1, by omega, by go_num, by rw [HP.out], below_drewN HBr.out _⟩
        case measure => simp [intOf]; omega
      by_cases hu1 : up < (s.tasks.length : Int)
      case neg =>
        have HP : Hid (((liveL s).take (k + 1)).all (gB s) = A) := by
          unfold Hid
          rw [HN2.out, HG.out]
          have : plB up s.tasks.length = false := by simp [plB, hu1]
          rw [this]; simp
        go_wp2_with fail
        go_roundw
        case rel => exact ⟨k + 1, by omega, by go_num, by rw [HP.out], below_drewN HBr.out _⟩
        case measure => simp [intOf]; omega
      obtain ⟨j, rfl⟩ : ∃ j : Nat, up = (j : Int) := ⟨up.toNat, by omega⟩
      have hpl : plB (j : Int) s.tasks.length = true := by simp [plB]; omega
      obtain ⟨b3, off3, u3, u8, u9, u10, e5, hb3, d0, d1, d2, d3, d4, d5, d6, d7, d8, d9, d10, d11, d12, k3, k8, k9, k10⟩ := HCC.out j (by omega)
      injection e5 with e5
      injection e5 with e5 e6
      subst e5 e6
      have hG := HG.out
      rw [hpl, Int.toNat_natCast] at hG
      have HG2 := (show Hid (_ = _) from hG)
      clear hpl hG HG k3 k8 k9 k10 d0 d1 d2 d3 d5 d6 d7 d8 d9 d10 d11 d12
      revert d4 HG2
      generalize (nth Ta.z s.tasks j).way = wy
      intro d4 HG2
      by_cases hw : wy = 1
      · subst hw
        have HP : Hid (((liveL s).take (k + 1)).all (gB s) = A) := by unfold Hid; rw [HN2.out, HG2.out]; simp
        go_wp2_with fail
        go_roundw
        case rel => exact ⟨k + 1, by omega, by go_num, by rw [HP.out], below_drewN HBr.out _⟩
        case measure => simp [intOf]; omega
      · have hwb : (wy == 1) = false := by simp [hw]
        have HP : Hid (((liveL s).take (k + 1)).all (gB s) = false) := by unfold Hid; rw [HN2.out, HG2.out]; simp [hw]
        go_wp2_with fail
        go_roundw
        case rel => exact ⟨k + 1, by omega, by go_num, by rw [HP.out], below_drewN HBr.out _⟩
        case measure => simp [intOf]; omega
    · have hlt' : ¬ (k : Int) < ((liveL s).length : Int) := by omega
      have HE := (show Hid (_ = _) from HEN.out (by omega))
      clear hbr HNX HEN
      go_wp2_with fail
      refine (sTreeOk_any s _ _ _ _ _ _ _ (HS.out.2.1.mono HBR.out) (by omega)).mono ?_
      rintro e w6 ⟨rfl, hb6⟩
      rw [HE.out]
      have HF : Hid (Below w.heap.size w w6) := HB.out.trans ((HBR.out.trans (hb6.mono HBR.out.size)).mono HB.out.size)
      clear hb6
      go_wp2_with fail
      go_ret
      exact ⟨rfl, HF.out⟩

end Go.Proofs.Ytnbgonmdjgapnaa
