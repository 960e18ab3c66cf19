/-
  Who is under who is under another one is under that (by mkl9.py).
-/
import Derived.Test.YtnbgonmdjgapnaaL14
namespace Go.Proofs.Ytnbgonmdjgapnaa
open Go.RowKit
set_option linter.unusedSimpArgs false
set_option linter.unusedVariables false
set_option maxRecDepth 20000

set_option maxHeartbeats 4000000 in
theorem fnTreeUnderOn_walk (a : Option Addr) (n cap : Nat) (a2 : Option Addr) (m capm : Nat) (w : World) (h : Bytes w a n) (hc : n ≤ cap) (hn : cap ≤ 9223372036854775807) (hcm : m ≤ capm) (hnm : capm ≤ 9223372036854775807) :
    Calls Try.prog 13 #[.slice a n cap, .slice a2 m capm] w fun e w' => e = .returned (.bool true) ∧ Below w.heap.size w w' := by
  by_cases hbig : 1048576 < n
  · have hb' : (1048576 : Int) < (n : Int) := by omega
    clear h
    go_enter Try.func13, Try.ntmps13
    go_wp2_with fail
    go_ret
    exact ⟨rfl, Below.refl _ _⟩
  have hb' : ¬ (1048576 : Int) < (n : Int) := by omega
  by_cases hbig2 : 1048576 < m
  · have hb2' : (1048576 : Int) < (m : Int) := by omega
    clear h
    go_enter Try.func13, Try.ntmps13
    go_wp2_with fail
    go_ret
    exact ⟨rfl, Below.refl _ _⟩
  have hb2' : ¬ (1048576 : Int) < (m : Int) := by omega
  have HY := (show Hid (Bytes _ _ _) from h)
  clear h
  go_enter Try.func13, Try.ntmps13
  go_wp2_with fail
  refine (drawTreeUnder_any a n cap w HY.out hc hn).mono ?_
  rintro e w1 ⟨pr, s, c, t, l, av, bv, rfl, hS, hO, hb1⟩
  obtain ⟨xa, xc, ya, yc, za, zc, rfl, rfl, rfl⟩ := hS.shapes
  have hc3 := hO.cs
  have hn7 := hO.n
  have HSV : Hid (SyAt (w1.alloc (.cells #[.slice xa s.cells.length xc, .slice ya s.tasks.length yc, .int .i64 s.clock, .slice za s.log.length zc] 32)) (.slice xa s.cells.length xc) (.slice ya s.tasks.length yc) (.slice za s.log.length zc) s ∧ SBox (w1.alloc (.cells #[.slice xa s.cells.length xc, .slice ya s.tasks.length yc, .int .i64 s.clock, .slice za s.log.length zc] 32)) w1.heap.size (.slice xa s.cells.length xc) (.slice ya s.tasks.length yc) (.slice za s.log.length zc) s.clock ∧ Below w.heap.size w (w1.alloc (.cells #[.slice xa s.cells.length xc, .slice ya s.tasks.length yc, .int .i64 s.clock, .slice za s.log.length zc] 32))) :=
    ⟨hS.at.mono ((Below.refl _ _).alloc (Nat.le_refl _) _), heap_alloc_new w1 _, hb1.alloc hb1.size _⟩
  clear hS hO hb1 HY
  go_wp2_with fail
  revert HSV
  generalize (w1.alloc (.cells #[.slice xa s.cells.length xc, .slice ya s.tasks.length yc, .int .i64 s.clock, .slice za s.log.length zc] 32)) = V
  generalize w1.heap.size = X
  intro HSV
  have HS := (show Hid (SyAt _ _ _ _ _) from HSV.out.1)
  have HX := (show Hid (SBox _ _ _ _ _ _) from HSV.out.2.1)
  have HB := (show Hid (Below _ _ _) from HSV.out.2.2)
  clear HSV
  have hXl := HX.out.lt
  obtain ⟨⟨x0, x1, x2, x3⟩, _, _⟩ := HX.out.cells
  have hn1 : (0 : Int) < (s.tasks.length : Int) := by omega
  go_wp2_with fail
  first
    | generalize ((m : Int) % (s.tasks.length : Int)) = cv
    | generalize ((m : Int).tmod (s.tasks.length : Int)) = cv
  obtain ⟨q, hq⟩ : ∃ q, undB s av bv = q := ⟨_, rfl⟩
  obtain ⟨q2, hq2⟩ : ∃ q, undB s bv cv = q := ⟨_, rfl⟩
  have HQ := (show Hid (_ = _) from hq)
  have HQ2 := (show Hid (_ = _) from hq2)
  have HN : Hid (undB s av av = false) := und_not (Int.le_refl _)
  clear hq hq2
  refine (treeUnder_b HQ.out _ _ _ _ _ _ _ (HS.out.2.1.mono (Below.refl V.heap.size V))).mono ?_
  rintro e w2 ⟨rfl, hb2⟩
  have H2 : Hid (Below V.heap.size V w2) := ((Below.refl V.heap.size V)).trans (hb2.mono ((Below.refl V.heap.size V)).size)
  clear hb2
  (try clear x0 x1 x2 x3)
  obtain ⟨⟨x0, x1, x2, x3⟩, _, _⟩ := (HX.out.heap (H2.out.block X hXl)).cells
  go_wp2_with fail
  refine (sTreeUnder_b HQ.out _ _ _ _ _ _ _ (HS.out.2.1.mono H2.out) (by omega)).mono ?_
  rintro e w3 ⟨rfl, hb3⟩
  have H3 : Hid (Below V.heap.size V w3) := (H2.out).trans (hb3.mono (H2.out).size)
  clear hb3
  (try clear x0 x1 x2 x3)
  obtain ⟨⟨x0, x1, x2, x3⟩, _, _⟩ := (HX.out.heap (H3.out.block X hXl)).cells
  cases q
  case false =>
    go_wp2_with fail
    refine (treeUnder_b HN.out _ _ _ _ _ _ _ (HS.out.2.1.mono H3.out)).mono ?_
    rintro e w4 ⟨rfl, hb4⟩
    have H4 : Hid (Below V.heap.size V w4) := (H3.out).trans (hb4.mono (H3.out).size)
    clear hb4
    (try clear x0 x1 x2 x3)
    obtain ⟨⟨x0, x1, x2, x3⟩, _, _⟩ := (HX.out.heap (H4.out.block X hXl)).cells
    have HF : Hid (Below w.heap.size w w4) := HB.out.trans (H4.out.mono HB.out.size)
    go_wp2_with fail
    go_ret
    exact ⟨rfl, HF.out⟩
  case true =>
  go_wp2_with fail
  refine (treeUnder_b HQ2.out _ _ _ _ _ _ _ (HS.out.2.1.mono H3.out)).mono ?_
  rintro e w5 ⟨rfl, hb5⟩
  have H5 : Hid (Below V.heap.size V w5) := (H3.out).trans (hb5.mono (H3.out).size)
  clear hb5
  (try clear x0 x1 x2 x3)
  obtain ⟨⟨x0, x1, x2, x3⟩, _, _⟩ := (HX.out.heap (H5.out.block X hXl)).cells
  cases q2
  case false =>
    go_wp2_with fail
    refine (treeUnder_b HN.out _ _ _ _ _ _ _ (HS.out.2.1.mono H5.out)).mono ?_
    rintro e w6 ⟨rfl, hb6⟩
    have H6 : Hid (Below V.heap.size V w6) := (H5.out).trans (hb6.mono (H5.out).size)
    clear hb6
    (try clear x0 x1 x2 x3)
    obtain ⟨⟨x0, x1, x2, x3⟩, _, _⟩ := (HX.out.heap (H6.out.block X hXl)).cells
    have HF : Hid (Below w.heap.size w w6) := HB.out.trans (H6.out.mono HB.out.size)
    go_wp2_with fail
    go_ret
    exact ⟨rfl, HF.out⟩
  case true =>
  have HQ3 : Hid (undB s av cv = true) := und_trans s _ av bv cv (Nat.le_refl _) HQ.out HQ2.out
  go_wp2_with fail
  refine (treeUnder_b HQ3.out _ _ _ _ _ _ _ (HS.out.2.1.mono H5.out)).mono ?_
  rintro e w7 ⟨rfl, hb7⟩
  have H7 : Hid (Below V.heap.size V w7) := (H5.out).trans (hb7.mono (H5.out).size)
  clear hb7
  (try clear x0 x1 x2 x3)
  obtain ⟨⟨x0, x1, x2, x3⟩, _, _⟩ := (HX.out.heap (H7.out.block X hXl)).cells
  go_wp2_with fail
  refine (treeUnder_b HN.out _ _ _ _ _ _ _ (HS.out.2.1.mono H7.out)).mono ?_
  rintro e w8 ⟨rfl, hb8⟩
  have H8 : Hid (Below V.heap.size V w8) := (H7.out).trans (hb8.mono (H7.out).size)
  clear hb8
  (try clear x0 x1 x2 x3)
  obtain ⟨⟨x0, x1, x2, x3⟩, _, _⟩ := (HX.out.heap (H8.out.block X hXl)).cells
  have HF : Hid (Below w.heap.size w w8) := HB.out.trans (H8.out.mono HB.out.size)
  go_wp2_with fail
  go_ret
  exact ⟨rfl, HF.out⟩

end Go.Proofs.Ytnbgonmdjgapnaa
