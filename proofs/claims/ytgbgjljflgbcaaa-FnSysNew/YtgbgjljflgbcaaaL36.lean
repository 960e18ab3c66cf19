/-
  FnSysNew's walk (by mkl36.py).
-/
import Derived.Test.YtgbgjljflgbcaaaNe34
namespace Go.Proofs.Ytgbgjljflgbcaaa
open Go.RowKit
set_option linter.unusedSimpArgs false
set_option linter.unusedVariables false
set_option maxRecDepth 20000

theorem tok_new {p : Pr} (h : okB p = true) : tokB (newS p) = true := by rw [newS_yes h]; rfl
set_option maxHeartbeats 4000000 in
theorem fnSysNew_walk (a : Option Addr) (n cap : Nat) (w : World) (h : Bytes w a n) (hc : n ≤ cap) (hn : cap ≤ 9223372036854775807) :
    Calls Try.prog 3 #[.slice a n cap] w fun e w' => e = .returned (.bool true) ∧ Below w.heap.size w w' := by
  by_cases hbig : 1048576 < n
  · have hb' : (1048576 : Int) < (n : Int) := by omega
    clear h
    go_enter Try.func3, Try.ntmps3
    go_wp2_with fail
    go_ret
    exact ⟨rfl, Below.refl _ _⟩
  have hb' : ¬ (1048576 : Int) < (n : Int) := by omega
  have HBy := (show Hid (Bytes _ _ _) from h)
  clear h
  go_enter Try.func3, Try.ntmps3
  go_wp2_with fail
  refine (drawSysNew_any a n cap w HBy.out hc hn).mono ?_
  rintro e w1 ⟨pr, cv, bv, rfl, ⟨S, hPS⟩, hb1⟩
  obtain ⟨ac, cc, rfl, _⟩ := hPS.1.shape
  obtain ⟨ab, cb, rfl, _⟩ := hPS.2.shape
  have HV : Hid (∃ V, V = w1.alloc (.cells #[(.slice ac pr.cells.length cc), (.slice ab pr.bodies.length cb)] 26) ∧ PBox V w1.heap.size (.slice ac pr.cells.length cc) (.slice ab pr.bodies.length cb) ∧ PrS S V (.slice ac pr.cells.length cc) (.slice ab pr.bodies.length cb) pr ∧ Below w.heap.size w V) :=
    ⟨_, rfl, heap_alloc_new w1 _, hPS.kept (Kept.below ((Below.refl _ _).alloc (Nat.le_refl _) _)), hb1.alloc hb1.size _⟩
  clear hPS hb1 HBy
  go_wp2_with fail
  obtain ⟨V, hV, hVG, hVP, hVB⟩ := HV.out
  rw [← hV]
  clear hV HV
  have HG := (show Hid (PBox _ _ _ _) from hVG)
  have HPS := (show Hid (PrS _ _ _ _ _) from hVP)
  have HW := (show Hid (Below _ _ _) from hVB)
  clear hVG hVP hVB
  obtain ⟨p0, p1, _, _⟩ := HG.out.cells
  have pl := HG.out.lt
  go_wp2_with fail
  refine (sSysNew_any S pr _ _ V HPS.out).mono ?_
  rintro e w2 ⟨c1, t1, l1, rfl, hO1, hb2⟩
  obtain ⟨y0, yc0, y1, yc1, y3, yc3, rfl, rfl, rfl⟩ := hO1.on.shapes
  have HV : Hid (∃ V2, V2 = w2.alloc (.cells #[.slice y0 (newS pr).cells.length yc0, .slice y1 (newS pr).tasks.length yc1, .int .i64 (newS pr).clock, .slice y3 (newS pr).log.length yc3] 32) ∧ SBox V2 w2.heap.size (.slice y0 (newS pr).cells.length yc0) (.slice y1 (newS pr).tasks.length yc1) (.slice y3 (newS pr).log.length yc3) (newS pr).clock ∧ OwnS V.heap.size V2 (.slice y0 (newS pr).cells.length yc0) (.slice y1 (newS pr).tasks.length yc1) (.slice y3 (newS pr).log.length yc3) (newS pr) ∧ Below V.heap.size V V2 ∧ Below w.heap.size w V2) :=
    ⟨_, rfl, heap_alloc_new w2 _, hO1.below ((Below.refl _ _).alloc (Nat.le_refl _) _) (Nat.le_refl _), hb2.alloc hb2.size _, HW.out.trans ((hb2.alloc hb2.size _).mono HW.out.size)⟩
  have HG2 := HG.out.heap (hb2.block _ HG.out.lt)
  clear hO1 hb2 p0 p1 pl HW
  obtain ⟨p0, p1, _, _⟩ := HG2.cells
  have pl := HG2.lt
  clear HG2
  go_wp2_with fail
  clear p0 p1 pl
  obtain ⟨V2, hV, hY, hO, hVV, hVW⟩ := HV.out
  rw [← hV]
  clear hV HV
  have HY := (show Hid (SBox _ _ _ _ _ _) from hY)
  have HO1 := (show Hid (OwnS _ _ _ _ _ _) from hO)
  have HW := (show Hid (Below _ _ _) from hVW)
  replace HG : Hid (PBox V2 _ _ _) := HG.out.heap (hVV.block _ HG.out.lt)
  replace HPS : Hid (PrS S V2 _ _ _) := HPS.out.kept (Kept.below hVV)
  clear hY hO hVV hVW
  refine (sysNew_any S pr _ _ V2 HPS.out).mono ?_
  rintro e w3 ⟨c2, t2, l2, rfl, hO2, hb3⟩
  obtain ⟨x0, xc0, x1, xc1, x3, xc3, rfl, rfl, rfl⟩ := hO2.on.shapes
  have HV : Hid (∃ V3, V3 = w3.alloc (.cells #[.slice x0 (newS pr).cells.length xc0, .slice x1 (newS pr).tasks.length xc1, .int .i64 (newS pr).clock, .slice x3 (newS pr).log.length xc3] 32) ∧ SBox V3 w3.heap.size (.slice x0 (newS pr).cells.length xc0) (.slice x1 (newS pr).tasks.length xc1) (.slice x3 (newS pr).log.length xc3) (newS pr).clock ∧ OwnS V2.heap.size V3 (.slice x0 (newS pr).cells.length xc0) (.slice x1 (newS pr).tasks.length xc1) (.slice x3 (newS pr).log.length xc3) (newS pr) ∧ Below V2.heap.size V2 V3 ∧ Below w.heap.size w V3) :=
    ⟨_, rfl, heap_alloc_new w3 _, hO2.below ((Below.refl _ _).alloc (Nat.le_refl _) _) (Nat.le_refl _), hb3.alloc hb3.size _, HW.out.trans ((hb3.alloc hb3.size _).mono HW.out.size)⟩
  have HG3 := HG.out.heap (hb3.block _ HG.out.lt)
  have HY3 := HY.out.heap (hb3.block _ HY.out.lt)
  clear hO2 hb3 HW
  obtain ⟨p0, p1, _, _⟩ := HG3.cells
  have pl := HG3.lt
  obtain ⟨⟨d0, d1, d2, d3⟩, _, dl⟩ := HY3.cells
  clear HG3 HY3
  obtain ⟨V3, hV, hX, hO, hVV, hVW⟩ := HV.out
  have HVE := (show Hid (_ = _) from hV)
  clear hV HV
  have HX := (show Hid (SBox _ _ _ _ _ _) from hX)
  have HS : Hid (SyAt V3 (.slice x0 (newS pr).cells.length xc0) (.slice x1 (newS pr).tasks.length xc1) (.slice x3 (newS pr).log.length xc3) (newS pr)) := hO.on.at
  have HS2 : Hid (SyAt V3 (.slice y0 (newS pr).cells.length yc0) (.slice y1 (newS pr).tasks.length yc1) (.slice y3 (newS pr).log.length yc3) (newS pr)) := (HO1.out.on.at).mono hVV
  have HW := (show Hid (Below _ _ _) from hVW)
  replace HG : Hid (PBox V3 _ _ _) := HG.out.heap (hVV.block _ HG.out.lt)
  replace HY : Hid (SBox V3 _ _ _ _ _) := HY.out.heap (hVV.block _ HY.out.lt)
  have HP : Hid (PrAt V3 (.slice ac pr.cells.length cc) (.slice ab pr.bodies.length cb) pr) := (HPS.out.kept (Kept.below hVV)).at
  clear hX hO hVV hVW HO1 HPS
  cases hok : okB pr
  · have HOK := (show Hid (_ = _) from hok)
    clear hok
    go_wp2_with fail
    clear p0 p1 pl d0 d1 d2 d3 dl
    rw [← HVE.out]
    refine (lqSys_same (newS pr) _ _ _ _ _ _ _ _ _ _ _ _ V3 HS.out HS2.out).mono ?_
    rintro e V4 ⟨rfl, hb4⟩
    replace HG : Hid (PBox V4 _ _ _) := HG.out.heap (hb4.block _ HG.out.lt)
    replace HY : Hid (SBox V4 _ _ _ _ _) := HY.out.heap (hb4.block _ HY.out.lt)
    replace HX : Hid (SBox V4 _ _ _ _ _) := HX.out.heap (hb4.block _ HX.out.lt)
    replace HS : Hid (SyAt V4 _ _ _ _) := HS.out.mono hb4
    replace HS2 : Hid (SyAt V4 _ _ _ _) := HS2.out.mono hb4
    replace HP : Hid (PrAt V4 _ _ _) := ⟨HP.out.1.mono hb4, HP.out.2.mono hb4⟩
    replace HW : Hid (Below w.heap.size w V4) := HW.out.trans (hb4.mono HW.out.size)
    clear hb4 HVE
    obtain ⟨p0, p1, _, _⟩ := HG.out.cells
    have pl := HG.out.lt
    obtain ⟨⟨d0, d1, d2, d3⟩, _, dl⟩ := HY.out.cells
    obtain ⟨⟨f0, f1, f2, f3⟩, _, fl⟩ := HX.out.cells
    go_wp2_with fail
    refine (lqSys_same (newS pr) _ _ _ _ _ _ _ _ _ _ _ _ V4 HS.out HS2.out).mono ?_
    rintro e w5 ⟨rfl, hb5⟩
    have HF : Hid (Below w.heap.size w w5) := HW.out.trans (hb5.mono HW.out.size)
    clear hb5
    go_wp2_with fail
    go_ret
    exact ⟨rfl, HF.out⟩
  · have HOK := (show Hid (_ = _) from hok)
    clear hok
    go_wp2_with fail
    clear p0 p1 pl d0 d1 d2 d3 dl
    rw [← HVE.out]
    refine (lqSys_same (newS pr) _ _ _ _ _ _ _ _ _ _ _ _ V3 HS.out HS2.out).mono ?_
    rintro e V4 ⟨rfl, hb4⟩
    replace HG : Hid (PBox V4 _ _ _) := HG.out.heap (hb4.block _ HG.out.lt)
    replace HY : Hid (SBox V4 _ _ _ _ _) := HY.out.heap (hb4.block _ HY.out.lt)
    replace HX : Hid (SBox V4 _ _ _ _ _) := HX.out.heap (hb4.block _ HX.out.lt)
    replace HS : Hid (SyAt V4 _ _ _ _) := HS.out.mono hb4
    replace HS2 : Hid (SyAt V4 _ _ _ _) := HS2.out.mono hb4
    replace HP : Hid (PrAt V4 _ _ _) := ⟨HP.out.1.mono hb4, HP.out.2.mono hb4⟩
    replace HW : Hid (Below w.heap.size w V4) := HW.out.trans (hb4.mono HW.out.size)
    clear hb4 HVE
    obtain ⟨p0, p1, _, _⟩ := HG.out.cells
    have pl := HG.out.lt
    obtain ⟨⟨d0, d1, d2, d3⟩, _, dl⟩ := HY.out.cells
    obtain ⟨⟨f0, f1, f2, f3⟩, _, fl⟩ := HX.out.cells
    go_wp2_with fail
    refine ns_reg8 V4 w1.heap.size w3.heap.size pr (newS pr) ac ab x0 x1 x3 cc cb xc0 xc1 xc3 HG HX HP HS (sm_new HOK.out) (small_ok HOK.out) (new_ok HOK.out) (nums_new HOK.out) (readyL_new HOK.out) (heldL_new HOK.out) (tok_new HOK.out) (by have := (sm_new HOK.out).1; omega) _ _ _ _ _ _ _ _ _ _ _ _ _ _ _ _ _ _ _ _ _ _ _ _ _ _ _ _ _ _ _ _ _ _ _ _ _ _ _ _ _ _ _ _ _ _ _ _ _ _ _ _ _ _ _ _ _ _ _ _ _ _ _ _ _ _ _ _ _ _ ?_
    intro v44 v45 v46 v47 v48 v49 v50 v51 v52 v53 v54 v55 v56 v57 v58 v59 v60 v61 v62 v63 v64 v65 v66 v67 v68 v69 v70 W hbW
    have HF : Hid (Below w.heap.size w W) := HW.out.trans (hbW.mono HW.out.size)
    clear hbW
    go_wp2_with fail
    go_ret
    exact ⟨rfl, HF.out⟩

end Go.Proofs.Ytgbgjljflgbcaaa
