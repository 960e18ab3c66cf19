import Derived.Test.YtgbgjljflgbcaaaSo43
import Derived.Test.YtgbgjljflgbcaaaSo48
import Derived.Test.YtgbgjljflgbcaaaSo49
namespace Go.Proofs.Ytgbgjljflgbcaaa
set_option maxHeartbeats 8000000
open Go.RowKit
set_option linter.unusedSimpArgs false
set_option linter.unusedVariables false
set_option maxRecDepth 20000
theorem so_parts {p : Pr} {s : Sy} (h : mSoB p s = true) : s.cells.length = p.cells.length /\ s.tasks.length <= 7 /\ (∀ i, i < s.tasks.length -> upfB s i = true) /\ ∀ k, k < s.cells.length -> 0 <= (nth Ce.z s.cells k).time /\ (nth Ce.z s.cells k).time <= s.clock := by
 unfold mSoB at h
 simp only [Bool.and_eq_true, decide_eq_true_eq] at h
 obtain ⟨⟨⟨⟨⟨⟨h1, h2⟩, h3⟩, h4⟩, h5⟩, h6⟩, h7⟩ := h
 refine ⟨h2, ?_, fun i hi => ?_, fun k hk => ?_⟩
 . have := (inB_iff _ _ _).1 h3; omega
 . have h8 := List.all_eq_true.1 h5 i (by simpa using hi)
   unfold mTkB at h8
   simp only [Bool.and_eq_true] at h8
   exact h8.2.1.2
 . unfold mCesB at h6
   have h8 := List.all_eq_true.1 h6 k (by simpa using hk)
   unfold mCeB at h8
   simp only [Bool.and_eq_true] at h8
   have := (inB_iff _ _ _).1 h8.1.1.2
   exact this
theorem so_tok {p : Pr} {s : Sy} (h : mSoB p s = true) : tokB s = true := by
 refine tokB_yes fun i hi => ?_
 have hu := (so_parts h).2.2.1 i hi
 unfold upfB tkN at hu
 by_cases h0 : i = 0
 . rw [if_pos h0] at hu
   have e : (nth Ta.z s.tasks i).up = -1 := by simpa using hu
   unfold upB
   rw [e]
   have : plB (-1) s.tasks.length = false := by simp [plB]
   rw [this]; simp
 . rw [if_neg h0] at hu
   simp only [Bool.and_eq_true, Bool.or_eq_true, Bool.not_eq_true', decide_eq_true_eq] at hu
   rcases hu.2 with h1 | h1
   . have : lvB (nth Ta.z s.tasks i) = false := h1
     rw [this]; rfl
   . unfold upB
     rw [h1]; simp
theorem fnSysOk_walk (a : Option Addr) (n cap : Nat) (w : World) (h : Bytes w a n) (hc : n <= cap) (hn : cap <= 9223372036854775807) :
   Calls Try.prog 4 #[.slice a n cap] w fun e w' => e = .returned (.bool true) /\ Below w.heap.size w w' := by
 by_cases hbig : 1048576 < n
 . have hb' : (1048576 : Int) < (n : Int) := by omega
   clear h
   go_enter Try.func4, Try.ntmps4
   go_wp2_with fail
   go_ret
   exact ⟨rfl, Below.refl _ _⟩
 have hb' : ¬ (1048576 : Int) < (n : Int) := by omega
 have HB := (show Hid (Bytes _ _ _) from h)
 clear h
 go_enter Try.func4, Try.ntmps4
 go_wp2_with fail
 refine (drawSysOk_any a n cap w HB.out hc hn).mono ?_
 rintro e w1 ⟨pr, s, cv, bv, c, t, l, rfl, hP, hS, hok, hsm, hb1⟩
 obtain ⟨ac, cc, rfl, _⟩ := hP.1.shape
 obtain ⟨ab, cb, rfl, _⟩ := hP.2.shape
 obtain ⟨xa, xc, ya, yc, za, zc, rfl, rfl, rfl⟩ := hS.shapes
 have HSM := (show Hid (SmSy _) from hsm)
 have HSP : Hid (SmallP pr) := small_ok hok
 have HV : Hid (∃ V, V = ((w1.alloc (.cells #[.slice ac pr.cells.length cc, .slice ab pr.bodies.length cb] 26)).alloc (.cells #[.slice xa s.cells.length xc, .slice ya s.tasks.length yc, .int .i64 s.clock, .slice za s.log.length zc] 32)) /\ PBox V w1.heap.size (.slice ac pr.cells.length cc) (.slice ab pr.bodies.length cb) /\ SBox V (w1.heap.size + 1) (.slice xa s.cells.length xc) (.slice ya s.tasks.length yc) (.slice za s.log.length zc) s.clock /\ Below w1.heap.size w1 V /\ Below w.heap.size w V) := by
   have hb : Below w1.heap.size w1 ((w1.alloc (.cells #[.slice ac pr.cells.length cc, .slice ab pr.bodies.length cb] 26)).alloc (.cells #[.slice xa s.cells.length xc, .slice ya s.tasks.length yc, .int .i64 s.clock, .slice za s.log.length zc] 32)) := ((Below.refl _ _).alloc (Nat.le_refl _) _).alloc (by simp) _
   refine ⟨_, rfl, PBox.alloc (heap_alloc_new w1 _) _, ?_, hb, hb1.trans (hb.mono hb1.size)⟩
   simpa [SBox] using heap_alloc_new (w1.alloc (.cells #[.slice ac pr.cells.length cc, .slice ab pr.bodies.length cb] 26)) (.cells #[.slice xa s.cells.length xc, .slice ya s.tasks.length yc, .int .i64 s.clock, .slice za s.log.length zc] 32)
 have HP := (show Hid (PrAt _ _ _ _) from hP)
 have HS := (show Hid (SyAt _ _ _ _ _) from hS)
 clear hP hS hsm hok HB hb1
 go_wp2_with fail
 obtain ⟨V, hV, hVG, hVY, hVb, hVB⟩ := HV.out
 rw [<- hV]
 clear hV HV
 have HG := (show Hid (PBox _ _ _ _) from hVG)
 have HY := (show Hid (SBox _ _ _ _ _ _) from hVY)
 have HB0 := (show Hid (Below _ _ _) from hVB)
 have HPV : Hid (PrAt V (.slice ac pr.cells.length cc) (.slice ab pr.bodies.length cb) pr) := ⟨HP.out.1.mono hVb, HP.out.2.mono hVb⟩
 have HSV : Hid (SyAt V (.slice xa s.cells.length xc) (.slice ya s.tasks.length yc) (.slice za s.log.length zc) s) := HS.out.mono hVb
 clear hVG hVY hVb hVB HP HS
 obtain ⟨p0, p1, _, _⟩ := HG.out.cells
 obtain ⟨⟨y0, y1, y2, y3⟩, _, _⟩ := HY.out.cells
 have pl := HG.out.lt
 have yl := HY.out.lt
 go_wp2_with fail
 refine (sysOk_c pr ac ab cc cb s xa ya za xc yc zc V HPV.out HSV.out HSM.out HSP.out).mono ?_
 rintro e w2 ⟨rfl, hb2⟩
 have H2 : Hid (Below V.heap.size V w2) := hb2
 clear hb2 p0 p1 y0 y1 y2 y3 pl yl
 obtain ⟨p0, p1, _, _⟩ := (HG.out.heap (H2.out.block _ HG.out.lt)).cells
 obtain ⟨⟨y0, y1, y2, y3⟩, _, _⟩ := (HY.out.heap (H2.out.block _ HY.out.lt)).cells
 have pl : w1.heap.size < w2.heap.size := (HG.out.heap (H2.out.block _ HG.out.lt)).lt
 have yl : w1.heap.size + 1 < w2.heap.size := (HY.out.heap (H2.out.block _ HY.out.lt)).lt
 cases hm : mSoB pr s
 . go_wp2_with fail
   refine (sSysOk_any pr ac ab cc cb s xa ya za xc yc zc w2 ⟨HPV.out.1.mono H2.out, HPV.out.2.mono H2.out⟩ (HSV.out.mono H2.out) HSM.out HSP.out).mono ?_
   rw [hm]
   rintro e w3 ⟨rfl, hb3⟩
   have H3 : Hid (Below V.heap.size V w3) := H2.out.trans (hb3.mono H2.out.size)
   clear hb3 p0 p1 y0 y1 y2 y3 pl yl
   obtain ⟨p0, p1, _, _⟩ := (HG.out.heap (H3.out.block _ HG.out.lt)).cells
   obtain ⟨⟨y0, y1, y2, y3⟩, _, _⟩ := (HY.out.heap (H3.out.block _ HY.out.lt)).cells
   have pl : w1.heap.size < w3.heap.size := (HG.out.heap (H3.out.block _ HG.out.lt)).lt
   have yl : w1.heap.size + 1 < w3.heap.size := (HY.out.heap (H3.out.block _ HY.out.lt)).lt
   go_wp2_with fail
   refine (sSysOk_any pr ac ab cc cb s xa ya za xc yc zc w3 ⟨HPV.out.1.mono H3.out, HPV.out.2.mono H3.out⟩ (HSV.out.mono H3.out) HSM.out HSP.out).mono ?_
   rw [hm]
   rintro e w4 ⟨rfl, hb4⟩
   have HF : Hid (Below w.heap.size w w4) := HB0.out.trans ((H3.out.trans (hb4.mono H3.out.size)).mono HB0.out.size)
   clear hb4 hm
   go_wp2_with fail
   go_ret
   exact ⟨rfl, HF.out⟩
 go_wp2_with fail
 refine (sSysOk_any pr ac ab cc cb s xa ya za xc yc zc w2 ⟨HPV.out.1.mono H2.out, HPV.out.2.mono H2.out⟩ (HSV.out.mono H2.out) HSM.out HSP.out).mono ?_
 rw [hm]
 rintro e w3 ⟨rfl, hb3⟩
 have H3 : Hid (Below V.heap.size V w3) := H2.out.trans (hb3.mono H2.out.size)
 obtain ⟨hceq, hn7, _, htm⟩ := so_parts hm
 have HTM := (show Hid (∀ k, k < s.cells.length -> _) from htm)
 have HTK := (show Hid (tokB s = true) from so_tok hm)
 have hceq' : ((s.cells.length : Int) == (pr.cells.length : Int)) = true := by rw [hceq]; simp
 have HCE := (show Hid (_ = _) from hceq')
 have hn7' : ((s.tasks.length : Nat) : Int) <= 7 := by omega
 clear hb3 p0 p1 y0 y1 y2 y3 pl yl hm htm hceq hceq'
 go_wp2_with fail
 go_loopw [6] (fun q w' => ∃ k : Nat, k <= s.cells.length /\ q = .int .i64 k /\ Below w3.heap.size w3 w') (fun q _ => s.cells.length - (intOf q).toNat)
 case atStart => exact ⟨0, Nat.zero_le _, rfl, Below.refl _ _⟩
 case round =>
   obtain ⟨k, hk, rfl, hbr⟩ := hrel
   have HBr := (show Hid (Below _ _ _) from hbr)
   have HR : Hid (Below V.heap.size V wr) := H3.out.trans (hbr.mono H3.out.size)
   obtain ⟨p0, p1, _, _⟩ := (HG.out.heap (HR.out.block _ HG.out.lt)).cells
   obtain ⟨⟨y0, y1, y2, y3⟩, _, _⟩ := (HY.out.heap (HR.out.block _ HY.out.lt)).cells
   have pl : w1.heap.size < wr.heap.size := (HG.out.heap (HR.out.block _ HG.out.lt)).lt
   have yl : w1.heap.size + 1 < wr.heap.size := (HY.out.heap (HR.out.block _ HY.out.lt)).lt
   clear hbr
   by_cases hlt : k < s.cells.length
   . have hlt' : (k : Int) < (s.cells.length : Int) := by omega
     obtain ⟨_, _, e1', _, hcc⟩ := HSV.out.1.mono HR.out
     injection e1' with e2' e3' e4'
     subst e2' e4'
     obtain ⟨b2, off2, rfl, hbl2, z0, z1, z2⟩ := hcc k hlt
     obtain ⟨t1, t2⟩ := HTM.out k hlt
     have d1 : ¬ s.clock < (nth Ce.z s.cells k).time := by omega
     have d2 : ¬ (nth Ce.z s.cells k).time < 0 := by omega
     have d3 : decide (s.clock < (nth Ce.z s.cells k).time) = false := decide_eq_false d1
     have d4 : decide ((nth Ce.z s.cells k).time < 0) = false := decide_eq_false d2
     clear hcc e3' t1 t2
     go_wp2_with fail
     go_quiet (fail)
     go_wp2_with fail
     go_roundw
     case rel => exact ⟨k + 1, by omega, by go_num, below_drewN HBr.out _⟩
     case measure => simp [intOf]; omega
   . have hlt' : ¬ (k : Int) < (s.cells.length : Int) := by omega
     go_wp2_with fail
     refine (treeOk_any s xa ya za xc yc zc wr (HSV.out.2.1.mono HR.out)).mono ?_
     rw [HTK.out]
     rintro e w5 ⟨rfl, hb5⟩
     have H5 : Hid (Below V.heap.size V w5) := HR.out.trans (hb5.mono HR.out.size)
     have HF : Hid (Below w.heap.size w w5) := HB0.out.trans (H5.out.mono HB0.out.size)
     have hce := HCE.out
     clear hb5 p0 p1 y0 y1 y2 y3 pl yl
     obtain ⟨p0, p1, _, _⟩ := (HG.out.heap (H5.out.block _ HG.out.lt)).cells
     obtain ⟨⟨y0, y1, y2, y3⟩, _, _⟩ := (HY.out.heap (H5.out.block _ HY.out.lt)).cells
     have pl : w1.heap.size < w5.heap.size := (HG.out.heap (H5.out.block _ HG.out.lt)).lt
     have yl : w1.heap.size + 1 < w5.heap.size := (HY.out.heap (H5.out.block _ HY.out.lt)).lt
     go_wp2_with fail
     go_ret
     exact ⟨rfl, HF.out⟩
end Go.Proofs.Ytgbgjljflgbcaaa
