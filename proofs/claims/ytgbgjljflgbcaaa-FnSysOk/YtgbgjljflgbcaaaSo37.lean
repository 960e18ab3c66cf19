import Derived.Test.YtgbgjljflgbcaaaSo32
import Derived.Test.YtgbgjljflgbcaaaSo33
import Derived.Test.YtgbgjljflgbcaaaSo34
import Derived.Test.YtgbgjljflgbcaaaSo35
import Derived.Test.YtgbgjljflgbcaaaSo36
import Derived.Test.YtgbgjljflgbcaaaSo06
import Derived.Handy
import Derived.Test.YtgbgjljflgbcaaaSo01
import Derived.Test.YtgbgjljflgbcaaaSo31
import Derived.Test.YtgbgjljflgbcaaaSo27
import Derived.Test.YtgbgjljflgbcaaaSo14
import Derived.Deep.RegionLaw
namespace Go.Proofs.Ytgbgjljflgbcaaa
set_option maxHeartbeats 8000000
open Go.RowKit
set_option linter.unusedSimpArgs false
set_option linter.unusedVariables false
set_option maxRecDepth 20000
theorem mNumB_parts {p : Pr} {t : Ta} (h : mNumB p t = true) : ∃ bn pn : Nat, t.body = (bn : Int) /\ bn < p.bodies.length /\ t.pc = (pn : Int) /\ pn <= (nth [] p.bodies bn).length /\ inB t.way 0 4 = true /\ inB t.stage 0 5 = true := by
 unfold mNumB at h
 simp only [Bool.and_eq_true] at h
 obtain ⟨⟨⟨h1, h2⟩, h3⟩, h4⟩ := h
 have g1 : 0 <= t.body /\ t.body < (p.bodies.length : Int) := by simpa [plB] using h1
 have hA : acts p t = nth [] p.bodies t.body.toNat := rfl
 have g2 : 0 <= t.pc /\ t.pc <= ((acts p t).length : Int) := by simpa [inB] using h2
 rw [hA] at g2
 exact ⟨t.body.toNat, t.pc.toNat, by omega, by omega, by omega, by omega, h3, h4⟩
theorem l12Task_any (p : Pr) (pa0 pa1 : Option Addr) (pc0 pc1 : Nat) (s : Sy) (sa0 sa1 sa3 : Option Addr) (sc0 sc1 sc3 : Nat) (i : Nat) (w : World) (hp : PrAt w (.slice pa0 p.cells.length pc0) (.slice pa1 p.bodies.length pc1) p) (hT : TasAt w (.slice sa1 s.tasks.length sc1) s.tasks) (hi : i < s.tasks.length) (hn7 : s.tasks.length <= 7) (hcl : s.cells.length <= 1048576) (hbl0 : p.bodies.length <= 1048576) (h0 : 0 <= s.clock) (h200 : s.clock <= 200) (hll : s.log.length <= 1048576) (nr : (nth Ta.z s.tasks i).reads.length <= 1048576) (nu : (nth Ta.z s.tasks i).puts.length <= 1048576) :
   Calls Try.prog 53 #[.agg #[.slice pa0 p.cells.length pc0, .slice pa1 p.bodies.length pc1], .agg #[.slice sa0 s.cells.length sc0, .slice sa1 s.tasks.length sc1, .int .i64 s.clock, .slice sa3 s.log.length sc3], .int .i64 (i : Int)] w fun r w' => r = .returned (.bool (mTkB p s i)) /\ Below w.heap.size w w' := by
 cases hN : mNumB p (nth Ta.z s.tasks i)
 . exact l12Task_num p pa0 pa1 pc0 pc1 s sa0 sa1 sa3 sc0 sc1 sc3 i w hp hT hi hn7 hcl hbl0 h0 h200 hll nr nu hN
 obtain ⟨bn, pn, e1, e2, e3, e4, e5, e6⟩ := mNumB_parts hN
 by_cases hw : (nth Ta.z s.tasks i).way = 0
 . by_cases hst : (nth Ta.z s.tasks i).stage = 0
   . exact l12Task_onB p pa0 pa1 pc0 pc1 s sa0 sa1 sa3 sc0 sc1 sc3 i w hp hT hi hn7 hcl hbl0 h0 h200 hll nr nu bn pn e1 e2 e3 e4 e5 e6 hw hst
   . exact l12Task_onA p pa0 pa1 pc0 pc1 s sa0 sa1 sa3 sc0 sc1 sc3 i w hp hT hi hn7 hcl hbl0 h0 h200 hll nr nu bn pn e1 e2 e3 e4 e5 e6 hw hst
 . by_cases hst : (nth Ta.z s.tasks i).stage = 0
   . exact l12Task_onC p pa0 pa1 pc0 pc1 s sa0 sa1 sa3 sc0 sc1 sc3 i w hp hT hi hn7 hcl hbl0 h0 h200 hll nr nu bn pn e1 e2 e3 e4 e5 e6 hw hst
   . exact l12Task_onD p pa0 pa1 pc0 pc1 s sa0 sa1 sa3 sc0 sc1 sc3 i w hp hT hi hn7 hcl hbl0 h0 h200 hll nr nu bn pn e1 e2 e3 e4 e5 e6 hw hst
theorem mTkB_num {p : Pr} {s : Sy} {i : Nat} (h : mTkB p s i = true) : mNumB p (nth Ta.z s.tasks i) = true := by
 unfold mTkB tkN at h; simp only [Bool.and_eq_true] at h; exact h.1.1
theorem mTkB_stage {p : Pr} {s : Sy} {i : Nat} (h : mTkB p s i = true) : (nth Ta.z s.tasks i).stage = 0 \/ (nth Ta.z s.tasks i).stage = 1 \/ (nth Ta.z s.tasks i).stage = 2 \/ (nth Ta.z s.tasks i).stage = 3 \/ (nth Ta.z s.tasks i).stage = 4 \/ (nth Ta.z s.tasks i).stage = 5 := by
 obtain ⟨_, _, _, _, _, _, _, h6⟩ := mNumB_parts (mTkB_num h)
 have : 0 <= (nth Ta.z s.tasks i).stage /\ (nth Ta.z s.tasks i).stage <= 5 := by simpa [inB] using h6
 omega
def mHeadB (p : Pr) (s : Sy) : Bool := okB p && decide (s.cells.length = p.cells.length) && inB s.tasks.length 1 7 && inB s.clock 0 200
theorem mSoB_head (p : Pr) (s : Sy) : mSoB p s = (mHeadB p s && ((List.range s.tasks.length).all (mTkB p s) && (mCesB s && mLgB p s))) := by
 unfold mSoB mHeadB; simp only [Bool.and_assoc]
theorem range_not {f : Nat -> Bool} {n k : Nat} (hk : k < n) (h : f k = false) : (List.range n).all f = false := by
 rw [List.all_eq_false]; exact ⟨k, by simpa using hk, by simp [h]⟩
theorem range_yes {f : Nat -> Bool} {n : Nat} (h : ∀ k, k < n -> f k = true) : (List.range n).all f = true := by
 rw [List.all_eq_true]; exact fun k hk => h k (by simpa using hk)
theorem sProgOk_b (p : Pr) (pa0 pa1 : Option Addr) (pc0 pc1 : Nat) {bb : Bool} (w : World) (hp : PrAt w (.slice pa0 p.cells.length pc0) (.slice pa1 p.bodies.length pc1) p) (h : okB p = bb) : Calls Try.prog 33 #[.agg #[.slice pa0 p.cells.length pc0, .slice pa1 p.bodies.length pc1]] w fun r w' => r = .returned (.bool bb) /\ Below w.heap.size w w' := by
 subst h; exact sProgOk_any p _ _ w hp.1 hp.2
theorem sSysOk_any (p : Pr) (pa0 pa1 : Option Addr) (pc0 pc1 : Nat) (s : Sy) (sa0 sa1 sa3 : Option Addr) (sc0 sc1 sc3 : Nat) (w : World) (hp : PrAt w (.slice pa0 p.cells.length pc0) (.slice pa1 p.bodies.length pc1) p) (hS : SyAt w (.slice sa0 s.cells.length sc0) (.slice sa1 s.tasks.length sc1) (.slice sa3 s.log.length sc3) s) (hsm : SmSy s) (hsp : SmallP p) :
   Calls Try.prog 20 #[.agg #[.slice pa0 p.cells.length pc0, .slice pa1 p.bodies.length pc1], .agg #[.slice sa0 s.cells.length sc0, .slice sa1 s.tasks.length sc1, .int .i64 s.clock, .slice sa3 s.log.length sc3]] w fun r w' => r = .returned (.bool (mSoB p s)) /\ Below w.heap.size w w' := by
 have HP := (show Hid (PrAt _ _ _ _) from hp)
 have HS := (show Hid (SyAt _ _ _ _ _) from hS)
 have HSM := (show Hid (SmSy _) from hsm)
 have hcl : s.cells.length <= 1048576 := hsm.1
 have htl : s.tasks.length <= 1048576 := hsm.2.1.1
 have hll : s.log.length <= 1048576 := hsm.2.2.1
 have hbl0 : p.bodies.length <= 1048576 := hsp.2.1
 have hpc0 : p.cells.length <= 1048576 := hsp.1
 clear hp hS hsm hsp
 cases o1 : okB p
 . have HF : Hid (mSoB p s = false) := by unfold Hid; rw [mSoB_head]; unfold mHeadB; rw [o1]; rfl
   have O1 := (show Hid (_ = _) from o1)
   clear o1
   go_enter Try.func20, Try.ntmps20
   go_wp2_with fail
   refine (sProgOk_b p _ _ _ _ _ (PrAt.mono HP.out bq0) O1.out).mono ?_
   rintro e w1 ⟨rfl, hb1⟩
   have HB1 : Hid (Below w.heap.size w w1) := below_then bq0 (by (try simp); try omega) hb1
   clear hb1
   go_wp2_with fail
   go_ret
   exact ⟨by rw [HF.out]; rfl, HB1.out⟩
 have O1 := (show Hid (_ = _) from o1)
 clear o1
 go_enter Try.func20, Try.ntmps20
 go_wp2_with fail
 refine (sProgOk_b p _ _ _ _ _ (PrAt.mono HP.out bq0) O1.out).mono ?_
 rintro e w1 ⟨rfl, hb1⟩
 have HB1 : Hid (Below w.heap.size w w1) := below_then bq0 (by (try simp); try omega) hb1
 have x0_1 : w1.cell? ⟨w.heap.size, 0, none⟩ = some (.slice pa0 p.cells.length pc0) := by rw [hb1.cell (p := ⟨w.heap.size, 0, none⟩) (by (try simp); try omega)]; simp [go_sem]
 have x1_1 : w1.cell? ⟨w.heap.size, 1, none⟩ = some (.slice pa1 p.bodies.length pc1) := by rw [hb1.cell (p := ⟨w.heap.size, 1, none⟩) (by (try simp); try omega)]; simp [go_sem]
 have x2_1 : w1.cell? ⟨w.heap.size + 1, 0, none⟩ = some (.slice sa0 s.cells.length sc0) := by rw [hb1.cell (p := ⟨w.heap.size + 1, 0, none⟩) (by (try simp); try omega)]; simp [go_sem]
 have x3_1 : w1.cell? ⟨w.heap.size + 1, 1, none⟩ = some (.slice sa1 s.tasks.length sc1) := by rw [hb1.cell (p := ⟨w.heap.size + 1, 1, none⟩) (by (try simp); try omega)]; simp [go_sem]
 have x4_1 : w1.cell? ⟨w.heap.size + 1, 2, none⟩ = some (.int .i64 s.clock) := by rw [hb1.cell (p := ⟨w.heap.size + 1, 2, none⟩) (by (try simp); try omega)]; simp [go_sem]
 have x5_1 : w1.cell? ⟨w.heap.size + 1, 3, none⟩ = some (.slice sa3 s.log.length sc3) := by rw [hb1.cell (p := ⟨w.heap.size + 1, 3, none⟩) (by (try simp); try omega)]; simp [go_sem]
 have z0_1 : w.heap.size < w1.heap.size := by have := hb1.size; (try simp at this); omega
 have z1_1 : w.heap.size + 1 < w1.heap.size := by have := hb1.size; (try simp at this); omega
 clear hb1
 by_cases hlen : s.cells.length = p.cells.length
 case neg =>
   have hl1 : ((s.cells.length : Int) != (p.cells.length : Int)) = true := by simp; omega
   have hl2 : ¬ (s.cells.length : Int) = (p.cells.length : Int) := by omega
   have HF : Hid (mSoB p s = false) := by unfold Hid; rw [mSoB_head]; unfold mHeadB; rw [decide_eq_false hlen]; simp
   clear hlen
   go_wp2_with fail
   go_ret
   exact ⟨by rw [HF.out]; rfl, HB1.out⟩
 have hl1 : ((s.cells.length : Int) != (p.cells.length : Int)) = false := by simp; omega
 have HLEN := (show Hid (_ = _) from hlen)
 clear hlen
 cases n1 : inB s.tasks.length 1 7
 . have HF : Hid (mSoB p s = false) := by unfold Hid; rw [mSoB_head]; unfold mHeadB; rw [n1]; simp
   have N1 := (show Hid (_ = _) from n1)
   clear n1
   go_wp2_with (go_at_call 52; refine (l6In_b N1.out _).mono ?_; rintro e w' ⟨rfl, hw⟩; have hw := hw.symm; subst hw)
   go_ret
   exact ⟨by rw [HF.out]; rfl, HB1.out⟩
 have N1 := (show Hid (_ = _) from n1)
 have hn7 : s.tasks.length <= 7 := by
  have : 1 <= (s.tasks.length : Int) /\ (s.tasks.length : Int) <= 7 := by simpa [inB] using n1
  omega
 clear n1
 cases n2 : inB s.clock 0 200
 . have HF : Hid (mSoB p s = false) := by unfold Hid; rw [mSoB_head]; unfold mHeadB; rw [n2]; simp
   have N2 := (show Hid (_ = _) from n2)
   clear n2
   go_wp2_with fail
   refine (l6In_b N1.out _).mono ?_
   rintro e w' ⟨rfl, hw⟩
   have hw := hw.symm
   subst hw
   go_wp2_with fail
   refine (l6In_b N2.out _).mono ?_
   rintro e w' ⟨rfl, hw⟩
   have hw := hw.symm
   subst hw
   go_wp2_with fail
   go_ret
   exact ⟨by rw [HF.out]; rfl, HB1.out⟩
 have N2 := (show Hid (_ = _) from n2)
 have h02 : 0 <= s.clock /\ s.clock <= 200 := by simpa [inB] using n2
 obtain ⟨h0, h200⟩ := h02
 clear n2
 have HM : Hid (mHeadB p s = true) := by unfold Hid mHeadB; rw [O1.out, decide_eq_true HLEN.out, N1.out, N2.out]; rfl
 go_wp2_with fail
 refine (l6In_b N1.out _).mono ?_
 rintro e w' ⟨rfl, hw⟩
 have hw := hw.symm
 subst hw
 go_wp2_with fail
 refine (l6In_b N2.out _).mono ?_
 rintro e w' ⟨rfl, hw⟩
 have hw := hw.symm
 subst hw
 go_wp2_with fail
 go_loopw [5] (fun q w' => ∃ k : Nat, k <= s.tasks.length /\ q = .int .i64 k /\ Below w1.heap.size w1 w' /\ (∀ j, j < k -> mTkB p s j = true)) (fun q _ => s.tasks.length - (intOf q).toNat)
 case atStart => exact ⟨0, Nat.zero_le _, rfl, Below.refl _ _, fun j hj => absurd hj (Nat.not_lt_zero _)⟩
 case round =>
   obtain ⟨k, hk, rfl, hb, hall⟩ := hrel
   have HBW : Hid (Below w.heap.size w wr) := below_then HB1.out HB1.out.size hb
   have x0_2 : wr.cell? ⟨w.heap.size, 0, none⟩ = some (.slice pa0 p.cells.length pc0) := by rw [hb.cell (p := ⟨w.heap.size, 0, none⟩) (by (try simp); try omega)]; exact x0_1
   have x1_2 : wr.cell? ⟨w.heap.size, 1, none⟩ = some (.slice pa1 p.bodies.length pc1) := by rw [hb.cell (p := ⟨w.heap.size, 1, none⟩) (by (try simp); try omega)]; exact x1_1
   have x2_2 : wr.cell? ⟨w.heap.size + 1, 0, none⟩ = some (.slice sa0 s.cells.length sc0) := by rw [hb.cell (p := ⟨w.heap.size + 1, 0, none⟩) (by (try simp); try omega)]; exact x2_1
   have x3_2 : wr.cell? ⟨w.heap.size + 1, 1, none⟩ = some (.slice sa1 s.tasks.length sc1) := by rw [hb.cell (p := ⟨w.heap.size + 1, 1, none⟩) (by (try simp); try omega)]; exact x3_1
   have x4_2 : wr.cell? ⟨w.heap.size + 1, 2, none⟩ = some (.int .i64 s.clock) := by rw [hb.cell (p := ⟨w.heap.size + 1, 2, none⟩) (by (try simp); try omega)]; exact x4_1
   have x5_2 : wr.cell? ⟨w.heap.size + 1, 3, none⟩ = some (.slice sa3 s.log.length sc3) := by rw [hb.cell (p := ⟨w.heap.size + 1, 3, none⟩) (by (try simp); try omega)]; exact x5_1
   have z0_2 : w.heap.size < wr.heap.size := by have := hb.size; (try simp at this); omega
   have z1_2 : w.heap.size + 1 < wr.heap.size := by have := hb.size; (try simp at this); omega
   have HBX := (show Hid (Below _ _ _) from hb)
   clear hb x0_1 x1_1 x2_1 x3_1 x4_1 x5_1 z0_1 z1_1
   by_cases hlt : k < s.tasks.length
   . have hlt' : (k : Int) < (s.tasks.length : Int) := by omega
     have hsmk := HSM.out.2.1.2 k hlt
     have nr := hsmk.2.2.1
     have nu := hsmk.2.2.2
     clear hsmk
     go_wp2_with fail
     refine (l12Task_any p _ _ _ _ s _ _ _ _ _ _ k _ (PrAt.mono HP.out HBW.out) (TasAt.mono HS.out.2.1 HBW.out) hlt hn7 hcl hbl0 h0 h200 hll nr nu).mono ?_
     rintro e w2 ⟨rfl, hb2⟩
     have HB2 : Hid (Below w1.heap.size w1 w2) := below_then HBX.out HBX.out.size hb2
     have HB2w : Hid (Below w.heap.size w w2) := below_then HBW.out HBW.out.size hb2
     clear hb2 x0_2 x1_2 x2_2 x3_2 x4_2 x5_2 z0_2 z1_2
     cases d : mTkB p s k
     . have HF : Hid (mSoB p s = false) := by unfold Hid; rw [mSoB_head, HM.out, range_not hlt d]; rfl
       clear d hall
       go_wp2_with fail
       go_ret
       exact ⟨by rw [HF.out]; rfl, HB2w.out⟩
     . have HA : Hid (∀ j, j < k + 1 -> mTkB p s j = true) := so_far hall d
       clear d hall
       go_wp2_with fail
       go_roundw
       case rel => exact ⟨k + 1, by omega, by go_num, HB2.out, HA.out⟩
       case measure => simp [intOf]; omega
   . have hk' : ¬ (k : Int) < (s.tasks.length : Int) := by omega
     have hall' : ∀ j, j < s.tasks.length -> mTkB p s j = true := fun j hj => hall j (by omega)
     have HSO : Hid (mSoB p s = (mCesB s && mLgB p s)) := by unfold Hid; rw [mSoB_head, HM.out, range_yes hall']; rfl
     have HA := (show Hid (∀ j, j < s.tasks.length -> _) from hall')
     clear hall hall'
     go_wp2_with fail
     refine (l12Cells_any s _ _ _ _ _ _ _ (CesAt.mono HS.out.1 HBW.out) (TasAt.mono HS.out.2.1 HBW.out) hcl htl (fun j hj => ⟨mTkB_stage (HA.out j hj), (HSM.out.2.1.2 j hj).2.2.2⟩)).mono ?_
     rintro e w2 ⟨rfl, hb2⟩
     have x0_3 : w2.cell? ⟨w.heap.size, 0, none⟩ = some (.slice pa0 p.cells.length pc0) := by rw [hb2.cell (p := ⟨w.heap.size, 0, none⟩) (by (try simp); try omega)]; exact x0_2
     have x1_3 : w2.cell? ⟨w.heap.size, 1, none⟩ = some (.slice pa1 p.bodies.length pc1) := by rw [hb2.cell (p := ⟨w.heap.size, 1, none⟩) (by (try simp); try omega)]; exact x1_2
     have x2_3 : w2.cell? ⟨w.heap.size + 1, 0, none⟩ = some (.slice sa0 s.cells.length sc0) := by rw [hb2.cell (p := ⟨w.heap.size + 1, 0, none⟩) (by (try simp); try omega)]; exact x2_2
     have x3_3 : w2.cell? ⟨w.heap.size + 1, 1, none⟩ = some (.slice sa1 s.tasks.length sc1) := by rw [hb2.cell (p := ⟨w.heap.size + 1, 1, none⟩) (by (try simp); try omega)]; exact x3_2
     have x4_3 : w2.cell? ⟨w.heap.size + 1, 2, none⟩ = some (.int .i64 s.clock) := by rw [hb2.cell (p := ⟨w.heap.size + 1, 2, none⟩) (by (try simp); try omega)]; exact x4_2
     have x5_3 : w2.cell? ⟨w.heap.size + 1, 3, none⟩ = some (.slice sa3 s.log.length sc3) := by rw [hb2.cell (p := ⟨w.heap.size + 1, 3, none⟩) (by (try simp); try omega)]; exact x5_2
     have z0_3 : w.heap.size < w2.heap.size := by have := hb2.size; (try simp at this); omega
     have z1_3 : w.heap.size + 1 < w2.heap.size := by have := hb2.size; (try simp at this); omega
     have HB2 : Hid (Below w.heap.size w w2) := below_then HBW.out HBW.out.size hb2
     clear hb2 x0_2 x1_2 x2_2 x3_2 x4_2 x5_2 z0_2 z1_2
     cases d : mCesB s
     . have HF : Hid (mSoB p s = false) := by unfold Hid; rw [HSO.out, d]; rfl
       clear d
       go_wp2_with fail
       go_ret
       exact ⟨by rw [HF.out]; rfl, HB2.out⟩
     have HF : Hid (mSoB p s = mLgB p s) := by unfold Hid; rw [HSO.out, d]; rfl
     have D := (show Hid (_ = _) from d)
     clear d
     go_wp2_with fail
     refine (l12Log_any p _ _ _ _ s _ _ _ _ _ _ _ (PrAt.mono HP.out HB2.out) (TasAt.mono HS.out.2.1 HB2.out) (EnsAt.mono HS.out.2.2 HB2.out) hcl htl (fun j hj => by obtain ⟨bn, _, e1, e2, _⟩ := mNumB_parts (mTkB_num (HA.out j hj)); exact ⟨bn, e1, e2⟩)).mono ?_
     rintro e w3 ⟨rfl, hb3⟩
     have HB3 : Hid (Below w.heap.size w w3) := below_then HB2.out HB2.out.size hb3
     clear hb3 x0_3 x1_3 x2_3 x3_3 x4_3 x5_3 z0_3 z1_3
     go_wp2_with fail
     go_ret
     exact ⟨by rw [HF.out]; rfl, HB3.out⟩

set_option maxRecDepth 20000
def RunR (p : Pr) (s : Sy) (ts : List Int) (w : World) (r : Ending) (w' : World) : Prop :=
 ∃ cv' tv' lv', r = .returned (.tuple #[.agg #[cv', tv', .int .i64 (runS p s ts).clock, lv'], .bool true]) /\ OwnS w.heap.size w' cv' tv' lv' (runS p s ts) /\ Below w.heap.size w w'
theorem runS_succ (p : Pr) (s : Sy) (ts : List Int) {k : Nat} (hk : k < ts.length) : runS p s (ts.take (k + 1)) = doS p (runS p s (ts.take k)) (nth 0 ts k) := by
 unfold runS
 rw [take_nth 0 ts k hk, List.foldl_append]; rfl
theorem SyOn.shapes {S : Nat -> Prop} {w : World} {cv tv lv : Value} {s : Sy} (h : SyOn S w cv tv lv s) : ∃ a1 c1 a2 c2 a3 c3, cv = .slice a1 s.cells.length c1 /\ tv = .slice a2 s.tasks.length c2 /\ lv = .slice a3 s.log.length c3 := by
 obtain ⟨a1, c1, e1, _⟩ := ces_src h.1.at
 obtain ⟨a2, c2, e2, _⟩ := h.2.1.at.cap
 obtain ⟨a3, c3, e3, _⟩ := h.2.2.at.cap
 exact ⟨a1, c1, a2, c2, a3, c3, e1, e2, e3⟩
theorem OwnS.turn {V : Nat} {p : Pr} {s : Sy} {k : Int} {wr w5 : World} {cv tv lv cv' tv' lv' : Value} (h : OwnS V wr cv tv lv s) (hE : doB s k = false -> cv' = cv /\ tv' = tv /\ lv' = lv) (hO : doB s k = true -> OwnS wr.heap.size w5 cv' tv' lv' (doS p s k)) (hb : Below wr.heap.size wr w5) (hV : V <= wr.heap.size) : OwnS V w5 cv' tv' lv' (doS p s k) := by
 cases e : doB s k
 . obtain ⟨rfl, rfl, rfl⟩ := hE e
   rw [doS_no e]
   exact h.below hb (Nat.le_refl _)
 . exact (hO e).base hV
structure Rn (Y : Nat) (V : World) (p : Pr) (s1 : Sy) (wr : World) : Prop where
 ex : ∃ cv tv lv, wr.heap[Y]? = some (.cells #[cv, tv, .int .i64 s1.clock, lv] 32 (0, 0)) /\ OwnS V.heap.size wr cv tv lv s1
 fr : FrS (fun b => b = Y) V wr
theorem Rn.store {Y : Nat} {V w5 : World} {p : Pr} {s1 : Sy} {a0 a1 a2 a3 cv tv lv : Value} (hY : Y < V.heap.size) (hf : FrS (fun b => b = Y) V w5) (hb : w5.heap[Y]? = some (.cells #[a0, a1, a2, a3] 32 (0, 0))) (hs : OwnS V.heap.size w5 cv tv lv s1) : Rn Y V p s1 ((((w5.setCell ⟨Y, 0, none⟩ cv).setCell ⟨Y, 1, none⟩ tv).setCell ⟨Y, 2, none⟩ (.int .i64 s1.clock)).setCell ⟨Y, 3, none⟩ lv) := by
 refine ⟨⟨cv, tv, lv, (box4 hb).1, ?_⟩, (((hf.setCell (p := ⟨Y, 0, none⟩) rfl _).setCell (p := ⟨Y, 1, none⟩) rfl _).setCell (p := ⟨Y, 2, none⟩) rfl _).setCell (p := ⟨Y, 3, none⟩) rfl _⟩
 exact (((hs.setX hY _).setX hY _).setX hY _).setX hY _
theorem sysRun_yes (S : Nat -> Prop) (p : Pr) (s : Sy) (ts : List Int) (pc pb cv tv lv tv0 : Value) (w : World) (hP : PrS (fun b => b < w.heap.size) w pc pb p) (h : SyOn S w cv tv lv s) (hok : mSoB p s = true) (hx : Inx p s) (hsp : SmallP p) (hts : IntsAt w tv0 ts) (hl : ts.length <= 300) :
   Calls Try.prog 51 #[.agg #[pc, pb], .agg #[cv, tv, .int .i64 s.clock, lv], tv0] w (RunR p s ts w) := by
 obtain ⟨pa, pca, rfl, _⟩ := hP.1.shape
 obtain ⟨pba, pbc, rfl, _⟩ := hP.2.shape
 obtain ⟨aa, ca, ta, tc, la, lc, rfl, rfl, rfl⟩ := h.shapes
 obtain ⟨tsa, tsc, rfl, _⟩ := hts.shape
 have HP := (show Hid (PrS _ _ _ _ _) from hP)
 have HS := (show Hid (SyOn _ _ _ _ _ _) from h)
 have HX := (show Hid (Inx _ _) from hx)
 have HOK := (show Hid (_ = _) from hok)
 have HSP := (show Hid (SmallP _) from hsp)
 have HTS := (show Hid (IntsAt _ _ _) from hts)
 have hl' : ¬ (300 : Int) < (ts.length : Int) := by omega
 clear hP h hx hok hsp hts
 have HY : Hid (∃ V, V = (((w.alloc (.cells #[.slice pa p.cells.length pca, .slice pba p.bodies.length pbc] 26)).alloc (.cells #[.slice aa s.cells.length ca, .slice ta s.tasks.length tc, .int .i64 s.clock, .slice la s.log.length lc] 32)).alloc (.cells #[.slice none 0 0, .slice none 0 0, .int .i64 0, .slice none 0 0] 32)) /\ PBox V w.heap.size (.slice pa p.cells.length pca) (.slice pba p.bodies.length pbc) /\ V.heap[w.heap.size + 1]? = some (.cells #[.slice aa s.cells.length ca, .slice ta s.tasks.length tc, .int .i64 s.clock, .slice la s.log.length lc] 32 (0, 0)) /\ V.heap[w.heap.size + 2]? = some (.cells #[.slice none 0 0, .slice none 0 0, .int .i64 0, .slice none 0 0] 32 (0, 0)) /\ V.heap.size = w.heap.size + 3 /\ Below w.heap.size w V) := by
   refine ⟨_, rfl, PBox.alloc (PBox.alloc (heap_alloc_new w _) _) _, ?_, ?_, by simp, (((Below.refl _ _).alloc (Nat.le_refl _) _).alloc (by simp) _).alloc (by simp; omega) _⟩
   . rw [Below.heap_alloc _ _ _ (by simp)]
     simpa using heap_alloc_new (w.alloc (.cells #[.slice pa p.cells.length pca, .slice pba p.bodies.length pbc] 26)) (.cells #[.slice aa s.cells.length ca, .slice ta s.tasks.length tc, .int .i64 s.clock, .slice la s.log.length lc] 32)
   . simpa using heap_alloc_new ((w.alloc (.cells #[.slice pa p.cells.length pca, .slice pba p.bodies.length pbc] 26)).alloc (.cells #[.slice aa s.cells.length ca, .slice ta s.tasks.length tc, .int .i64 s.clock, .slice la s.log.length lc] 32)) (.cells #[.slice none 0 0, .slice none 0 0, .int .i64 0, .slice none 0 0] 32)
 go_enter Try.func51, Try.ntmps51
 go_wp2_with fail
 obtain ⟨V, hV, hVP, hVY, hVZ, hVs, hVb⟩ := HY.out
 rw [<- hV]
 clear hV HY
 have hVg : w.heap.size + 2 < V.heap.size := by omega
 clear hVs
 revert hVP hVY hVZ hVg
 generalize hYe : w.heap.size + 1 = Y
 generalize hZe : Y + 1 = Z
 have e2 : w.heap.size + 2 = Z := by omega
 rw [e2]
 have hwY : w.heap.size < Y := by omega
 have hYZ : Y < Z := by omega
 clear e2 hYe hZe
 intro hVP hVY hVZ hVg
 have HVP := (show Hid (PBox _ _ _ _) from hVP)
 have HVY := (show Hid (_ = _) from hVY)
 have HVZ := (show Hid (_ = _) from hVZ)
 have HVB := (show Hid (Below _ _ _) from hVb)
 have hsw := hVb.size
 clear hVP hVY hVZ hVb
 refine (sSysOk_any p pa pba pca pbc s aa ta la ca tc lc V ⟨HP.out.1.at.mono HVB.out, HP.out.2.at.mono HVB.out⟩ (HS.out.at.mono HVB.out) HX.out.sm HSP.out).mono ?_
 rw [HOK.out]
 rintro e w1 ⟨rfl, hb1⟩
 have hs1 := hb1.size
 have HVY1 : Hid (w1.heap[Y]? = _) := (hb1.block Y (by omega)).trans HVY.out
 have HB1 := (show Hid (Below V.heap.size V w1) from hb1)
 have HBw1 : Hid (Below w.heap.size w w1) := HVB.out.trans (hb1.mono hsw)
 clear hb1
 obtain ⟨⟨y0, y1, y2, y3⟩, _, hYl⟩ := box4c HVY1.out
 go_wp2_with fail
 refine (l11Copy_any s _ _ _ _ (HS.out.at.mono HBw1.out) HX.out.sm).mono ?_
 rintro e w2 ⟨f, cv', tv', lv', T, L, rfl, hO, hT, hL, hb2⟩
 have hs2 := hb2.size
 have HS2 : Hid (OwnS V.heap.size w2 cv' tv' lv' s) := OwnS.base ⟨f, T, L, hO, hT, hL⟩ (by omega)
 have HVY2 : Hid (w2.heap[Y]? = _) := (hb2.block Y (by omega)).trans HVY1.out
 have HR2 : Hid (Rn Y V p (runS p s (ts.take 0)) ((((w2.setCell ⟨Y, 0, none⟩ cv').setCell ⟨Y, 1, none⟩ tv').setCell ⟨Y, 2, none⟩ (.int .i64 s.clock)).setCell ⟨Y, 3, none⟩ lv')) :=
   Rn.store (by omega) (FrS.of_below (HB1.out.trans (hb2.mono hs1))) HVY2.out HS2.out
 obtain ⟨xa, xc, ya, yc, za, zc, rfl, rfl, rfl⟩ := HS2.out.on.shapes
 clear hO hT hL hb2 y0 y1 y2 y3 hYl HVY1 HB1 HBw1
 obtain ⟨⟨y0, y1, y2, y3⟩, ⟨g0, g1, g2, g3⟩, hYl⟩ := box4c HVY2.out
 go_wp2_with fail
 go_loopw [8] (fun q w' => ∃ k : Nat, k <= ts.length /\ q = .int .i64 k /\ Rn Y V p (runS p s (ts.take k)) w') (fun q _ => ts.length - (intOf q).toNat)
 case atStart => exact ⟨0, Nat.zero_le _, rfl, HR2.out⟩
 case round =>
   obtain ⟨k, hk, rfl, hrn⟩ := hrel
   have HIK : Hid (Inx p (runS p s (ts.take k))) := HX.out.run _
   have HRK : Hid (k < ts.length -> runS p s (ts.take (k + 1)) = doS p (runS p s (ts.take k)) (nth 0 ts k)) := runS_succ p s ts
   have HRE : Hid (k = ts.length -> runS p s ts = runS p s (ts.take k)) := fun e => by rw [e, List.take_length]
   clear y0 y1 y2 y3 g0 g1 g2 g3 hYl HVY2 HS2 HR2 HS HX HOK HVY
   revert hrn HIK HRK HRE
   generalize runS p s (ts.take k) = s1
   intro hrn HIK HRK HRE
   obtain ⟨cv1, tv1, lv1, hbx, hsy⟩ := hrn.ex
   obtain ⟨c1, m1, t1, n1, l1, o1, rfl, rfl, rfl⟩ := hsy.on.shapes
   have HBX := (show Hid (_ = _) from hbx)
   have HSY := (show Hid (OwnS _ _ _ _ _ _) from hsy)
   have HFR := (show Hid (FrS _ _ _) from hrn.fr)
   have hsr := hrn.fr.size
   have HPB : Hid (PBox wr w.heap.size (.slice pa p.cells.length pca) (.slice pba p.bodies.length pbc)) := HVP.out.heap (hrn.fr.block _ (by omega) (by show ¬ w.heap.size = Y; omega))
   have HZB : Hid (wr.heap[Z]? = _) := (hrn.fr.block Z (by omega) (by show ¬ Z = Y; omega)).trans HVZ.out
   have HBW : Hid (Below w.heap.size w wr) := HVB.out.trans (hrn.fr.below (fun b hb => by have hb : b = Y := hb; omega) hsw)
   clear hrn hbx hsy
   by_cases hlt : k < ts.length
   . have hlt' : (k : Int) < (ts.length : Int) := by omega
     obtain ⟨_, _, ek, _, hkc⟩ := HTS.out.mono HBW.out
     injection ek with ek1 ek2 ek3
     subst ek1 ek3
     clear ek2
     obtain ⟨b4, off4, rfl, hb4, c4⟩ := hkc k hlt
     clear hkc
     have HC4 := (show Hid (_ = _) from c4)
     obtain ⟨p0, p1, _, _⟩ := HPB.out.cells
     obtain ⟨⟨y0, y1, y2, y3⟩, _, hYl⟩ := box4c HBX.out
     have hPr : w.heap.size < wr.heap.size := by omega
     have SM : Hid (∀ W : World, Below wr.heap.size wr W -> W.cell? ⟨w.heap.size, 0, none⟩ = some (.slice pa p.cells.length pca) /\ W.cell? ⟨w.heap.size, 1, none⟩ = some (.slice pba p.bodies.length pbc) /\ W.cell? ⟨Y, 0, none⟩ = some (.slice c1 s1.cells.length m1) /\ W.cell? ⟨Y, 1, none⟩ = some (.slice t1 s1.tasks.length n1) /\ W.cell? ⟨Y, 2, none⟩ = some (.int .i64 s1.clock) /\ W.cell? ⟨Y, 3, none⟩ = some (.slice l1 s1.log.length o1) /\ W.cell? ⟨b4, off4 + k, none⟩ = some (.int .i64 (nth 0 ts k))) := fun W hb =>
       ⟨(hb.cell (p := ⟨w.heap.size, 0, none⟩) hPr).trans p0, (hb.cell (p := ⟨w.heap.size, 1, none⟩) hPr).trans p1, (hb.cell (p := ⟨Y, 0, none⟩) hYl).trans y0, (hb.cell (p := ⟨Y, 1, none⟩) hYl).trans y1, (hb.cell (p := ⟨Y, 2, none⟩) hYl).trans y2, (hb.cell (p := ⟨Y, 3, none⟩) hYl).trans y3, (hb.cell (p := ⟨b4, off4 + k, none⟩) hb4).trans HC4.out⟩
     go_wp2_with fail
     have hwk : IntKind.i64.wrap ((k : Int) + 1) = (k : Int) + 1 := by rw [IntKind.wrap_i64]; omega
     clear SM
     go_region_with (go_at_call 99; refine (l11Do_any (fun b => V.heap.size <= b) p s1 (nth 0 ts k) _ _ _ _ _ _ ⟨(HP.out.1.kept (Kept.below HBW.out.drew)).wide (fun b hb => by have : b < w.heap.size := hb; show b < wr.heap.size; omega), (HP.out.2.kept (Kept.below HBW.out.drew)).wide (fun b hb => by have : b < w.heap.size := hb; show b < wr.heap.size; omega)⟩ (HSY.out.on.kept (Kept.below (Below.refl _ _).drew)) HIK.out.w HIK.out.sm).mono ?_; rintro e w5 ⟨cv5, tv5, lv5, rfl, hS5, hE5, hO5, hb5⟩; have HB5 : Hid (Below wr.heap.size wr w5) := ((Below.refl _ _).drew).trans hb5; have HS5 : Hid (OwnS V.heap.size w5 cv5 tv5 lv5 (doS p s1 (nth 0 ts k))) := OwnS.turn HSY.out hE5 hO5 HB5.out hsr; obtain ⟨xa, xc, ya, yc, za, zc, rfl, rfl, rfl⟩ := HS5.out.on.shapes; have hY5 := (HB5.out.block Y hYl).trans HBX.out; have HRN : Hid (Rn Y V p (doS p s1 (nth 0 ts k)) ((((w5.setCell ⟨Y, 0, none⟩ (.slice xa (doS p s1 (nth 0 ts k)).cells.length xc)).setCell ⟨Y, 1, none⟩ (.slice ya (doS p s1 (nth 0 ts k)).tasks.length yc)).setCell ⟨Y, 2, none⟩ (.int .i64 (doS p s1 (nth 0 ts k)).clock)).setCell ⟨Y, 3, none⟩ (.slice za (doS p s1 (nth 0 ts k)).log.length zc))) := Rn.store (by omega) (HFR.out.trans (FrS.of_below HB5.out)) hY5 HS5.out; obtain ⟨⟨v0, v1, v2, v3⟩, ⟨g0, g1, g2, g3⟩, hYl5⟩ := box4c hY5; clear hS5 hE5 hO5 hb5 hY5)
     all_goals
       go_wp2_with fail
       go_roundw
       case rel => exact ⟨k + 1, by omega, by go_num, by rw [HRK.out hlt]; exact HRN.out⟩
       case measure => simp [intOf]; omega
   . have hkl : k = ts.length := by omega
     have HE : Hid (runS p s ts = s1) := HRE.out hkl
     subst hkl
     obtain ⟨⟨y0, y1, y2, y3⟩, _, hYl⟩ := box4c HBX.out
     obtain ⟨⟨z0, z1, z2, z3⟩, ⟨f0, f1, f2, f3⟩, hZl⟩ := box4c HZB.out
     go_wp2_with fail
     (try simp only [Exit.inBlock, Exit.then])
     obtain ⟨⟨r0, r1, r2, r3⟩, _, _⟩ := box4c (box4 (b0 := .slice c1 s1.cells.length m1) (b1 := .slice t1 s1.tasks.length n1) (b2 := .int .i64 s1.clock) (b3 := .slice l1 s1.log.length o1) HZB.out).1
     refine bodyPost_ret (v := .tuple #[.agg #[.slice c1 s1.cells.length m1, .slice t1 s1.tasks.length n1, .int .i64 s1.clock, .slice l1 s1.log.length o1], .bool true]) ?_ rfl ⟨_, _, _, by rw [HE.out], by rw [HE.out]; exact ((((HSY.out.setX hVg _).setX hVg _).setX hVg _).setX hVg _).base hsw, (((HBW.out.setCell (by simp; omega) _).setCell (by simp; omega) _).setCell (by simp; omega) _).setCell (by simp; omega) _⟩
     rw [results_cell_tmp rfl]
     go_simp


theorem own_blk {w : World} {B : Nat} {e : TypeId} {size : Nat} {v : Value} {n : Nat} {xs : List Value} {a : Option Addr} {m cap b off : Nat} (h : w.ownsRow B e size v n xs) (hv : v = .slice a m cap) (ha : a = some ⟨b, off, none⟩) : B <= b :=
 (h.lt b (by rw [hv, ha]; rfl)).1
theorem OwnInt.on {S : Nat -> Prop} {B : Nat} {w : World} {v : Value} {xs : List Int} (h : OwnInt B w v xs) (hS : ∀ b, B <= b -> S b) : IntsOn S w v xs := by
 obtain ⟨a, cap, e, hm, hc⟩ := h.at
 refine ⟨a, cap, e, hm, fun i hi => ?_⟩
 obtain ⟨b, off, e2, hb, c⟩ := hc i hi
 exact ⟨b, off, e2, hS b (own_blk h e e2), hb, c⟩
theorem OwnDe.on {S : Nat -> Prop} {B : Nat} {w : World} {v : Value} {xs : List De} (h : OwnDe B w v xs) (hS : ∀ b, B <= b -> S b) : DeedsOn S w v xs := by
 obtain ⟨a, cap, e, hm, hc⟩ := h.at
 refine ⟨a, cap, e, hm, fun i hi => ?_⟩
 obtain ⟨b, off, e2, hb, c⟩ := hc i hi
 exact ⟨b, off, e2, hS b (own_blk h e e2), hb, c⟩
theorem rowActs_on {S : Nat -> Prop} {B : Nat} {w : World} {v : Value} {L : List (Ac × Value × Value)} (hr : w.ownsRow B 122 4 v L.length (acCells L)) (hin : ∀ x, x ∈ L -> DeedsOn S w x.2.1 x.1.ds /\ IntsOn S w x.2.2 x.1.ks) (hS : ∀ b, B <= b -> S b) : ActsOn S w v (L.map (·.1)) := by
 obtain ⟨a, cap, rfl, h1, h2⟩ := own_shape hr
 have hl := hr.1
 refine ⟨a, cap, by simp, by simp; omega, fun i hi => ?_⟩
 have hi' : i < L.length := by simpa using hi
 obtain ⟨g, c, hv, hg, hgB, hc⟩ := own_cell hr (i * 4) (by omega)
 injection hv with e1
 have G := fun j hj => flat_get 4 (fun x : Ac × Value × Value => [Value.int .i64 x.1.k, x.2.1, x.2.2, .int .i64 x.1.r]) (fun _ => rfl) j hj L i hi'
 have hx := hin L[i] (List.getElem_mem hi')
 have hn : nth Ac.z (L.map (·.1)) i = L[i].1 := by rw [nth_eq _ _ _ hi]; simp
 refine ⟨g, 0, L[i].2.1, L[i].2.2, e1, hS g hgB, hg, ?_⟩
 rw [hn, Nat.zero_add]
 have all : ∀ j, j < 4 -> w.cell? ⟨g, i * 4 + j, none⟩ = (acCells L)[i * 4 + j]? := fun j hj => by
   rcases hc (i * 4 + j) with h3 | h3
   . exact h3
   . omega
 refine ⟨?_, ?_, ?_, ?_, hx.1, hx.2⟩
 . exact (all 0 (by omega)).trans (G 0 (by omega))
 . exact (all 1 (by omega)).trans (G 1 (by omega))
 . exact (all 2 (by omega)).trans (G 2 (by omega))
 . exact (all 3 (by omega)).trans (G 3 (by omega))
theorem rowBodies_on {α : Type} {S : Nat -> Prop} {B : Nat} {w : World} {v : Value} {L : List (α × Value)} (f : α -> List Ac) (hr : w.ownsRow B 113 1 v L.length (L.map (·.2))) (hin : ∀ y, y ∈ L -> ActsOn S w y.2 (f y.1)) (hS : ∀ b, B <= b -> S b) : BodiesOn S w v (L.map fun y => f y.1) := by
 obtain ⟨a, cap, rfl, h1, h2⟩ := own_shape hr
 have hl := hr.1
 refine ⟨a, cap, by simp, by simp; omega, fun i hi => ?_⟩
 have hi' : i < L.length := by simpa using hi
 obtain ⟨g, c, hv, hg, hgB, hc⟩ := own_cell hr i (by omega)
 injection hv with e1
 have hn : nth [] (L.map fun y => f y.1) i = f L[i].1 := by rw [nth_eq _ _ _ hi]; simp
 refine ⟨g, 0, L[i].2, e1, hS g hgB, hg, ?_⟩
 rw [hn, Nat.zero_add]
 refine ⟨?_, hin _ (List.getElem_mem hi')⟩
 rcases hc i with h3 | h3
 . rw [h3]; simp [hi']
 . simp at h3; omega
theorem OwnActs.on {S : Nat -> Prop} {B : Nat} {w : World} {v : Value} {acts : List Ac} (h : OwnActs B w v acts) (hS : ∀ b, B <= b -> S b) : ActsOn S w v acts := by
 obtain ⟨L, rfl, hr, hin⟩ := h
 exact rowActs_on hr (fun x hx => ⟨(hin x hx).1.on hS, (hin x hx).2.on hS⟩) hS
theorem OwnBodies.on {S : Nat -> Prop} {B : Nat} {w : World} {v : Value} {bs : List (List Ac)} (h : OwnBodies B w v bs) (hS : ∀ b, B <= b -> S b) : BodiesOn S w v bs := by
 obtain ⟨L, rfl, hr, hin⟩ := h
 exact rowBodies_on (fun a => a) hr (fun y hy => (hin y hy).on hS) hS




set_option maxRecDepth 20000

theorem ok_sizes {p : Pr} (h : okB p = true) : p.cells.length <= 3 /\ 1 <= p.bodies.length /\ p.bodies.length <= 4 /\ ∀ i, i < p.bodies.length -> (nth [] p.bodies i).length <= 4 := by
 unfold okB foB csB inB at h
 simp only [Bool.and_eq_true, decide_eq_true_eq, List.all_eq_true, List.mem_range] at h
 obtain ⟨⟨⟨⟨h1, _⟩, h2, h3⟩, h4⟩, _⟩ := h
 refine ⟨h1, by omega, by omega, fun i hi => ?_⟩
 have h5 := h4 i hi
 unfold boB at h5
 simp only [Bool.and_eq_true, decide_eq_true_eq] at h5
 exact h5.1
end Go.Proofs.Ytgbgjljflgbcaaa
