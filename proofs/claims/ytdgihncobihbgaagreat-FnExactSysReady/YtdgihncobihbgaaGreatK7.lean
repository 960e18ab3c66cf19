/-
  SysOk of the model (by mky.py).
-/
import Derived.Test.YtdgihncobihbgaaGreatK6d
import Derived.Test.YtdgihncobihbgaaGreatK6e
import Derived.Test.YtdgihncobihbgaaGreatK6j
import Derived.Test.YtdgihncobihbgaaGreatK6k
import Derived.Test.YtdgihncobihbgaaGreatK6l
import Derived.Test.YtdgihncobihbgaaGreatK6m
import Derived.Test.YtdgihncobihbgaaGreatK6n
import Derived.Test.YtdgihncobihbgaaGreatN3
import Derived.Handy
namespace Go.Proofs.YtdgihncobihbgaaGreat
open Go.RowKit
set_option linter.unusedSimpArgs false
set_option linter.unusedVariables false
set_option maxRecDepth 20000

theorem mNumB_parts {p : Pr} {t : Ta} (h : mNumB p t = true) : ∃ bn pn : Nat, t.body = (bn : Int) ∧ bn < p.bodies.length ∧ t.pc = (pn : Int) ∧ pn ≤ (nth [] p.bodies bn).length ∧ inB t.way 0 4 = true ∧ inB t.stage 0 5 = true := by
  unfold mNumB at h
  simp only [Bool.and_eq_true] at h
  obtain ⟨⟨⟨h1, h2⟩, h3⟩, h4⟩ := h
  have g1 : 0 ≤ t.body ∧ t.body < (p.bodies.length : Int) := by simpa [plB] using h1
  have hA : acts p t = nth [] p.bodies t.body.toNat := rfl
  have g2 : 0 ≤ t.pc ∧ t.pc ≤ ((acts p t).length : Int) := by simpa [inB] using h2
  rw [hA] at g2
  exact ⟨t.body.toNat, t.pc.toNat, by omega, by omega, by omega, by omega, h3, h4⟩
theorem l12Task_any (p : Pr) (pa0 pa1 : Option Addr) (pc0 pc1 : Nat) (s : Sy) (sa0 sa1 sa3 : Option Addr) (sc0 sc1 sc3 : Nat) (i : Nat) (w : World) (hp : PrAt w (.slice pa0 p.cells.length pc0) (.slice pa1 p.bodies.length pc1) p) (hT : TasAt w (.slice sa1 s.tasks.length sc1) s.tasks) (hi : i < s.tasks.length) (hn7 : s.tasks.length ≤ 7) (hcl : s.cells.length ≤ 1048576) (hbl0 : p.bodies.length ≤ 1048576) (h0 : 0 ≤ s.clock) (h200 : s.clock ≤ 200) (hll : s.log.length ≤ 1048576) (nr : (nth Ta.z s.tasks i).reads.length ≤ 1048576) (nu : (nth Ta.z s.tasks i).puts.length ≤ 1048576) :
    Calls Tryz.prog 30 #[.agg #[.slice pa0 p.cells.length pc0, .slice pa1 p.bodies.length pc1], .agg #[.slice sa0 s.cells.length sc0, .slice sa1 s.tasks.length sc1, .int .i64 s.clock, .slice sa3 s.log.length sc3], .int .i64 (i : Int)] w fun r w' => r = .returned (.bool (mTkB p s i)) ∧ Below w.heap.size w w' := by
  cases hN : mNumB p (nth Ta.z s.tasks i)
  · exact l12Task_num p pa0 pa1 pc0 pc1 s sa0 sa1 sa3 sc0 sc1 sc3 i w hp hT hi hn7 hcl hbl0 h0 h200 hll nr nu hN
  obtain ⟨bn, pn, e1, e2, e3, e4, e5, e6⟩ := mNumB_parts hN
  by_cases hw : (nth Ta.z s.tasks i).way = 0
  · by_cases hst : (nth Ta.z s.tasks i).stage = 0
    · exact l12Task_onB p pa0 pa1 pc0 pc1 s sa0 sa1 sa3 sc0 sc1 sc3 i w hp hT hi hn7 hcl hbl0 h0 h200 hll nr nu bn pn e1 e2 e3 e4 e5 e6 hw hst
    · exact l12Task_onA p pa0 pa1 pc0 pc1 s sa0 sa1 sa3 sc0 sc1 sc3 i w hp hT hi hn7 hcl hbl0 h0 h200 hll nr nu bn pn e1 e2 e3 e4 e5 e6 hw hst
  · by_cases hst : (nth Ta.z s.tasks i).stage = 0
    · exact l12Task_onC p pa0 pa1 pc0 pc1 s sa0 sa1 sa3 sc0 sc1 sc3 i w hp hT hi hn7 hcl hbl0 h0 h200 hll nr nu bn pn e1 e2 e3 e4 e5 e6 hw hst
    · exact l12Task_onD p pa0 pa1 pc0 pc1 s sa0 sa1 sa3 sc0 sc1 sc3 i w hp hT hi hn7 hcl hbl0 h0 h200 hll nr nu bn pn e1 e2 e3 e4 e5 e6 hw hst
theorem mTkB_num {p : Pr} {s : Sy} {i : Nat} (h : mTkB p s i = true) : mNumB p (nth Ta.z s.tasks i) = true := by
  unfold mTkB tkN at h; simp only [Bool.and_eq_true] at h; exact h.1.1
theorem mTkB_stage {p : Pr} {s : Sy} {i : Nat} (h : mTkB p s i = true) : (nth Ta.z s.tasks i).stage = 0 ∨ (nth Ta.z s.tasks i).stage = 1 ∨ (nth Ta.z s.tasks i).stage = 2 ∨ (nth Ta.z s.tasks i).stage = 3 ∨ (nth Ta.z s.tasks i).stage = 4 ∨ (nth Ta.z s.tasks i).stage = 5 := by
  obtain ⟨_, _, _, _, _, _, _, h6⟩ := mNumB_parts (mTkB_num h)
  have : 0 ≤ (nth Ta.z s.tasks i).stage ∧ (nth Ta.z s.tasks i).stage ≤ 5 := by simpa [inB] using h6
  omega
def mHeadB (p : Pr) (s : Sy) : Bool := okB p && decide (s.cells.length = p.cells.length) && inB s.tasks.length 1 7 && inB s.clock 0 200
theorem mSoB_head (p : Pr) (s : Sy) : mSoB p s = (mHeadB p s && ((List.range s.tasks.length).all (mTkB p s) && (mCesB s && mLgB p s))) := by
  unfold mSoB mHeadB; simp only [Bool.and_assoc]
theorem range_not {f : Nat → Bool} {n k : Nat} (hk : k < n) (h : f k = false) : (List.range n).all f = false := by
  rw [List.all_eq_false]; exact ⟨k, by simpa using hk, by simp [h]⟩
theorem range_yes {f : Nat → Bool} {n : Nat} (h : ∀ k, k < n → f k = true) : (List.range n).all f = true := by
  rw [List.all_eq_true]; exact fun k hk => h k (by simpa using hk)
theorem sProgOk_b (p : Pr) (pa0 pa1 : Option Addr) (pc0 pc1 : Nat) {bb : Bool} (w : World) (hp : PrAt w (.slice pa0 p.cells.length pc0) (.slice pa1 p.bodies.length pc1) p) (h : okB p = bb) : Calls Tryz.prog 28 #[.agg #[.slice pa0 p.cells.length pc0, .slice pa1 p.bodies.length pc1]] w fun r w' => r = .returned (.bool bb) ∧ Below w.heap.size w w' := by
  subst h; exact sProgOk_any p _ _ w hp.1 hp.2

set_option maxHeartbeats 2000000 in
theorem sSysOk_any (p : Pr) (pa0 pa1 : Option Addr) (pc0 pc1 : Nat) (s : Sy) (sa0 sa1 sa3 : Option Addr) (sc0 sc1 sc3 : Nat) (w : World) (hp : PrAt w (.slice pa0 p.cells.length pc0) (.slice pa1 p.bodies.length pc1) p) (hS : SyAt w (.slice sa0 s.cells.length sc0) (.slice sa1 s.tasks.length sc1) (.slice sa3 s.log.length sc3) s) (hsm : SmSy s) (hsp : SmallP p) :
    Calls Tryz.prog 8 #[.agg #[.slice pa0 p.cells.length pc0, .slice pa1 p.bodies.length pc1], .agg #[.slice sa0 s.cells.length sc0, .slice sa1 s.tasks.length sc1, .int .i64 s.clock, .slice sa3 s.log.length sc3]] w fun r w' => r = .returned (.bool (mSoB p s)) ∧ Below w.heap.size w w' := by
  have HP := (show Hid (PrAt _ _ _ _) from hp)
  have HS := (show Hid (SyAt _ _ _ _ _) from hS)
  have HSM := (show Hid (SmSy _) from hsm)
  have hcl : s.cells.length ≤ 1048576 := hsm.1
  have htl : s.tasks.length ≤ 1048576 := hsm.2.1.1
  have hll : s.log.length ≤ 1048576 := hsm.2.2.1
  have hbl0 : p.bodies.length ≤ 1048576 := hsp.2.1
  have hpc0 : p.cells.length ≤ 1048576 := hsp.1
  clear hp hS hsm hsp
  cases o1 : okB p
  · have HF : Hid (mSoB p s = false) := by unfold Hid; rw [mSoB_head]; unfold mHeadB; rw [o1]; rfl
    have O1 := (show Hid (_ = _) from o1)
    clear o1
    go_enter Tryz.func8, Tryz.ntmps8
    go_wp2_with fail
    refine (sProgOk_b p _ _ _ _ _ (PrAt.mono HP.out (by repeat (first | with_reducible exact Below.refl _ _ | (with_reducible refine Below.setCell ?_ ?hs _; case hs => ((try simp); try omega)) | (with_reducible refine Below.alloc ?_ ?hs _; case hs => ((try simp); try omega)) | with_reducible refine Below.drew ?_ | with_reducible refine below_drewN ?_ _))) O1.out).mono ?_
    rintro e w1 ⟨rfl, hb1⟩
    have HB1 : Hid (Below w.heap.size w w1) := below_then (by repeat (first | with_reducible exact Below.refl _ _ | (with_reducible refine Below.setCell ?_ ?hs _; case hs => ((try simp); try omega)) | (with_reducible refine Below.alloc ?_ ?hs _; case hs => ((try simp); try omega)) | with_reducible refine Below.drew ?_ | with_reducible refine below_drewN ?_ _)) (by (try simp); try omega) hb1
    clear hb1
    go_wp2_with fail
    go_ret
    exact ⟨by rw [HF.out]; rfl, HB1.out⟩
  have O1 := (show Hid (_ = _) from o1)
  clear o1
  go_enter Tryz.func8, Tryz.ntmps8
  go_wp2_with fail
  refine (sProgOk_b p _ _ _ _ _ (PrAt.mono HP.out (by repeat (first | with_reducible exact Below.refl _ _ | (with_reducible refine Below.setCell ?_ ?hs _; case hs => ((try simp); try omega)) | (with_reducible refine Below.alloc ?_ ?hs _; case hs => ((try simp); try omega)) | with_reducible refine Below.drew ?_ | with_reducible refine below_drewN ?_ _))) O1.out).mono ?_
  rintro e w1 ⟨rfl, hb1⟩
  have HB1 : Hid (Below w.heap.size w w1) := below_then (by repeat (first | with_reducible exact Below.refl _ _ | (with_reducible refine Below.setCell ?_ ?hs _; case hs => ((try simp); try omega)) | (with_reducible refine Below.alloc ?_ ?hs _; case hs => ((try simp); try omega)) | with_reducible refine Below.drew ?_ | with_reducible refine below_drewN ?_ _)) (by (try simp); try omega) hb1
  have x0_1 : w1.cell? ⟨w.heap.size, 0, none⟩ = some (.slice pa0 p.cells.length pc0) := by rw [hb1.cell (p := ⟨w.heap.size, 0, none⟩) (by (try simp); try omega)]; simp [go_sem]
  have x1_1 : w1.cell? ⟨w.heap.size, 1, none⟩ = some (.slice pa1 p.bodies.length pc1) := by rw [hb1.cell (p := ⟨w.heap.size, 1, none⟩) (by (try simp); try omega)]; simp [go_sem]
  have x2_1 : w1.cell? ⟨w.heap.size + 1, 0, none⟩ = some (.slice sa0 s.cells.length sc0) := by rw [hb1.cell (p := ⟨w.heap.size + 1, 0, none⟩) (by (try simp); try omega)]; simp [go_sem]
  have x3_1 : w1.cell? ⟨w.heap.size + 1, 1, none⟩ = some (.slice sa1 s.tasks.length sc1) := by rw [hb1.cell (p := ⟨w.heap.size + 1, 1, none⟩) (by (try simp); try omega)]; simp [go_sem]
  have x4_1 : w1.cell? ⟨w.heap.size + 1, 2, none⟩ = some (.int .i64 s.clock) := by rw [hb1.cell (p := ⟨w.heap.size + 1, 2, none⟩) (by (try simp); try omega)]; simp [go_sem]
  have x5_1 : w1.cell? ⟨w.heap.size + 1, 3, none⟩ = some (.slice sa3 s.log.length sc3) := by rw [hb1.cell (p := ⟨w.heap.size + 1, 3, none⟩) (by (try simp); try omega)]; simp [go_sem]
  have z0_1 : w.heap.size < w1.heap.size := by have := hb1.size; (try simp at this); omega
  have z1_1 : w.heap.size + 1 < w1.heap.size := by have := hb1.size; (try simp at this); omega
  clear hb1
  by_cases hlen : s.cells.length = p.cells.length
  case neg =>
    have hl1 : ((s.cells.length : Int) != (p.cells.length : Int)) = true := by simp; omega
    have hl2 : ¬ (s.cells.length : Int) = (p.cells.length : Int) := by omega
    have HF : Hid (mSoB p s = false) := by unfold Hid; rw [mSoB_head]; unfold mHeadB; rw [decide_eq_false hlen]; simp
    clear hlen
    go_wp2_with fail
    go_ret
    exact ⟨by rw [HF.out]; rfl, HB1.out⟩
  have hl1 : ((s.cells.length : Int) != (p.cells.length : Int)) = false := by simp; omega
  have HLEN := (show Hid (_ = _) from hlen)
  clear hlen
  cases n1 : inB s.tasks.length 1 7
  · have HF : Hid (mSoB p s = false) := by unfold Hid; rw [mSoB_head]; unfold mHeadB; rw [n1]; simp
    have N1 := (show Hid (_ = _) from n1)
    clear n1
    go_wp2_with (go_at_call 29; refine (l6In_b N1.out _).mono ?_; rintro e w' ⟨rfl, hw⟩; have hw := hw.symm; subst hw)
    go_ret
    exact ⟨by rw [HF.out]; rfl, HB1.out⟩
  have N1 := (show Hid (_ = _) from n1)
  have hn7 : s.tasks.length ≤ 7 := by have : 1 ≤ (s.tasks.length : Int) ∧ (s.tasks.length : Int) ≤ 7 := by simpa [inB] using n1
                                      omega
  clear n1
  cases n2 : inB s.clock 0 200
  · have HF : Hid (mSoB p s = false) := by unfold Hid; rw [mSoB_head]; unfold mHeadB; rw [n2]; simp
    have N2 := (show Hid (_ = _) from n2)
    clear n2
    go_wp2_with fail
    refine (l6In_b N1.out _).mono ?_
    rintro e w' ⟨rfl, hw⟩
    have hw := hw.symm
    subst hw
    go_wp2_with fail
    refine (l6In_b N2.out _).mono ?_
    rintro e w' ⟨rfl, hw⟩
    have hw := hw.symm
    subst hw
    go_wp2_with fail
    go_ret
    exact ⟨by rw [HF.out]; rfl, HB1.out⟩
  have N2 := (show Hid (_ = _) from n2)
  have h02 : 0 ≤ s.clock ∧ s.clock ≤ 200 := by simpa [inB] using n2
  obtain ⟨h0, h200⟩ := h02
  clear n2
  have HM : Hid (mHeadB p s = true) := by unfold Hid mHeadB; rw [O1.out, decide_eq_true HLEN.out, N1.out, N2.out]; rfl
  go_wp2_with fail
  refine (l6In_b N1.out _).mono ?_
  rintro e w' ⟨rfl, hw⟩
  have hw := hw.symm
  subst hw
  go_wp2_with fail
  refine (l6In_b N2.out _).mono ?_
  rintro e w' ⟨rfl, hw⟩
  have hw := hw.symm
  subst hw
  go_wp2_with fail

  go_loopw [5] (fun q w' => ∃ k : Nat, k ≤ s.tasks.length ∧ q = .int .i64 k ∧ Below w1.heap.size w1 w' ∧ (∀ j, j < k → mTkB p s j = true)) (fun q _ => s.tasks.length - (intOf q).toNat)
  case atStart => exact ⟨0, Nat.zero_le _, rfl, Below.refl _ _, fun j hj => absurd hj (Nat.not_lt_zero _)⟩
  case round =>
    obtain ⟨k, hk, rfl, hb, hall⟩ := hrel
    have HBW : Hid (Below w.heap.size w wr) := below_then HB1.out HB1.out.size hb
    have x0_2 : wr.cell? ⟨w.heap.size, 0, none⟩ = some (.slice pa0 p.cells.length pc0) := by rw [hb.cell (p := ⟨w.heap.size, 0, none⟩) (by (try simp); try omega)]; exact x0_1
    have x1_2 : wr.cell? ⟨w.heap.size, 1, none⟩ = some (.slice pa1 p.bodies.length pc1) := by rw [hb.cell (p := ⟨w.heap.size, 1, none⟩) (by (try simp); try omega)]; exact x1_1
    have x2_2 : wr.cell? ⟨w.heap.size + 1, 0, none⟩ = some (.slice sa0 s.cells.length sc0) := by rw [hb.cell (p := ⟨w.heap.size + 1, 0, none⟩) (by (try simp); try omega)]; exact x2_1
    have x3_2 : wr.cell? ⟨w.heap.size + 1, 1, none⟩ = some (.slice sa1 s.tasks.length sc1) := by rw [hb.cell (p := ⟨w.heap.size + 1, 1, none⟩) (by (try simp); try omega)]; exact x3_1
    have x4_2 : wr.cell? ⟨w.heap.size + 1, 2, none⟩ = some (.int .i64 s.clock) := by rw [hb.cell (p := ⟨w.heap.size + 1, 2, none⟩) (by (try simp); try omega)]; exact x4_1
    have x5_2 : wr.cell? ⟨w.heap.size + 1, 3, none⟩ = some (.slice sa3 s.log.length sc3) := by rw [hb.cell (p := ⟨w.heap.size + 1, 3, none⟩) (by (try simp); try omega)]; exact x5_1
    have z0_2 : w.heap.size < wr.heap.size := by have := hb.size; (try simp at this); omega
    have z1_2 : w.heap.size + 1 < wr.heap.size := by have := hb.size; (try simp at this); omega
    have HBX := (show Hid (Below _ _ _) from hb)
    clear hb x0_1 x1_1 x2_1 x3_1 x4_1 x5_1 z0_1 z1_1
    by_cases hlt : k < s.tasks.length
    · have hlt' : (k : Int) < (s.tasks.length : Int) := by omega
      have hsmk := HSM.out.2.1.2 k hlt
      have nr := hsmk.2.2.1
      have nu := hsmk.2.2.2
      clear hsmk
      go_wp2_with fail
      refine (l12Task_any p _ _ _ _ s _ _ _ _ _ _ k _ (PrAt.mono HP.out HBW.out) (TasAt.mono HS.out.2.1 HBW.out) hlt hn7 hcl hbl0 h0 h200 hll nr nu).mono ?_
      rintro e w2 ⟨rfl, hb2⟩
      have HB2 : Hid (Below w1.heap.size w1 w2) := below_then HBX.out HBX.out.size hb2
      have HB2w : Hid (Below w.heap.size w w2) := below_then HBW.out HBW.out.size hb2
      clear hb2 x0_2 x1_2 x2_2 x3_2 x4_2 x5_2 z0_2 z1_2
      cases d : mTkB p s k
      · have HF : Hid (mSoB p s = false) := by unfold Hid; rw [mSoB_head, HM.out, range_not hlt d]; rfl
        clear d hall
        go_wp2_with fail
        go_ret
        exact ⟨by rw [HF.out]; rfl, HB2w.out⟩
      · have HA : Hid (∀ j, j < k + 1 → mTkB p s j = true) := so_far hall d
        clear d hall
        go_wp2_with fail
        go_roundw
        case rel => exact ⟨k + 1, by omega, by go_num, HB2.out, HA.out⟩
        case measure => simp [intOf]; omega
    · have hk' : ¬ (k : Int) < (s.tasks.length : Int) := by omega
      have hall' : ∀ j, j < s.tasks.length → mTkB p s j = true := fun j hj => hall j (by omega)
      have HSO : Hid (mSoB p s = (mCesB s && mLgB p s)) := by unfold Hid; rw [mSoB_head, HM.out, range_yes hall']; rfl
      have HA := (show Hid (∀ j, j < s.tasks.length → _) from hall')
      clear hall hall'
      go_wp2_with fail
      refine (l12Cells_any s _ _ _ _ _ _ _ (CesAt.mono HS.out.1 HBW.out) (TasAt.mono HS.out.2.1 HBW.out) hcl htl (fun j hj => ⟨mTkB_stage (HA.out j hj), (HSM.out.2.1.2 j hj).2.2.2⟩)).mono ?_
      rintro e w2 ⟨rfl, hb2⟩
      have x0_3 : w2.cell? ⟨w.heap.size, 0, none⟩ = some (.slice pa0 p.cells.length pc0) := by rw [hb2.cell (p := ⟨w.heap.size, 0, none⟩) (by (try simp); try omega)]; exact x0_2
      have x1_3 : w2.cell? ⟨w.heap.size, 1, none⟩ = some (.slice pa1 p.bodies.length pc1) := by rw [hb2.cell (p := ⟨w.heap.size, 1, none⟩) (by (try simp); try omega)]; exact x1_2
      have x2_3 : w2.cell? ⟨w.heap.size + 1, 0, none⟩ = some (.slice sa0 s.cells.length sc0) := by rw [hb2.cell (p := ⟨w.heap.size + 1, 0, none⟩) (by (try simp); try omega)]; exact x2_2
      have x3_3 : w2.cell? ⟨w.heap.size + 1, 1, none⟩ = some (.slice sa1 s.tasks.length sc1) := by rw [hb2.cell (p := ⟨w.heap.size + 1, 1, none⟩) (by (try simp); try omega)]; exact x3_2
      have x4_3 : w2.cell? ⟨w.heap.size + 1, 2, none⟩ = some (.int .i64 s.clock) := by rw [hb2.cell (p := ⟨w.heap.size + 1, 2, none⟩) (by (try simp); try omega)]; exact x4_2
      have x5_3 : w2.cell? ⟨w.heap.size + 1, 3, none⟩ = some (.slice sa3 s.log.length sc3) := by rw [hb2.cell (p := ⟨w.heap.size + 1, 3, none⟩) (by (try simp); try omega)]; exact x5_2
      have z0_3 : w.heap.size < w2.heap.size := by have := hb2.size; (try simp at this); omega
      have z1_3 : w.heap.size + 1 < w2.heap.size := by have := hb2.size; (try simp at this); omega
      have HB2 : Hid (Below w.heap.size w w2) := below_then HBW.out HBW.out.size hb2
      clear hb2 x0_2 x1_2 x2_2 x3_2 x4_2 x5_2 z0_2 z1_2
      cases d : mCesB s
      · have HF : Hid (mSoB p s = false) := by unfold Hid; rw [HSO.out, d]; rfl
        clear d
        go_wp2_with fail
        go_ret
        exact ⟨by rw [HF.out]; rfl, HB2.out⟩
      have HF : Hid (mSoB p s = mLgB p s) := by unfold Hid; rw [HSO.out, d]; rfl
      have D := (show Hid (_ = _) from d)
      clear d
      go_wp2_with fail
      refine (l12Log_any p _ _ _ _ s _ _ _ _ _ _ _ (PrAt.mono HP.out HB2.out) (TasAt.mono HS.out.2.1 HB2.out) (EnsAt.mono HS.out.2.2 HB2.out) hcl htl (fun j hj => by obtain ⟨bn, _, e1, e2, _⟩ := mNumB_parts (mTkB_num (HA.out j hj)); exact ⟨bn, e1, e2⟩)).mono ?_
      rintro e w3 ⟨rfl, hb3⟩
      have HB3 : Hid (Below w.heap.size w w3) := below_then HB2.out HB2.out.size hb3
      clear hb3 x0_3 x1_3 x2_3 x3_3 x4_3 x5_3 z0_3 z1_3
      go_wp2_with fail
      go_ret
      exact ⟨by rw [HF.out]; rfl, HB3.out⟩

end Go.Proofs.YtdgihncobihbgaaGreat
