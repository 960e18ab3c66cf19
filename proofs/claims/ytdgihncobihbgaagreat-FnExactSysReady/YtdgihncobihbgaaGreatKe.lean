/-
  The walk of FnExactSysReady (by mkk13.py).
-/
import Derived.Test.YtdgihncobihbgaaGreatJ8
import Derived.Test.YtdgihncobihbgaaGreatZ7
import Derived.Test.YtdgihncobihbgaaGreatJ4
import Derived.Deep.DeepCutAuto
namespace Go.Proofs.YtdgihncobihbgaaGreat
open Go.RowKit
set_option linter.unusedSimpArgs false
set_option linter.unusedVariables false
set_option maxRecDepth 20000

theorem readyL_len (p : Pr) (s : Sy) : (readyL p s).length ≤ 7 := by
  unfold readyL
  cases h : mSoB p s
  · simp
  · simp only [if_true]
    exact Nat.le_trans (plN_len _ _) (mSoB_n7 h)
theorem prSh_of {w w' : World} {cv bv : Value} {p : Pr} (h : PrOn (fun b => w.heap.size ≤ b) w' cv bv p) (hz : Fz w w') (hs : SmallP p) :
    ∃ M, RowSh 1 w' cv ∧ BodiesSh w' bv M ∧ (∀ a, a ∈ mtP cv M → w.heap.size ≤ a.block) ∧ (mtP cv M).length ≤ 4611688217451692032 := by
  have hf : ∀ b o, w.heap.size ≤ b → w'.frozen? ⟨b, o, none⟩ = false := fun b o hb => hz.new hb o
  obtain ⟨k1, k2, k3⟩ := h.1.sh hf
  obtain ⟨M, l1, l2, l3⟩ := h.2.sh hf ⟨hs.2.1, hs.2.2⟩
  refine ⟨M, k1, l1, fun a ha => ?_, ?_⟩
  · rcases List.mem_append.1 ha with h | h
    · exact k2 a h
    · exact l2 a h
  · have h1 := hs.1
    have h2 := hs.2.1
    have h4 : p.bodies.length * (1048576 * 4194306) ≤ 1048576 * (1048576 * 4194306) := Nat.mul_le_mul_right _ h2
    simp only [mtP, List.length_append]
    omega
theorem prSh_ic {w : World} {cv bv : Value} {M : List (Value × List (Value × Value))} (h1 : RowSh 1 w cv) (h2 : BodiesSh w bv M) : ∀ a, a ∈ mtP cv M → ICell w a := fun a ha => by
  rcases List.mem_append.1 ha with h | h
  · exact (h1.trail a h).1
  · exact (h2.part (Nat.le_refl _) a h).1
theorem prSh_lt {w : World} {cv bv : Value} {M : List (Value × List (Value × Value))} (h1 : RowSh 1 w cv) (h2 : BodiesSh w bv M) : ∀ a, a ∈ mtP cv M → a.block < w.heap.size := fun a ha => by
  rcases List.mem_append.1 ha with h | h
  · exact (h1.trail a h).2
  · exact (h2.part (Nat.le_refl _) a h).2

set_option maxHeartbeats 4000000 in
theorem exactSysReady_walk (p : Pr) (pv0 pv1 : Value) (s : Sy) (sv0 sv1 sv3 : Value) (w : World) (hP : PrAt w pv0 pv1 p) (hS : SyAt w sv0 sv1 sv3 s) :
    Calls Tryz.prog 4 #[.agg #[pv0, pv1], .agg #[sv0, sv1, .int .i64 s.clock, sv3]] w fun r w' => r = .returned (.bool true) ∧ Below w.heap.size w w' := by
  obtain ⟨aPa0, aPc0, rfl, _⟩ := (hP.1).shape
  obtain ⟨aPa1, aPc1, rfl, _⟩ := (hP.2).shape
  have HP := (show Hid (PrAt _ _ _ _) from hP)
  clear hP
  obtain ⟨aSa0, aSc0, rfl, _⟩ := (hS.1).shape
  obtain ⟨aSa1, aSc1, rfl, _⟩ := (hS.2.1).shape
  obtain ⟨aSa3, aSc3, rfl, _⟩ := (hS.2.2).shape
  have HS := (show Hid (SyAt _ _ _ _ _) from hS)
  clear hS
  obtain ⟨R, hR⟩ : ∃ R, R = readyL p s := ⟨_, rfl⟩
  have HRR := (show Hid (_ = _) from hR)
  clear hR
  go_enter Tryz.func4, Tryz.ntmps4
  go_wp2_with fail
  refine (szProg_th p _ _ 1048576 _ (by exact IntsAt.mono (HP.out.1) (by repeat (first | with_reducible exact Below.refl _ _ | (with_reducible refine Below.setCell ?_ ?hs _; case hs => ((try simp); try omega)) | (with_reducible refine Below.alloc ?_ ?hs _; case hs => ((try simp); try omega)) | with_reducible refine Below.drew ?_ | with_reducible refine below_drewN ?_ _))) (by exact BodiesAt.mono (HP.out.2) (by repeat (first | with_reducible exact Below.refl _ _ | (with_reducible refine Below.setCell ?_ ?hs _; case hs => ((try simp); try omega)) | (with_reducible refine Below.alloc ?_ ?hs _; case hs => ((try simp); try omega)) | with_reducible refine Below.drew ?_ | with_reducible refine below_drewN ?_ _))) (by omega) (by omega)).mono ?_
  rintro e w1 ⟨q1, rfl, l1, ul1, s1, hb1⟩
  have eaP0_1 : w1.cell? ⟨w.heap.size, 0, none⟩ = some (.slice aPa0 p.cells.length aPc0) := by rw [hb1.cell (p := ⟨w.heap.size, 0, none⟩) (by (try simp); try omega)]; simp [go_sem]
  have eaP1_1 : w1.cell? ⟨w.heap.size, 1, none⟩ = some (.slice aPa1 p.bodies.length aPc1) := by rw [hb1.cell (p := ⟨w.heap.size, 1, none⟩) (by (try simp); try omega)]; simp [go_sem]
  have zaP_1 : w.heap.size < w1.heap.size := by have := hb1.size; (try simp at this); omega
  have eaS0_1 : w1.cell? ⟨w.heap.size + 1, 0, none⟩ = some (.slice aSa0 s.cells.length aSc0) := by rw [hb1.cell (p := ⟨w.heap.size + 1, 0, none⟩) (by (try simp); try omega)]; simp [go_sem]
  have eaS1_1 : w1.cell? ⟨w.heap.size + 1, 1, none⟩ = some (.slice aSa1 s.tasks.length aSc1) := by rw [hb1.cell (p := ⟨w.heap.size + 1, 1, none⟩) (by (try simp); try omega)]; simp [go_sem]
  have eaS2_1 : w1.cell? ⟨w.heap.size + 1, 2, none⟩ = some (.int .i64 s.clock) := by rw [hb1.cell (p := ⟨w.heap.size + 1, 2, none⟩) (by (try simp); try omega)]; simp [go_sem]
  have eaS3_1 : w1.cell? ⟨w.heap.size + 1, 3, none⟩ = some (.slice aSa3 s.log.length aSc3) := by rw [hb1.cell (p := ⟨w.heap.size + 1, 3, none⟩) (by (try simp); try omega)]; simp [go_sem]
  have zaS_1 : w.heap.size + 1 < w1.heap.size := by have := hb1.size; (try simp at this); omega
  have HB1 : Hid (Below w.heap.size w w1) := below_then (by repeat (first | with_reducible exact Below.refl _ _ | (with_reducible refine Below.setCell ?_ ?hs _; case hs => ((try simp); try omega)) | (with_reducible refine Below.alloc ?_ ?hs _; case hs => ((try simp); try omega)) | with_reducible refine Below.drew ?_ | with_reducible refine below_drewN ?_ _)) (by (try simp); try omega) hb1
  clear hb1
  by_cases g1 : q1 < 0
  · clear s1
    go_wp2_with fail
    go_ret
    exact ⟨rfl, HB1.out⟩
  have HSMP := (show Hid (SmallP _) from s1 (by omega))
  clear s1
  go_wp2_with fail
  refine (szSys_th s _ _ _ q1 _ (by exact CesAt.mono (HS.out.1) HB1.out) (by exact TasAt.mono (HS.out.2.1) HB1.out) (by exact EnsAt.mono (HS.out.2.2) HB1.out) (by omega) (by omega)).mono ?_
  rintro e w2 ⟨q2, rfl, l2, ul2, s2, hb2⟩
  have eaP0_2 : w2.cell? ⟨w.heap.size, 0, none⟩ = some (.slice aPa0 p.cells.length aPc0) := by rw [hb2.cell (p := ⟨w.heap.size, 0, none⟩) (by (try simp); try omega)]; exact eaP0_1
  have eaP1_2 : w2.cell? ⟨w.heap.size, 1, none⟩ = some (.slice aPa1 p.bodies.length aPc1) := by rw [hb2.cell (p := ⟨w.heap.size, 1, none⟩) (by (try simp); try omega)]; exact eaP1_1
  have zaP_2 : w.heap.size < w2.heap.size := by have := hb2.size; (try simp at this); omega
  have eaS0_2 : w2.cell? ⟨w.heap.size + 1, 0, none⟩ = some (.slice aSa0 s.cells.length aSc0) := by rw [hb2.cell (p := ⟨w.heap.size + 1, 0, none⟩) (by (try simp); try omega)]; exact eaS0_1
  have eaS1_2 : w2.cell? ⟨w.heap.size + 1, 1, none⟩ = some (.slice aSa1 s.tasks.length aSc1) := by rw [hb2.cell (p := ⟨w.heap.size + 1, 1, none⟩) (by (try simp); try omega)]; exact eaS1_1
  have eaS2_2 : w2.cell? ⟨w.heap.size + 1, 2, none⟩ = some (.int .i64 s.clock) := by rw [hb2.cell (p := ⟨w.heap.size + 1, 2, none⟩) (by (try simp); try omega)]; exact eaS2_1
  have eaS3_2 : w2.cell? ⟨w.heap.size + 1, 3, none⟩ = some (.slice aSa3 s.log.length aSc3) := by rw [hb2.cell (p := ⟨w.heap.size + 1, 3, none⟩) (by (try simp); try omega)]; exact eaS3_1
  have zaS_2 : w.heap.size + 1 < w2.heap.size := by have := hb2.size; (try simp at this); omega
  have HB2 : Hid (Below w.heap.size w w2) := below_then HB1.out HB1.out.size hb2
  clear hb2
  clear eaP0_1 eaP1_1 eaS0_1 eaS1_1 eaS2_1 eaS3_1 zaP_1 zaS_1
  clear HB1 
  by_cases g2 : q2 < 0
  · clear s2
    go_wp2_with fail
    go_ret
    exact ⟨rfl, HB2.out⟩
  have HSMS := (show Hid (SmSy _) from s2 (by omega))
  clear s2
  have hq2 : ¬ (q2 : Int) < 0 := by omega
  go_wp2_with fail
  have HCP := (show Hid (PrAt w2.drew (.slice aPa0 p.cells.length aPc0) (.slice aPa1 p.bodies.length aPc1) p) from PrAt.mono HP.out HB2.out.drew)
  have HCS := (show Hid (SyAt w2.drew (.slice aSa0 s.cells.length aSc0) (.slice aSa1 s.tasks.length aSc1) (.slice aSa3 s.log.length aSc3) s) from SyAt.mono HS.out HB2.out.drew)
  go_cut [6] (fun sx wx => ∃ xa xc, sx = .slice xa R.length xc ∧ OwnInt w2.heap.size wx (.slice xa R.length xc) R ∧ Below w2.heap.size w2 wx)
  case first =>
    go_region_with (first | (go_at_call 9; refine (toProg_th' p _ _ _ HCP.out HSMP.out).mono ?_; rintro e wx1 ⟨tPv0, tPv1, rfl, ho1, hb1, hz1⟩; obtain ⟨tPa0, tPc0, rfl, _⟩ := (ho1.1).shape; obtain ⟨tPa1, tPc1, rfl, _⟩ := (ho1.2).shape; have y0 : wx1.cell? ⟨w.heap.size + 1, 0, none⟩ = some (.slice aSa0 s.cells.length aSc0) := (hb1.cell (p := ⟨w.heap.size + 1, 0, none⟩) zaS_2).trans eaS0_2; have y1 : wx1.cell? ⟨w.heap.size + 1, 1, none⟩ = some (.slice aSa1 s.tasks.length aSc1) := (hb1.cell (p := ⟨w.heap.size + 1, 1, none⟩) zaS_2).trans eaS1_2; have y2 : wx1.cell? ⟨w.heap.size + 1, 2, none⟩ = some (.int .i64 s.clock) := (hb1.cell (p := ⟨w.heap.size + 1, 2, none⟩) zaS_2).trans eaS2_2; have y3 : wx1.cell? ⟨w.heap.size + 1, 3, none⟩ = some (.slice aSa3 s.log.length aSc3) := (hb1.cell (p := ⟨w.heap.size + 1, 3, none⟩) zaS_2).trans eaS3_2) | (go_at_call 10; refine (toSys_th' s _ _ _ _ (SyAt.mono HCS.out hb1) HSMS.out).mono ?_; rintro e wx2 ⟨tSv0, tSv1, tSv3, rfl, ho2, hb2, hz2⟩; obtain ⟨tSa0, tSc0, rfl, _⟩ := (ho2.1).shape; obtain ⟨tSa1, tSc1, rfl, _⟩ := (ho2.2.1).shape; obtain ⟨tSa3, tSc3, rfl, _⟩ := (ho2.2.2).shape) | (go_at_call 14; refine (sSysReady_any p _ _ _ _ s _ _ _ _ _ _ _ (PrAt.mono ho1.at hb2) ho2.at HSMS.out HSMP.out).mono ?_; rintro e wx3 ⟨rv, rfl, ho3, hb3⟩; rw [← HRR.out] at ho3; obtain ⟨ra, rc, rfl, _⟩ := own_shape ho3))
    all_goals
      have hb : Below w2.heap.size w2 wx3 := below_then (below_then (((Below.refl _ _).drew).trans hb1) hb1.size hb2) (Nat.le_trans hb1.size hb2.size) hb3
      have HQ := (show Hid (OwnInt w2.heap.size wx3 _ R ∧ Below w2.heap.size w2 wx3) from ⟨own_base ho3 (Nat.le_trans hb1.size hb2.size), hb⟩)
      clear hb hb1 hb2 hb3 ho1 ho2 ho3 hz1 hz2 HCP HCS y0 y1 y2 y3
      go_wp2_with fail
      go_meet
      exact ⟨_, _, rfl, HQ.out.1, HQ.out.2⟩
  case rest =>
  obtain ⟨sa, sc, rfl, hown, hb⟩ := hcut
  obtain ⟨w3, hwc⟩ : ∃ w3 : World, w3 = wc := ⟨_, rfl⟩
  subst hwc
  clear HCP HCS
  have eaP0_3 : w3.cell? ⟨w.heap.size, 0, none⟩ = some (.slice aPa0 p.cells.length aPc0) := by rw [hb.cell (p := ⟨w.heap.size, 0, none⟩) (by (try simp); try omega)]; exact eaP0_2
  have eaP1_3 : w3.cell? ⟨w.heap.size, 1, none⟩ = some (.slice aPa1 p.bodies.length aPc1) := by rw [hb.cell (p := ⟨w.heap.size, 1, none⟩) (by (try simp); try omega)]; exact eaP1_2
  have zaP_3 : w.heap.size < w3.heap.size := by have := hb.size; (try simp at this); omega
  have eaS0_3 : w3.cell? ⟨w.heap.size + 1, 0, none⟩ = some (.slice aSa0 s.cells.length aSc0) := by rw [hb.cell (p := ⟨w.heap.size + 1, 0, none⟩) (by (try simp); try omega)]; exact eaS0_2
  have eaS1_3 : w3.cell? ⟨w.heap.size + 1, 1, none⟩ = some (.slice aSa1 s.tasks.length aSc1) := by rw [hb.cell (p := ⟨w.heap.size + 1, 1, none⟩) (by (try simp); try omega)]; exact eaS1_2
  have eaS2_3 : w3.cell? ⟨w.heap.size + 1, 2, none⟩ = some (.int .i64 s.clock) := by rw [hb.cell (p := ⟨w.heap.size + 1, 2, none⟩) (by (try simp); try omega)]; exact eaS2_2
  have eaS3_3 : w3.cell? ⟨w.heap.size + 1, 3, none⟩ = some (.slice aSa3 s.log.length aSc3) := by rw [hb.cell (p := ⟨w.heap.size + 1, 3, none⟩) (by (try simp); try omega)]; exact eaS3_2
  have zaS_3 : w.heap.size + 1 < w3.heap.size := by have := hb.size; (try simp at this); omega
  have HB3 : Hid (Below w.heap.size w w3) := below_then HB2.out HB2.out.size hb
  have HS_3 := (show Hid (OwnInt w.heap.size w3 _ R) from own_base hown HB2.out.size)
  have HLS : Hid (∀ g, (Value.slice sa R.length sc).ownBlock = some g → g < w3.heap.size) := fun g hg => (hown.lt g hg).2
  clear hown hb
  clear eaP0_2 eaP1_2 eaS0_2 eaS1_2 eaS2_2 eaS3_2 zaP_2 zaS_2
  clear HB2 
  have h03 : w.heap.size ≤ w3.heap.size := HB3.out.size
  have h03b : w.heap.size + 1 < w3.heap.size := zaS_3
  go_wp2_with fail
  refine (toProg_th' p _ _ _ (PrAt.mono HP.out HB3.out) HSMP.out).mono ?_
  rintro e w4 ⟨xPv0, xPv1, rfl, ho, hb, hz⟩
  obtain ⟨xPa0, xPc0, rfl, _⟩ := (ho.1).shape
  obtain ⟨xPa1, xPc1, rfl, _⟩ := (ho.2).shape
  have eaP0_4 : w4.cell? ⟨w.heap.size, 0, none⟩ = some (.slice aPa0 p.cells.length aPc0) := by rw [hb.cell (p := ⟨w.heap.size, 0, none⟩) (by (try simp); try omega)]; exact eaP0_3
  have eaP1_4 : w4.cell? ⟨w.heap.size, 1, none⟩ = some (.slice aPa1 p.bodies.length aPc1) := by rw [hb.cell (p := ⟨w.heap.size, 1, none⟩) (by (try simp); try omega)]; exact eaP1_3
  have zaP_4 : w.heap.size < w4.heap.size := by have := hb.size; (try simp at this); omega
  have eaS0_4 : w4.cell? ⟨w.heap.size + 1, 0, none⟩ = some (.slice aSa0 s.cells.length aSc0) := by rw [hb.cell (p := ⟨w.heap.size + 1, 0, none⟩) (by (try simp); try omega)]; exact eaS0_3
  have eaS1_4 : w4.cell? ⟨w.heap.size + 1, 1, none⟩ = some (.slice aSa1 s.tasks.length aSc1) := by rw [hb.cell (p := ⟨w.heap.size + 1, 1, none⟩) (by (try simp); try omega)]; exact eaS1_3
  have eaS2_4 : w4.cell? ⟨w.heap.size + 1, 2, none⟩ = some (.int .i64 s.clock) := by rw [hb.cell (p := ⟨w.heap.size + 1, 2, none⟩) (by (try simp); try omega)]; exact eaS2_3
  have eaS3_4 : w4.cell? ⟨w.heap.size + 1, 3, none⟩ = some (.slice aSa3 s.log.length aSc3) := by rw [hb.cell (p := ⟨w.heap.size + 1, 3, none⟩) (by (try simp); try omega)]; exact eaS3_3
  have zaS_4 : w.heap.size + 1 < w4.heap.size := by have := hb.size; (try simp at this); omega
  have HB4 : Hid (Below w.heap.size w w4) := below_then HB3.out HB3.out.size hb
  have HS_4 := (show Hid (OwnInt w.heap.size w4 _ R) from own_below HS_3.out hb (Nat.le_refl _))
  have HXP4 := (show Hid (PrAt w4 _ _ _) from ho.at)
  obtain ⟨MP, k1, k2, k3, k4⟩ := prSh_of ho hz HSMP.out
  have HYP4 := (show Hid (RowSh 1 w4 _ ∧ BodiesSh w4 _ MP) from ⟨k1, k2⟩)
  have HRP : Hid (∀ a, a ∈ mtP _ MP → w3.heap.size ≤ a.block ∧ a.block < w4.heap.size) := fun a ha => ⟨k3 a ha, prSh_lt k1 k2 a ha⟩
  have hlP := k4
  have h34 := hb.size
  clear ho hz hb k1 k2 k3 k4
  clear eaP0_3 eaP1_3 eaS0_3 eaS1_3 eaS2_3 eaS3_3 zaP_3 zaS_3
  clear HB3 HS_3
  go_wp2_with fail
  refine (toSys_th' s _ _ _ _ (by exact SyAt.mono HS.out (by repeat (first | with_reducible exact HB4.out | (with_reducible refine Below.setCell ?_ ?hs _; case hs => ((try simp); try omega)) | (with_reducible refine Below.alloc ?_ ?hs _; case hs => ((try simp); try omega)) | with_reducible refine Below.drew ?_ | with_reducible refine below_drewN ?_ _))) HSMS.out).mono ?_
  rintro e w5 ⟨xSv0, xSv1, xSv3, rfl, ho, hb, hz⟩
  obtain ⟨xSa0, xSc0, rfl, _⟩ := (ho.1).shape
  obtain ⟨xSa1, xSc1, rfl, _⟩ := (ho.2.1).shape
  obtain ⟨xSa3, xSc3, rfl, _⟩ := (ho.2.2).shape
  have hr : Below w4.heap.size w4 w5 := below_then (by repeat (first | with_reducible exact Below.refl _ _ | (with_reducible refine Below.setCell ?_ ?hs _; case hs => ((try simp); try omega)) | (with_reducible refine Below.alloc ?_ ?hs _; case hs => ((try simp); try omega)) | with_reducible refine Below.drew ?_ | with_reducible refine below_drewN ?_ _)) (by (try simp); try omega) hb
  have eaP0_5 : w5.cell? ⟨w.heap.size, 0, none⟩ = some (.slice aPa0 p.cells.length aPc0) := by rw [hr.cell (p := ⟨w.heap.size, 0, none⟩) (by (try simp); try omega)]; exact eaP0_4
  have eaP1_5 : w5.cell? ⟨w.heap.size, 1, none⟩ = some (.slice aPa1 p.bodies.length aPc1) := by rw [hr.cell (p := ⟨w.heap.size, 1, none⟩) (by (try simp); try omega)]; exact eaP1_4
  have zaP_5 : w.heap.size < w5.heap.size := by have := hr.size; (try simp at this); omega
  have eaS0_5 : w5.cell? ⟨w.heap.size + 1, 0, none⟩ = some (.slice aSa0 s.cells.length aSc0) := by rw [hr.cell (p := ⟨w.heap.size + 1, 0, none⟩) (by (try simp); try omega)]; exact eaS0_4
  have eaS1_5 : w5.cell? ⟨w.heap.size + 1, 1, none⟩ = some (.slice aSa1 s.tasks.length aSc1) := by rw [hr.cell (p := ⟨w.heap.size + 1, 1, none⟩) (by (try simp); try omega)]; exact eaS1_4
  have eaS2_5 : w5.cell? ⟨w.heap.size + 1, 2, none⟩ = some (.int .i64 s.clock) := by rw [hr.cell (p := ⟨w.heap.size + 1, 2, none⟩) (by (try simp); try omega)]; exact eaS2_4
  have eaS3_5 : w5.cell? ⟨w.heap.size + 1, 3, none⟩ = some (.slice aSa3 s.log.length aSc3) := by rw [hr.cell (p := ⟨w.heap.size + 1, 3, none⟩) (by (try simp); try omega)]; exact eaS3_4
  have zaS_5 : w.heap.size + 1 < w5.heap.size := by have := hr.size; (try simp at this); omega
  have exP0_5 : w5.cell? ⟨w4.heap.size, 0, none⟩ = some (.slice xPa0 p.cells.length xPc0) := by rw [hb.cell (p := ⟨w4.heap.size, 0, none⟩) (by (try simp); try omega)]; simp [go_sem]
  have exP1_5 : w5.cell? ⟨w4.heap.size, 1, none⟩ = some (.slice xPa1 p.bodies.length xPc1) := by rw [hb.cell (p := ⟨w4.heap.size, 1, none⟩) (by (try simp); try omega)]; simp [go_sem]
  have zxP_5 : w4.heap.size < w5.heap.size := by have := hb.size; (try simp at this); omega
  have HB5 : Hid (Below w.heap.size w w5) := below_then HB4.out HB4.out.size hr
  have HS_5 := (show Hid (OwnInt w.heap.size w5 _ R) from own_below HS_4.out hr (Nat.le_refl _))
  have HXP5 := (show Hid (PrAt w5 _ _ _) from PrAt.mono HXP4.out hr)
  have HYP5 := (show Hid (RowSh 1 w5 _ ∧ BodiesSh w5 _ MP) from ⟨HYP4.out.1.set (IntSet.below hr), HYP4.out.2.set (IntSet.below hr)⟩)
  have HXS5 := (show Hid (SyAt w5 _ _ _ _) from ho.at)
  obtain ⟨MT, ME, k1, k2, k3, k4, k5⟩ := sySh_of ho hz HSMS.out
  have HYS5 := (show Hid (RowSh 3 w5 _ ∧ TasSh w5 _ MT ∧ EnsSh w5 _ ME) from ⟨k1, k2, k3⟩)
  have HRS : Hid (∀ a, a ∈ mtSy _ _ _ MT ME → w4.heap.size + 1 ≤ a.block ∧ a.block < w5.heap.size) := fun a ha => ⟨Nat.le_trans (by (try simp); try omega) (k4 a ha), sySh_lt k1 k2 k3 a ha⟩
  have hlS := k5
  have h45 := hr.size
  clear ho hz hb hr k1 k2 k3 k4 k5
  clear eaP0_4 eaP1_4 eaS0_4 eaS1_4 eaS2_4 eaS3_4 zaP_4 zaS_4
  clear HB4 HS_4 HXP4 HYP4
  go_wp2_with fail
  refine (sysReady_any p _ _ _ _ s _ _ _ _ _ _ _ (by exact PrAt.mono HXP5.out (by repeat (first | with_reducible exact Below.refl _ _ | (with_reducible refine Below.setCell ?_ ?hs _; case hs => ((try simp); try omega)) | (with_reducible refine Below.alloc ?_ ?hs _; case hs => ((try simp); try omega)) | with_reducible refine Below.drew ?_ | with_reducible refine below_drewN ?_ _))) (by exact SyAt.mono HXS5.out (by repeat (first | with_reducible exact Below.refl _ _ | (with_reducible refine Below.setCell ?_ ?hs _; case hs => ((try simp); try omega)) | (with_reducible refine Below.alloc ?_ ?hs _; case hs => ((try simp); try omega)) | with_reducible refine Below.drew ?_ | with_reducible refine below_drewN ?_ _))) HSMS.out HSMP.out).mono ?_
  rintro e w6 ⟨gv, rfl, hg, hb⟩
  rw [← HRR.out] at hg
  obtain ⟨ga, gc, rfl, _⟩ := own_shape hg
  have hr : Below w5.heap.size w5 w6 := below_then (by repeat (first | with_reducible exact Below.refl _ _ | (with_reducible refine Below.setCell ?_ ?hs _; case hs => ((try simp); try omega)) | (with_reducible refine Below.alloc ?_ ?hs _; case hs => ((try simp); try omega)) | with_reducible refine Below.drew ?_ | with_reducible refine below_drewN ?_ _)) (by (try simp); try omega) hb
  have eaP0_6 : w6.cell? ⟨w.heap.size, 0, none⟩ = some (.slice aPa0 p.cells.length aPc0) := by rw [hr.cell (p := ⟨w.heap.size, 0, none⟩) (by (try simp); try omega)]; exact eaP0_5
  have eaP1_6 : w6.cell? ⟨w.heap.size, 1, none⟩ = some (.slice aPa1 p.bodies.length aPc1) := by rw [hr.cell (p := ⟨w.heap.size, 1, none⟩) (by (try simp); try omega)]; exact eaP1_5
  have zaP_6 : w.heap.size < w6.heap.size := by have := hr.size; (try simp at this); omega
  have eaS0_6 : w6.cell? ⟨w.heap.size + 1, 0, none⟩ = some (.slice aSa0 s.cells.length aSc0) := by rw [hr.cell (p := ⟨w.heap.size + 1, 0, none⟩) (by (try simp); try omega)]; exact eaS0_5
  have eaS1_6 : w6.cell? ⟨w.heap.size + 1, 1, none⟩ = some (.slice aSa1 s.tasks.length aSc1) := by rw [hr.cell (p := ⟨w.heap.size + 1, 1, none⟩) (by (try simp); try omega)]; exact eaS1_5
  have eaS2_6 : w6.cell? ⟨w.heap.size + 1, 2, none⟩ = some (.int .i64 s.clock) := by rw [hr.cell (p := ⟨w.heap.size + 1, 2, none⟩) (by (try simp); try omega)]; exact eaS2_5
  have eaS3_6 : w6.cell? ⟨w.heap.size + 1, 3, none⟩ = some (.slice aSa3 s.log.length aSc3) := by rw [hr.cell (p := ⟨w.heap.size + 1, 3, none⟩) (by (try simp); try omega)]; exact eaS3_5
  have zaS_6 : w.heap.size + 1 < w6.heap.size := by have := hr.size; (try simp at this); omega
  have exP0_6 : w6.cell? ⟨w4.heap.size, 0, none⟩ = some (.slice xPa0 p.cells.length xPc0) := by rw [hr.cell (p := ⟨w4.heap.size, 0, none⟩) (by (try simp); try omega)]; exact exP0_5
  have exP1_6 : w6.cell? ⟨w4.heap.size, 1, none⟩ = some (.slice xPa1 p.bodies.length xPc1) := by rw [hr.cell (p := ⟨w4.heap.size, 1, none⟩) (by (try simp); try omega)]; exact exP1_5
  have zxP_6 : w4.heap.size < w6.heap.size := by have := hr.size; (try simp at this); omega
  have exS0_6 : w6.cell? ⟨w5.heap.size, 0, none⟩ = some (.slice xSa0 s.cells.length xSc0) := by rw [hb.cell (p := ⟨w5.heap.size, 0, none⟩) (by (try simp); try omega)]; simp [go_sem]
  have exS1_6 : w6.cell? ⟨w5.heap.size, 1, none⟩ = some (.slice xSa1 s.tasks.length xSc1) := by rw [hb.cell (p := ⟨w5.heap.size, 1, none⟩) (by (try simp); try omega)]; simp [go_sem]
  have exS2_6 : w6.cell? ⟨w5.heap.size, 2, none⟩ = some (.int .i64 s.clock) := by rw [hb.cell (p := ⟨w5.heap.size, 2, none⟩) (by (try simp); try omega)]; simp [go_sem]
  have exS3_6 : w6.cell? ⟨w5.heap.size, 3, none⟩ = some (.slice xSa3 s.log.length xSc3) := by rw [hb.cell (p := ⟨w5.heap.size, 3, none⟩) (by (try simp); try omega)]; simp [go_sem]
  have zxS_6 : w5.heap.size < w6.heap.size := by have := hb.size; (try simp at this); omega
  have HB6 : Hid (Below w.heap.size w w6) := below_then HB5.out HB5.out.size hr
  have HS_6 := (show Hid (OwnInt w.heap.size w6 _ R) from own_below HS_5.out hr (Nat.le_refl _))
  have HXP6 := (show Hid (PrAt w6 _ _ _) from PrAt.mono HXP5.out hr)
  have HYP6 := (show Hid (RowSh 1 w6 _ ∧ BodiesSh w6 _ MP) from ⟨HYP5.out.1.set (IntSet.below hr), HYP5.out.2.set (IntSet.below hr)⟩)
  have HXS6 := (show Hid (SyAt w6 _ _ _ _) from SyAt.mono HXS5.out hr)
  have HYS6 := (show Hid (RowSh 3 w6 _ ∧ TasSh w6 _ MT ∧ EnsSh w6 _ ME) from ⟨HYS5.out.1.set (IntSet.below hr), HYS5.out.2.1.set (IntSet.below hr), HYS5.out.2.2.set (IntSet.below hr)⟩)
  have HG6 := (show Hid (OwnInt w.heap.size w6 _ R) from own_base hg (by have := HB5.out.size; (try simp); omega))
  have HLG : Hid (∀ g, (Value.slice ga R.length gc).ownBlock = some g → w5.heap.size + 1 ≤ g) := fun g hg2 => by have := (hg.lt g hg2).1; (try simp at this); omega
  clear hg hb hr
  clear eaP0_5 eaP1_5 eaS0_5 eaS1_5 eaS2_5 eaS3_5 exP0_5 exP1_5 zaP_5 zaS_5 zxP_5
  clear HB5 HS_5 HXP5 HYP5 HXS5 HYS5
  go_wp2_with fail
  refine (eqIntS_same _ _ R _ HG6.out.at HS_6.out.at).mono ?_
  rintro e w7 ⟨rfl, hb⟩
  have eaP0_7 : w7.cell? ⟨w.heap.size, 0, none⟩ = some (.slice aPa0 p.cells.length aPc0) := by rw [hb.cell (p := ⟨w.heap.size, 0, none⟩) (by (try simp); try omega)]; exact eaP0_6
  have eaP1_7 : w7.cell? ⟨w.heap.size, 1, none⟩ = some (.slice aPa1 p.bodies.length aPc1) := by rw [hb.cell (p := ⟨w.heap.size, 1, none⟩) (by (try simp); try omega)]; exact eaP1_6
  have zaP_7 : w.heap.size < w7.heap.size := by have := hb.size; (try simp at this); omega
  have eaS0_7 : w7.cell? ⟨w.heap.size + 1, 0, none⟩ = some (.slice aSa0 s.cells.length aSc0) := by rw [hb.cell (p := ⟨w.heap.size + 1, 0, none⟩) (by (try simp); try omega)]; exact eaS0_6
  have eaS1_7 : w7.cell? ⟨w.heap.size + 1, 1, none⟩ = some (.slice aSa1 s.tasks.length aSc1) := by rw [hb.cell (p := ⟨w.heap.size + 1, 1, none⟩) (by (try simp); try omega)]; exact eaS1_6
  have eaS2_7 : w7.cell? ⟨w.heap.size + 1, 2, none⟩ = some (.int .i64 s.clock) := by rw [hb.cell (p := ⟨w.heap.size + 1, 2, none⟩) (by (try simp); try omega)]; exact eaS2_6
  have eaS3_7 : w7.cell? ⟨w.heap.size + 1, 3, none⟩ = some (.slice aSa3 s.log.length aSc3) := by rw [hb.cell (p := ⟨w.heap.size + 1, 3, none⟩) (by (try simp); try omega)]; exact eaS3_6
  have zaS_7 : w.heap.size + 1 < w7.heap.size := by have := hb.size; (try simp at this); omega
  have exP0_7 : w7.cell? ⟨w4.heap.size, 0, none⟩ = some (.slice xPa0 p.cells.length xPc0) := by rw [hb.cell (p := ⟨w4.heap.size, 0, none⟩) (by (try simp); try omega)]; exact exP0_6
  have exP1_7 : w7.cell? ⟨w4.heap.size, 1, none⟩ = some (.slice xPa1 p.bodies.length xPc1) := by rw [hb.cell (p := ⟨w4.heap.size, 1, none⟩) (by (try simp); try omega)]; exact exP1_6
  have zxP_7 : w4.heap.size < w7.heap.size := by have := hb.size; (try simp at this); omega
  have exS0_7 : w7.cell? ⟨w5.heap.size, 0, none⟩ = some (.slice xSa0 s.cells.length xSc0) := by rw [hb.cell (p := ⟨w5.heap.size, 0, none⟩) (by (try simp); try omega)]; exact exS0_6
  have exS1_7 : w7.cell? ⟨w5.heap.size, 1, none⟩ = some (.slice xSa1 s.tasks.length xSc1) := by rw [hb.cell (p := ⟨w5.heap.size, 1, none⟩) (by (try simp); try omega)]; exact exS1_6
  have exS2_7 : w7.cell? ⟨w5.heap.size, 2, none⟩ = some (.int .i64 s.clock) := by rw [hb.cell (p := ⟨w5.heap.size, 2, none⟩) (by (try simp); try omega)]; exact exS2_6
  have exS3_7 : w7.cell? ⟨w5.heap.size, 3, none⟩ = some (.slice xSa3 s.log.length xSc3) := by rw [hb.cell (p := ⟨w5.heap.size, 3, none⟩) (by (try simp); try omega)]; exact exS3_6
  have zxS_7 : w5.heap.size < w7.heap.size := by have := hb.size; (try simp at this); omega
  have HB7 : Hid (Below w.heap.size w w7) := below_then HB6.out HB6.out.size hb
  have HS_7 := (show Hid (OwnInt w.heap.size w7 _ R) from own_below HS_6.out hb (Nat.le_refl _))
  have HXP7 := (show Hid (PrAt w7 _ _ _) from PrAt.mono HXP6.out hb)
  have HYP7 := (show Hid (RowSh 1 w7 _ ∧ BodiesSh w7 _ MP) from ⟨HYP6.out.1.set (IntSet.below hb), HYP6.out.2.set (IntSet.below hb)⟩)
  have HXS7 := (show Hid (SyAt w7 _ _ _ _) from SyAt.mono HXS6.out hb)
  have HYS7 := (show Hid (RowSh 3 w7 _ ∧ TasSh w7 _ MT ∧ EnsSh w7 _ ME) from ⟨HYS6.out.1.set (IntSet.below hb), HYS6.out.2.1.set (IntSet.below hb), HYS6.out.2.2.set (IntSet.below hb)⟩)
  have HG7 := (show Hid (OwnInt w.heap.size w7 _ R) from own_below HG6.out hb (Nat.le_refl _))
  clear hb
  clear eaP0_6 eaP1_6 eaS0_6 eaS1_6 eaS2_6 eaS3_6 exP0_6 exP1_6 exS0_6 exS1_6 exS2_6 exS3_6 zaP_6 zaS_6 zxP_6 zxS_6
  clear HB6 HS_6 HXP6 HYP6 HXS6 HYS6 HG6
  go_wp2_with fail
  have HC := (show Hid (PrAt w7.drew (.slice aPa0 p.cells.length aPc0) (.slice aPa1 p.bodies.length aPc1) p) from PrAt.mono HP.out HB7.out.drew)
  have HE := (show Hid (PrAt w7.drew (.slice xPa0 p.cells.length xPc0) (.slice xPa1 p.bodies.length xPc1) p) from PrAt.mono HXP7.out (Below.refl _ _).drew)
  go_cut [44] (fun sx wx => sx = .bool false ∧ Below w7.heap.size w7 wx)
  case first =>
    go_region_with (first | (go_at_call 9; refine (toProg_th' p _ _ _ HC.out HSMP.out).mono ?_; rintro e wx1 ⟨yv0, yv1, rfl, hoy, hby, hzy⟩; obtain ⟨ya0, yc0, rfl, _⟩ := (hoy.1).shape; obtain ⟨ya1, yc1, rfl, _⟩ := (hoy.2).shape; have y0 : wx1.cell? ⟨w4.heap.size, 0, none⟩ = some (.slice xPa0 p.cells.length xPc0) := (hby.cell (p := ⟨w4.heap.size, 0, none⟩) zxP_7).trans exP0_7; have y1 : wx1.cell? ⟨w4.heap.size, 1, none⟩ = some (.slice xPa1 p.bodies.length xPc1) := (hby.cell (p := ⟨w4.heap.size, 1, none⟩) zxP_7).trans exP1_7) | (go_at_call 12; refine (eqProg_same' p _ _ _ _ _ (PrAt.mono HE.out hby) hoy.at).mono ?_; rintro e wx2 ⟨rfl, hbz⟩))
    all_goals
      have HQ := (show Hid (Below w7.heap.size w7 wx2) from below_then (((Below.refl _ _).drew).trans hby) hby.size hbz)
      clear hby hbz hoy hzy y0 y1 HC HE
      go_wp2_with fail
      go_meet
      exact ⟨rfl, HQ.out⟩
  case rest =>
  obtain ⟨rfl, hb⟩ := hcut
  obtain ⟨w8, hwc⟩ : ∃ w8 : World, w8 = wc := ⟨_, rfl⟩
  subst hwc
  clear HC HE
  have eaP0_8 : w8.cell? ⟨w.heap.size, 0, none⟩ = some (.slice aPa0 p.cells.length aPc0) := by rw [hb.cell (p := ⟨w.heap.size, 0, none⟩) (by (try simp); try omega)]; exact eaP0_7
  have eaP1_8 : w8.cell? ⟨w.heap.size, 1, none⟩ = some (.slice aPa1 p.bodies.length aPc1) := by rw [hb.cell (p := ⟨w.heap.size, 1, none⟩) (by (try simp); try omega)]; exact eaP1_7
  have zaP_8 : w.heap.size < w8.heap.size := by have := hb.size; (try simp at this); omega
  have eaS0_8 : w8.cell? ⟨w.heap.size + 1, 0, none⟩ = some (.slice aSa0 s.cells.length aSc0) := by rw [hb.cell (p := ⟨w.heap.size + 1, 0, none⟩) (by (try simp); try omega)]; exact eaS0_7
  have eaS1_8 : w8.cell? ⟨w.heap.size + 1, 1, none⟩ = some (.slice aSa1 s.tasks.length aSc1) := by rw [hb.cell (p := ⟨w.heap.size + 1, 1, none⟩) (by (try simp); try omega)]; exact eaS1_7
  have eaS2_8 : w8.cell? ⟨w.heap.size + 1, 2, none⟩ = some (.int .i64 s.clock) := by rw [hb.cell (p := ⟨w.heap.size + 1, 2, none⟩) (by (try simp); try omega)]; exact eaS2_7
  have eaS3_8 : w8.cell? ⟨w.heap.size + 1, 3, none⟩ = some (.slice aSa3 s.log.length aSc3) := by rw [hb.cell (p := ⟨w.heap.size + 1, 3, none⟩) (by (try simp); try omega)]; exact eaS3_7
  have zaS_8 : w.heap.size + 1 < w8.heap.size := by have := hb.size; (try simp at this); omega
  have exP0_8 : w8.cell? ⟨w4.heap.size, 0, none⟩ = some (.slice xPa0 p.cells.length xPc0) := by rw [hb.cell (p := ⟨w4.heap.size, 0, none⟩) (by (try simp); try omega)]; exact exP0_7
  have exP1_8 : w8.cell? ⟨w4.heap.size, 1, none⟩ = some (.slice xPa1 p.bodies.length xPc1) := by rw [hb.cell (p := ⟨w4.heap.size, 1, none⟩) (by (try simp); try omega)]; exact exP1_7
  have zxP_8 : w4.heap.size < w8.heap.size := by have := hb.size; (try simp at this); omega
  have exS0_8 : w8.cell? ⟨w5.heap.size, 0, none⟩ = some (.slice xSa0 s.cells.length xSc0) := by rw [hb.cell (p := ⟨w5.heap.size, 0, none⟩) (by (try simp); try omega)]; exact exS0_7
  have exS1_8 : w8.cell? ⟨w5.heap.size, 1, none⟩ = some (.slice xSa1 s.tasks.length xSc1) := by rw [hb.cell (p := ⟨w5.heap.size, 1, none⟩) (by (try simp); try omega)]; exact exS1_7
  have exS2_8 : w8.cell? ⟨w5.heap.size, 2, none⟩ = some (.int .i64 s.clock) := by rw [hb.cell (p := ⟨w5.heap.size, 2, none⟩) (by (try simp); try omega)]; exact exS2_7
  have exS3_8 : w8.cell? ⟨w5.heap.size, 3, none⟩ = some (.slice xSa3 s.log.length xSc3) := by rw [hb.cell (p := ⟨w5.heap.size, 3, none⟩) (by (try simp); try omega)]; exact exS3_7
  have zxS_8 : w5.heap.size < w8.heap.size := by have := hb.size; (try simp at this); omega
  have HB8 : Hid (Below w.heap.size w w8) := below_then HB7.out HB7.out.size hb
  have HS_8 := (show Hid (OwnInt w.heap.size w8 _ R) from own_below HS_7.out hb (Nat.le_refl _))
  have HXP8 := (show Hid (PrAt w8 _ _ _) from PrAt.mono HXP7.out hb)
  have HYP8 := (show Hid (RowSh 1 w8 _ ∧ BodiesSh w8 _ MP) from ⟨HYP7.out.1.set (IntSet.below hb), HYP7.out.2.set (IntSet.below hb)⟩)
  have HXS8 := (show Hid (SyAt w8 _ _ _ _) from SyAt.mono HXS7.out hb)
  have HYS8 := (show Hid (RowSh 3 w8 _ ∧ TasSh w8 _ MT ∧ EnsSh w8 _ ME) from ⟨HYS7.out.1.set (IntSet.below hb), HYS7.out.2.1.set (IntSet.below hb), HYS7.out.2.2.set (IntSet.below hb)⟩)
  have HG8 := (show Hid (OwnInt w.heap.size w8 _ R) from own_below HG7.out hb (Nat.le_refl _))
  clear hb
  clear eaP0_7 eaP1_7 eaS0_7 eaS1_7 eaS2_7 eaS3_7 exP0_7 exP1_7 exS0_7 exS1_7 exS2_7 exS3_7 zaP_7 zaS_7 zxP_7 zxS_7
  clear HB7 HS_7 HXP7 HYP7 HXS7 HYS7 HG7
  clear HXP8
  go_wp2_with fail
  have HC := (show Hid (SyAt w8.drew (.slice aSa0 s.cells.length aSc0) (.slice aSa1 s.tasks.length aSc1) (.slice aSa3 s.log.length aSc3) s) from SyAt.mono HS.out HB8.out.drew)
  have HE := (show Hid (SyAt w8.drew (.slice xSa0 s.cells.length xSc0) (.slice xSa1 s.tasks.length xSc1) (.slice xSa3 s.log.length xSc3) s) from SyAt.mono HXS8.out (Below.refl _ _).drew)
  go_cut [49] (fun sx wx => sx = .bool false ∧ Below w8.heap.size w8 wx)
  case first =>
    go_region_with (first | (go_at_call 10; refine (toSys_th' s _ _ _ _ HC.out HSMS.out).mono ?_; rintro e wx1 ⟨yv0, yv1, yv3, rfl, hoy, hby, hzy⟩; obtain ⟨ya0, yc0, rfl, _⟩ := (hoy.1).shape; obtain ⟨ya1, yc1, rfl, _⟩ := (hoy.2.1).shape; obtain ⟨ya3, yc3, rfl, _⟩ := (hoy.2.2).shape; have y0 : wx1.cell? ⟨w5.heap.size, 0, none⟩ = some (.slice xSa0 s.cells.length xSc0) := (hby.cell (p := ⟨w5.heap.size, 0, none⟩) zxS_8).trans exS0_8; have y1 : wx1.cell? ⟨w5.heap.size, 1, none⟩ = some (.slice xSa1 s.tasks.length xSc1) := (hby.cell (p := ⟨w5.heap.size, 1, none⟩) zxS_8).trans exS1_8; have y2 : wx1.cell? ⟨w5.heap.size, 2, none⟩ = some (.int .i64 s.clock) := (hby.cell (p := ⟨w5.heap.size, 2, none⟩) zxS_8).trans exS2_8; have y3 : wx1.cell? ⟨w5.heap.size, 3, none⟩ = some (.slice xSa3 s.log.length xSc3) := (hby.cell (p := ⟨w5.heap.size, 3, none⟩) zxS_8).trans exS3_8) | (go_at_call 13; refine (eqSys_same' s _ _ _ _ _ _ _ (SyAt.mono HE.out hby) hoy.at).mono ?_; rintro e wx2 ⟨rfl, hbz⟩))
    all_goals
      have HQ := (show Hid (Below w8.heap.size w8 wx2) from below_then (((Below.refl _ _).drew).trans hby) hby.size hbz)
      clear hby hbz hoy hzy y0 y1 y2 y3 HC HE
      go_wp2_with fail
      go_meet
      exact ⟨rfl, HQ.out⟩
  case rest =>
  obtain ⟨rfl, hb⟩ := hcut
  obtain ⟨w9, hwc⟩ : ∃ w9 : World, w9 = wc := ⟨_, rfl⟩
  subst hwc
  clear HC HE
  have eaP0_9 : w9.cell? ⟨w.heap.size, 0, none⟩ = some (.slice aPa0 p.cells.length aPc0) := by rw [hb.cell (p := ⟨w.heap.size, 0, none⟩) (by (try simp); try omega)]; exact eaP0_8
  have eaP1_9 : w9.cell? ⟨w.heap.size, 1, none⟩ = some (.slice aPa1 p.bodies.length aPc1) := by rw [hb.cell (p := ⟨w.heap.size, 1, none⟩) (by (try simp); try omega)]; exact eaP1_8
  have zaP_9 : w.heap.size < w9.heap.size := by have := hb.size; (try simp at this); omega
  have eaS0_9 : w9.cell? ⟨w.heap.size + 1, 0, none⟩ = some (.slice aSa0 s.cells.length aSc0) := by rw [hb.cell (p := ⟨w.heap.size + 1, 0, none⟩) (by (try simp); try omega)]; exact eaS0_8
  have eaS1_9 : w9.cell? ⟨w.heap.size + 1, 1, none⟩ = some (.slice aSa1 s.tasks.length aSc1) := by rw [hb.cell (p := ⟨w.heap.size + 1, 1, none⟩) (by (try simp); try omega)]; exact eaS1_8
  have eaS2_9 : w9.cell? ⟨w.heap.size + 1, 2, none⟩ = some (.int .i64 s.clock) := by rw [hb.cell (p := ⟨w.heap.size + 1, 2, none⟩) (by (try simp); try omega)]; exact eaS2_8
  have eaS3_9 : w9.cell? ⟨w.heap.size + 1, 3, none⟩ = some (.slice aSa3 s.log.length aSc3) := by rw [hb.cell (p := ⟨w.heap.size + 1, 3, none⟩) (by (try simp); try omega)]; exact eaS3_8
  have zaS_9 : w.heap.size + 1 < w9.heap.size := by have := hb.size; (try simp at this); omega
  have exP0_9 : w9.cell? ⟨w4.heap.size, 0, none⟩ = some (.slice xPa0 p.cells.length xPc0) := by rw [hb.cell (p := ⟨w4.heap.size, 0, none⟩) (by (try simp); try omega)]; exact exP0_8
  have exP1_9 : w9.cell? ⟨w4.heap.size, 1, none⟩ = some (.slice xPa1 p.bodies.length xPc1) := by rw [hb.cell (p := ⟨w4.heap.size, 1, none⟩) (by (try simp); try omega)]; exact exP1_8
  have zxP_9 : w4.heap.size < w9.heap.size := by have := hb.size; (try simp at this); omega
  have exS0_9 : w9.cell? ⟨w5.heap.size, 0, none⟩ = some (.slice xSa0 s.cells.length xSc0) := by rw [hb.cell (p := ⟨w5.heap.size, 0, none⟩) (by (try simp); try omega)]; exact exS0_8
  have exS1_9 : w9.cell? ⟨w5.heap.size, 1, none⟩ = some (.slice xSa1 s.tasks.length xSc1) := by rw [hb.cell (p := ⟨w5.heap.size, 1, none⟩) (by (try simp); try omega)]; exact exS1_8
  have exS2_9 : w9.cell? ⟨w5.heap.size, 2, none⟩ = some (.int .i64 s.clock) := by rw [hb.cell (p := ⟨w5.heap.size, 2, none⟩) (by (try simp); try omega)]; exact exS2_8
  have exS3_9 : w9.cell? ⟨w5.heap.size, 3, none⟩ = some (.slice xSa3 s.log.length xSc3) := by rw [hb.cell (p := ⟨w5.heap.size, 3, none⟩) (by (try simp); try omega)]; exact exS3_8
  have zxS_9 : w5.heap.size < w9.heap.size := by have := hb.size; (try simp at this); omega
  have HB9 : Hid (Below w.heap.size w w9) := below_then HB8.out HB8.out.size hb
  have HS_9 := (show Hid (OwnInt w.heap.size w9 _ R) from own_below HS_8.out hb (Nat.le_refl _))
  have HYP9 := (show Hid (RowSh 1 w9 _ ∧ BodiesSh w9 _ MP) from ⟨HYP8.out.1.set (IntSet.below hb), HYP8.out.2.set (IntSet.below hb)⟩)
  have HXS9 := (show Hid (SyAt w9 _ _ _ _) from SyAt.mono HXS8.out hb)
  have HYS9 := (show Hid (RowSh 3 w9 _ ∧ TasSh w9 _ MT ∧ EnsSh w9 _ ME) from ⟨HYS8.out.1.set (IntSet.below hb), HYS8.out.2.1.set (IntSet.below hb), HYS8.out.2.2.set (IntSet.below hb)⟩)
  have HG9 := (show Hid (OwnInt w.heap.size w9 _ R) from own_below HG8.out hb (Nat.le_refl _))
  clear hb
  clear eaP0_8 eaP1_8 eaS0_8 eaS1_8 eaS2_8 eaS3_8 exP0_8 exP1_8 exS0_8 exS1_8 exS2_8 exS3_8 zaP_8 zaS_8 zxP_8 zxS_8
  clear HB8 HS_8 HYP8 HXS8 HYS8 HG8
  clear HXS9
  go_wp2_with fail
  refine (markProg_tr _ _ MP _ _ HYP9.out.1 HYP9.out.2 (by omega) (by omega)).mono ?_
  rintro e w10 ⟨rfl, wm, hbm, ew⟩
  have hS : IntSet w9 w10 := by rw [ew]; exact (IntSet.below hbm).trans (wrT_set (fun a ha => prSh_ic (HYP9.out.1.set (IntSet.below hbm)) (HYP9.out.2.set (IntSet.below hbm)) a ha) _)
  have eaP0_10 : w10.cell? ⟨w.heap.size, 0, none⟩ = some (.slice aPa0 p.cells.length aPc0) := by
    rw [ew, wrT_other (fun hp => by have h1 := HRP.out _ hp; (try simp at h1); omega), hbm.cell (p := ⟨w.heap.size, 0, none⟩) (by (try simp); try omega)]; exact eaP0_9
  have eaP1_10 : w10.cell? ⟨w.heap.size, 1, none⟩ = some (.slice aPa1 p.bodies.length aPc1) := by
    rw [ew, wrT_other (fun hp => by have h1 := HRP.out _ hp; (try simp at h1); omega), hbm.cell (p := ⟨w.heap.size, 1, none⟩) (by (try simp); try omega)]; exact eaP1_9
  have zaP_10 : w.heap.size < w10.heap.size := by have := hS.size; omega
  have eaS0_10 : w10.cell? ⟨w.heap.size + 1, 0, none⟩ = some (.slice aSa0 s.cells.length aSc0) := by
    rw [ew, wrT_other (fun hp => by have h1 := HRP.out _ hp; (try simp at h1); omega), hbm.cell (p := ⟨w.heap.size + 1, 0, none⟩) (by (try simp); try omega)]; exact eaS0_9
  have eaS1_10 : w10.cell? ⟨w.heap.size + 1, 1, none⟩ = some (.slice aSa1 s.tasks.length aSc1) := by
    rw [ew, wrT_other (fun hp => by have h1 := HRP.out _ hp; (try simp at h1); omega), hbm.cell (p := ⟨w.heap.size + 1, 1, none⟩) (by (try simp); try omega)]; exact eaS1_9
  have eaS2_10 : w10.cell? ⟨w.heap.size + 1, 2, none⟩ = some (.int .i64 s.clock) := by
    rw [ew, wrT_other (fun hp => by have h1 := HRP.out _ hp; (try simp at h1); omega), hbm.cell (p := ⟨w.heap.size + 1, 2, none⟩) (by (try simp); try omega)]; exact eaS2_9
  have eaS3_10 : w10.cell? ⟨w.heap.size + 1, 3, none⟩ = some (.slice aSa3 s.log.length aSc3) := by
    rw [ew, wrT_other (fun hp => by have h1 := HRP.out _ hp; (try simp at h1); omega), hbm.cell (p := ⟨w.heap.size + 1, 3, none⟩) (by (try simp); try omega)]; exact eaS3_9
  have zaS_10 : w.heap.size + 1 < w10.heap.size := by have := hS.size; omega
  have exS0_10 : w10.cell? ⟨w5.heap.size, 0, none⟩ = some (.slice xSa0 s.cells.length xSc0) := by
    rw [ew, wrT_other (fun hp => by have h1 := HRP.out _ hp; (try simp at h1); omega), hbm.cell (p := ⟨w5.heap.size, 0, none⟩) (by (try simp); try omega)]; exact exS0_9
  have exS1_10 : w10.cell? ⟨w5.heap.size, 1, none⟩ = some (.slice xSa1 s.tasks.length xSc1) := by
    rw [ew, wrT_other (fun hp => by have h1 := HRP.out _ hp; (try simp at h1); omega), hbm.cell (p := ⟨w5.heap.size, 1, none⟩) (by (try simp); try omega)]; exact exS1_9
  have exS2_10 : w10.cell? ⟨w5.heap.size, 2, none⟩ = some (.int .i64 s.clock) := by
    rw [ew, wrT_other (fun hp => by have h1 := HRP.out _ hp; (try simp at h1); omega), hbm.cell (p := ⟨w5.heap.size, 2, none⟩) (by (try simp); try omega)]; exact exS2_9
  have exS3_10 : w10.cell? ⟨w5.heap.size, 3, none⟩ = some (.slice xSa3 s.log.length xSc3) := by
    rw [ew, wrT_other (fun hp => by have h1 := HRP.out _ hp; (try simp at h1); omega), hbm.cell (p := ⟨w5.heap.size, 3, none⟩) (by (try simp); try omega)]; exact exS3_9
  have zxS_10 : w5.heap.size < w10.heap.size := by have := hS.size; omega
  have HB10 : Hid (Below w.heap.size w w10) := by
    have h := wrT_below (below_then HB9.out HB9.out.size hbm) (A := mtP (.slice xPa0 p.cells.length xPc0) MP) (fun a ha => by have := (HRP.out a ha).1; omega) (1)
    rw [← ew] at h; exact h
  have HS_10 : Hid (OwnInt w.heap.size w10 (.slice sa R.length sc) R) := by
    have h := OwnInt.wr (own_below HS_9.out hbm (Nat.le_refl _)) (A := mtP (.slice xPa0 p.cells.length xPc0) MP) (fun g hg a ha e => by have h1 := HRP.out a ha; have h2 := HLS.out g hg; omega) (1)
    rw [← ew] at h; exact h
  have HG10 : Hid (OwnInt w.heap.size w10 (.slice ga R.length gc) R) := by
    have h := OwnInt.wr (own_below HG9.out hbm (Nat.le_refl _)) (A := mtP (.slice xPa0 p.cells.length xPc0) MP) (fun g hg a ha e => by have h1 := HRP.out a ha; have h2 := HLG.out g hg; omega) (1)
    rw [← ew] at h; exact h
  have HYS10 := (show Hid (RowSh 3 w10 _ ∧ TasSh w10 _ MT ∧ EnsSh w10 _ ME) from ⟨HYS9.out.1.set hS, HYS9.out.2.1.set hS, HYS9.out.2.2.set hS⟩)
  clear ew hbm hS
  clear eaP0_9 eaP1_9 eaS0_9 eaS1_9 eaS2_9 eaS3_9 exP0_9 exP1_9 exS0_9 exS1_9 exS2_9 exS3_9 zaP_9 zaS_9 zxP_9 zxS_9
  clear HB9 HS_9 HG9 HYS9 HYP9
  go_wp2_with fail
  refine (markSys_tr _ _ _ _ _ MT ME _ HYS10.out.1 HYS10.out.2.1 HYS10.out.2.2 (by omega) (by omega)).mono ?_
  rintro e w11 ⟨rfl, wm, hbm, ew⟩
  have hS : IntSet w10 w11 := by rw [ew]; exact (IntSet.below hbm).trans (wrT_set (fun a ha => sySh_ic (HYS10.out.1.set (IntSet.below hbm)) (HYS10.out.2.1.set (IntSet.below hbm)) (HYS10.out.2.2.set (IntSet.below hbm)) a ha) _)
  have eaP0_11 : w11.cell? ⟨w.heap.size, 0, none⟩ = some (.slice aPa0 p.cells.length aPc0) := by
    rw [ew, wrT_other (fun hp => by have h1 := HRS.out _ hp; (try simp at h1); omega), hbm.cell (p := ⟨w.heap.size, 0, none⟩) (by (try simp); try omega)]; exact eaP0_10
  have eaP1_11 : w11.cell? ⟨w.heap.size, 1, none⟩ = some (.slice aPa1 p.bodies.length aPc1) := by
    rw [ew, wrT_other (fun hp => by have h1 := HRS.out _ hp; (try simp at h1); omega), hbm.cell (p := ⟨w.heap.size, 1, none⟩) (by (try simp); try omega)]; exact eaP1_10
  have zaP_11 : w.heap.size < w11.heap.size := by have := hS.size; omega
  have eaS0_11 : w11.cell? ⟨w.heap.size + 1, 0, none⟩ = some (.slice aSa0 s.cells.length aSc0) := by
    rw [ew, wrT_other (fun hp => by have h1 := HRS.out _ hp; (try simp at h1); omega), hbm.cell (p := ⟨w.heap.size + 1, 0, none⟩) (by (try simp); try omega)]; exact eaS0_10
  have eaS1_11 : w11.cell? ⟨w.heap.size + 1, 1, none⟩ = some (.slice aSa1 s.tasks.length aSc1) := by
    rw [ew, wrT_other (fun hp => by have h1 := HRS.out _ hp; (try simp at h1); omega), hbm.cell (p := ⟨w.heap.size + 1, 1, none⟩) (by (try simp); try omega)]; exact eaS1_10
  have eaS2_11 : w11.cell? ⟨w.heap.size + 1, 2, none⟩ = some (.int .i64 s.clock) := by
    rw [ew, wrT_other (fun hp => by have h1 := HRS.out _ hp; (try simp at h1); omega), hbm.cell (p := ⟨w.heap.size + 1, 2, none⟩) (by (try simp); try omega)]; exact eaS2_10
  have eaS3_11 : w11.cell? ⟨w.heap.size + 1, 3, none⟩ = some (.slice aSa3 s.log.length aSc3) := by
    rw [ew, wrT_other (fun hp => by have h1 := HRS.out _ hp; (try simp at h1); omega), hbm.cell (p := ⟨w.heap.size + 1, 3, none⟩) (by (try simp); try omega)]; exact eaS3_10
  have zaS_11 : w.heap.size + 1 < w11.heap.size := by have := hS.size; omega
  have HB11 : Hid (Below w.heap.size w w11) := by
    have h := wrT_below (below_then HB10.out HB10.out.size hbm) (A := mtSy (.slice xSa0 s.cells.length xSc0) (.slice xSa1 s.tasks.length xSc1) (.slice xSa3 s.log.length xSc3) MT ME) (fun a ha => by have := (HRS.out a ha).1; omega) (1 + ((mtP (.slice xPa0 p.cells.length xPc0) MP).length : Int))
    rw [← ew] at h; exact h
  have HS_11 : Hid (OwnInt w.heap.size w11 (.slice sa R.length sc) R) := by
    have h := OwnInt.wr (own_below HS_10.out hbm (Nat.le_refl _)) (A := mtSy (.slice xSa0 s.cells.length xSc0) (.slice xSa1 s.tasks.length xSc1) (.slice xSa3 s.log.length xSc3) MT ME) (fun g hg a ha e => by have h1 := HRS.out a ha; have h2 := HLS.out g hg; omega) (1 + ((mtP (.slice xPa0 p.cells.length xPc0) MP).length : Int))
    rw [← ew] at h; exact h
  have HG11 : Hid (OwnInt w.heap.size w11 (.slice ga R.length gc) R) := by
    have h := OwnInt.wr (own_below HG10.out hbm (Nat.le_refl _)) (A := mtSy (.slice xSa0 s.cells.length xSc0) (.slice xSa1 s.tasks.length xSc1) (.slice xSa3 s.log.length xSc3) MT ME) (fun g hg a ha e => by have h1 := HRS.out a ha; have h2 := HLG.out g hg; omega) (1 + ((mtP (.slice xPa0 p.cells.length xPc0) MP).length : Int))
    rw [← ew] at h; exact h
  clear ew hbm hS
  clear eaP0_10 eaP1_10 eaS0_10 eaS1_10 eaS2_10 eaS3_10 exS0_10 exS1_10 exS2_10 exS3_10 zaP_10 zaS_10 zxS_10
  clear HB10 HS_10 HG10 HYS10
  have hkk : ¬ (1 + ((mtP (.slice xPa0 p.cells.length xPc0) MP).length : Int) + ((mtSy (.slice xSa0 s.cells.length xSc0) (.slice xSa1 s.tasks.length xSc1) (.slice xSa3 s.log.length xSc3) MT ME).length : Int) < 0) := by omega
  go_wp2_with fail
  refine (eqIntS_same _ _ R _ HG11.out.at HS_11.out.at).mono ?_
  rintro e w12 ⟨rfl, hb⟩
  have eaP0_12 : w12.cell? ⟨w.heap.size, 0, none⟩ = some (.slice aPa0 p.cells.length aPc0) := by rw [hb.cell (p := ⟨w.heap.size, 0, none⟩) (by (try simp); try omega)]; exact eaP0_11
  have eaP1_12 : w12.cell? ⟨w.heap.size, 1, none⟩ = some (.slice aPa1 p.bodies.length aPc1) := by rw [hb.cell (p := ⟨w.heap.size, 1, none⟩) (by (try simp); try omega)]; exact eaP1_11
  have zaP_12 : w.heap.size < w12.heap.size := by have := hb.size; (try simp at this); omega
  have eaS0_12 : w12.cell? ⟨w.heap.size + 1, 0, none⟩ = some (.slice aSa0 s.cells.length aSc0) := by rw [hb.cell (p := ⟨w.heap.size + 1, 0, none⟩) (by (try simp); try omega)]; exact eaS0_11
  have eaS1_12 : w12.cell? ⟨w.heap.size + 1, 1, none⟩ = some (.slice aSa1 s.tasks.length aSc1) := by rw [hb.cell (p := ⟨w.heap.size + 1, 1, none⟩) (by (try simp); try omega)]; exact eaS1_11
  have eaS2_12 : w12.cell? ⟨w.heap.size + 1, 2, none⟩ = some (.int .i64 s.clock) := by rw [hb.cell (p := ⟨w.heap.size + 1, 2, none⟩) (by (try simp); try omega)]; exact eaS2_11
  have eaS3_12 : w12.cell? ⟨w.heap.size + 1, 3, none⟩ = some (.slice aSa3 s.log.length aSc3) := by rw [hb.cell (p := ⟨w.heap.size + 1, 3, none⟩) (by (try simp); try omega)]; exact eaS3_11
  have zaS_12 : w.heap.size + 1 < w12.heap.size := by have := hb.size; (try simp at this); omega
  have HB12 : Hid (Below w.heap.size w w12) := below_then HB11.out HB11.out.size hb
  have HS_12 := (show Hid (OwnInt w.heap.size w12 _ R) from own_below HS_11.out hb (Nat.le_refl _))
  have HG12 := (show Hid (OwnInt w.heap.size w12 _ R) from own_below HG11.out hb (Nat.le_refl _))
  clear hb
  clear eaP0_11 eaP1_11 eaS0_11 eaS1_11 eaS2_11 eaS3_11 zaP_11 zaS_11
  clear HB11 HS_11 HG11
  have hgl := OwnInt.len HG12.out
  have hRl : R.length ≤ 7 := by rw [HRR.out]; exact readyL_len p s
  go_wp2_with fail
  refine (markIntS_tr _ _ _ (OwnInt.shW HG12.out) (by omega) (by omega)).mono ?_
  rintro e w13 ⟨rfl, ew⟩
  have hIC : ∀ a, a ∈ trR 1 (.slice ga R.length gc) → ICell w12 a := fun a ha => (RowSh.trail (OwnInt.shW HG12.out) a ha).1
  have hS : IntSet w12 w13 := by rw [ew]; exact wrT_set hIC _
  have hGB : ∀ a, a ∈ trR 1 (.slice ga R.length gc) → w5.heap.size + 1 ≤ a.block := fun a ha => HLG.out _ (OwnInt.blk HG12.out a ha)
  have eaP0_13 : w13.cell? ⟨w.heap.size, 0, none⟩ = some (.slice aPa0 p.cells.length aPc0) := by
    rw [ew, wrT_other (fun hp => by have h1 := hGB _ hp; (try simp at h1); omega)]; exact eaP0_12
  have eaP1_13 : w13.cell? ⟨w.heap.size, 1, none⟩ = some (.slice aPa1 p.bodies.length aPc1) := by
    rw [ew, wrT_other (fun hp => by have h1 := hGB _ hp; (try simp at h1); omega)]; exact eaP1_12
  have zaP_13 : w.heap.size < w13.heap.size := by have := hS.size; omega
  have eaS0_13 : w13.cell? ⟨w.heap.size + 1, 0, none⟩ = some (.slice aSa0 s.cells.length aSc0) := by
    rw [ew, wrT_other (fun hp => by have h1 := hGB _ hp; (try simp at h1); omega)]; exact eaS0_12
  have eaS1_13 : w13.cell? ⟨w.heap.size + 1, 1, none⟩ = some (.slice aSa1 s.tasks.length aSc1) := by
    rw [ew, wrT_other (fun hp => by have h1 := hGB _ hp; (try simp at h1); omega)]; exact eaS1_12
  have eaS2_13 : w13.cell? ⟨w.heap.size + 1, 2, none⟩ = some (.int .i64 s.clock) := by
    rw [ew, wrT_other (fun hp => by have h1 := hGB _ hp; (try simp at h1); omega)]; exact eaS2_12
  have eaS3_13 : w13.cell? ⟨w.heap.size + 1, 3, none⟩ = some (.slice aSa3 s.log.length aSc3) := by
    rw [ew, wrT_other (fun hp => by have h1 := hGB _ hp; (try simp at h1); omega)]; exact eaS3_12
  have zaS_13 : w.heap.size + 1 < w13.heap.size := by have := hS.size; omega
  have HB13 : Hid (Below w.heap.size w w13) := by
    have h := wrT_below HB12.out (A := trR 1 (.slice ga R.length gc)) (fun a ha => by have := hGB a ha; omega) 1
    rw [← ew] at h; exact h
  have HS_13 : Hid (OwnInt w.heap.size w13 (.slice sa R.length sc) R) := by
    have h := OwnInt.wr HS_12.out (A := trR 1 (.slice ga R.length gc)) (fun g hg a ha e => by have h1 := hGB a ha; have h2 := HLS.out g hg; omega) 1
    rw [← ew] at h; exact h
  have HGS13 := (show Hid (RowSh 1 w13 _) from (OwnInt.shW HG12.out).set hS)
  have HM13 : Hid (HeldT w13 (trR 1 (.slice ga R.length gc)) 1) := by
    have h := wrT_held hIC (trR_nodup 1 _) 1
    rw [← ew] at h; exact h
  clear ew hIC hS hGB HB12 HS_12 HG12
  clear eaP0_12 eaP1_12 eaS0_12 eaS1_12 eaS2_12 eaS3_12 zaP_12 zaS_12
  have hkm : ¬ (1 + ((trR 1 (.slice ga R.length gc)).length : Int) < 0) := by omega
  go_wp2_with fail
  refine (heldIntS_tr _ _ _ HGS13.out HM13.out (by omega) (by omega)).mono ?_
  rintro e wh ⟨rfl, hw⟩
  have hw := hw.symm
  subst hw
  go_wp2_with fail
  have HCP := (show Hid (PrAt w13.drew (.slice aPa0 p.cells.length aPc0) (.slice aPa1 p.bodies.length aPc1) p) from PrAt.mono HP.out HB13.out.drew)
  have HCS := (show Hid (SyAt w13.drew (.slice aSa0 s.cells.length aSc0) (.slice aSa1 s.tasks.length aSc1) (.slice aSa3 s.log.length aSc3) s) from SyAt.mono HS.out HB13.out.drew)
  go_cut [13] (fun sx wx => ∃ xa xc, sx = .slice xa R.length xc ∧ OwnInt w13.heap.size wx (.slice xa R.length xc) R ∧ Below w13.heap.size w13 wx)
  case first =>
    go_region_with (first | (go_at_call 9; refine (toProg_th' p _ _ _ HCP.out HSMP.out).mono ?_; rintro e wx1 ⟨tPv0, tPv1, rfl, ho1, hb1, hz1⟩; obtain ⟨tPa0, tPc0, rfl, _⟩ := (ho1.1).shape; obtain ⟨tPa1, tPc1, rfl, _⟩ := (ho1.2).shape; have y0 : wx1.cell? ⟨w.heap.size + 1, 0, none⟩ = some (.slice aSa0 s.cells.length aSc0) := (hb1.cell (p := ⟨w.heap.size + 1, 0, none⟩) zaS_13).trans eaS0_13; have y1 : wx1.cell? ⟨w.heap.size + 1, 1, none⟩ = some (.slice aSa1 s.tasks.length aSc1) := (hb1.cell (p := ⟨w.heap.size + 1, 1, none⟩) zaS_13).trans eaS1_13; have y2 : wx1.cell? ⟨w.heap.size + 1, 2, none⟩ = some (.int .i64 s.clock) := (hb1.cell (p := ⟨w.heap.size + 1, 2, none⟩) zaS_13).trans eaS2_13; have y3 : wx1.cell? ⟨w.heap.size + 1, 3, none⟩ = some (.slice aSa3 s.log.length aSc3) := (hb1.cell (p := ⟨w.heap.size + 1, 3, none⟩) zaS_13).trans eaS3_13) | (go_at_call 10; refine (toSys_th' s _ _ _ _ (SyAt.mono HCS.out hb1) HSMS.out).mono ?_; rintro e wx2 ⟨tSv0, tSv1, tSv3, rfl, ho2, hb2, hz2⟩; obtain ⟨tSa0, tSc0, rfl, _⟩ := (ho2.1).shape; obtain ⟨tSa1, tSc1, rfl, _⟩ := (ho2.2.1).shape; obtain ⟨tSa3, tSc3, rfl, _⟩ := (ho2.2.2).shape) | (go_at_call 15; refine (sysReady_any p _ _ _ _ s _ _ _ _ _ _ _ (PrAt.mono ho1.at hb2) ho2.at HSMS.out HSMP.out).mono ?_; rintro e wx3 ⟨rv, rfl, ho3, hb3⟩; rw [← HRR.out] at ho3; obtain ⟨ra, rc, rfl, _⟩ := own_shape ho3))
    all_goals
      have hb : Below w13.heap.size w13 wx3 := below_then (below_then (((Below.refl _ _).drew).trans hb1) hb1.size hb2) (Nat.le_trans hb1.size hb2.size) hb3
      have HQ := (show Hid (OwnInt w13.heap.size wx3 _ R ∧ Below w13.heap.size w13 wx3) from ⟨own_base ho3 (Nat.le_trans hb1.size hb2.size), hb⟩)
      clear hb hb1 hb2 hb3 ho1 ho2 ho3 hz1 hz2 HCP HCS y0 y1 y2 y3
      go_wp2_with fail
      go_meet
      exact ⟨_, _, rfl, HQ.out.1, HQ.out.2⟩
  case rest =>
  obtain ⟨ha, hc, rfl, hown, hb⟩ := hcut
  obtain ⟨w14, hwc⟩ : ∃ w14 : World, w14 = wc := ⟨_, rfl⟩
  subst hwc
  clear HCP HCS
  have eaP0_14 : w14.cell? ⟨w.heap.size, 0, none⟩ = some (.slice aPa0 p.cells.length aPc0) := by rw [hb.cell (p := ⟨w.heap.size, 0, none⟩) (by (try simp); try omega)]; exact eaP0_13
  have eaP1_14 : w14.cell? ⟨w.heap.size, 1, none⟩ = some (.slice aPa1 p.bodies.length aPc1) := by rw [hb.cell (p := ⟨w.heap.size, 1, none⟩) (by (try simp); try omega)]; exact eaP1_13
  have zaP_14 : w.heap.size < w14.heap.size := by have := hb.size; (try simp at this); omega
  have eaS0_14 : w14.cell? ⟨w.heap.size + 1, 0, none⟩ = some (.slice aSa0 s.cells.length aSc0) := by rw [hb.cell (p := ⟨w.heap.size + 1, 0, none⟩) (by (try simp); try omega)]; exact eaS0_13
  have eaS1_14 : w14.cell? ⟨w.heap.size + 1, 1, none⟩ = some (.slice aSa1 s.tasks.length aSc1) := by rw [hb.cell (p := ⟨w.heap.size + 1, 1, none⟩) (by (try simp); try omega)]; exact eaS1_13
  have eaS2_14 : w14.cell? ⟨w.heap.size + 1, 2, none⟩ = some (.int .i64 s.clock) := by rw [hb.cell (p := ⟨w.heap.size + 1, 2, none⟩) (by (try simp); try omega)]; exact eaS2_13
  have eaS3_14 : w14.cell? ⟨w.heap.size + 1, 3, none⟩ = some (.slice aSa3 s.log.length aSc3) := by rw [hb.cell (p := ⟨w.heap.size + 1, 3, none⟩) (by (try simp); try omega)]; exact eaS3_13
  have zaS_14 : w.heap.size + 1 < w14.heap.size := by have := hb.size; (try simp at this); omega
  have HB14 : Hid (Below w.heap.size w w14) := below_then HB13.out HB13.out.size hb
  have HS_14 := (show Hid (OwnInt w.heap.size w14 _ R) from own_below HS_13.out hb (Nat.le_refl _))
  have HM14 := (show Hid (HeldT w14 _ 1) from HeldT.below HM13.out (fun a ha => (RowSh.trail HGS13.out a ha).2) hb)
  have HGS14 := (show Hid (RowSh 1 w14 _) from HGS13.out.set (IntSet.below hb))
  have HH14 := (show Hid (OwnInt w.heap.size w14 _ R) from own_base hown HB13.out.size)
  clear hown hb
  clear eaP0_13 eaP1_13 eaS0_13 eaS1_13 eaS2_13 eaS3_13 zaP_13 zaS_13
  clear HB13 HS_13 HM13 HGS13
  go_wp2_with fail
  refine (eqIntS_same _ _ R _ HH14.out.at HS_14.out.at).mono ?_
  rintro e w15 ⟨rfl, hb⟩
  have eaP0_15 : w15.cell? ⟨w.heap.size, 0, none⟩ = some (.slice aPa0 p.cells.length aPc0) := by rw [hb.cell (p := ⟨w.heap.size, 0, none⟩) (by (try simp); try omega)]; exact eaP0_14
  have eaP1_15 : w15.cell? ⟨w.heap.size, 1, none⟩ = some (.slice aPa1 p.bodies.length aPc1) := by rw [hb.cell (p := ⟨w.heap.size, 1, none⟩) (by (try simp); try omega)]; exact eaP1_14
  have zaP_15 : w.heap.size < w15.heap.size := by have := hb.size; (try simp at this); omega
  have eaS0_15 : w15.cell? ⟨w.heap.size + 1, 0, none⟩ = some (.slice aSa0 s.cells.length aSc0) := by rw [hb.cell (p := ⟨w.heap.size + 1, 0, none⟩) (by (try simp); try omega)]; exact eaS0_14
  have eaS1_15 : w15.cell? ⟨w.heap.size + 1, 1, none⟩ = some (.slice aSa1 s.tasks.length aSc1) := by rw [hb.cell (p := ⟨w.heap.size + 1, 1, none⟩) (by (try simp); try omega)]; exact eaS1_14
  have eaS2_15 : w15.cell? ⟨w.heap.size + 1, 2, none⟩ = some (.int .i64 s.clock) := by rw [hb.cell (p := ⟨w.heap.size + 1, 2, none⟩) (by (try simp); try omega)]; exact eaS2_14
  have eaS3_15 : w15.cell? ⟨w.heap.size + 1, 3, none⟩ = some (.slice aSa3 s.log.length aSc3) := by rw [hb.cell (p := ⟨w.heap.size + 1, 3, none⟩) (by (try simp); try omega)]; exact eaS3_14
  have zaS_15 : w.heap.size + 1 < w15.heap.size := by have := hb.size; (try simp at this); omega
  have HB15 : Hid (Below w.heap.size w w15) := below_then HB14.out HB14.out.size hb
  have HS_15 := (show Hid (OwnInt w.heap.size w15 _ R) from own_below HS_14.out hb (Nat.le_refl _))
  have HM15 := (show Hid (HeldT w15 _ 1) from HeldT.below HM14.out (fun a ha => (RowSh.trail HGS14.out a ha).2) hb)
  have HGS15 := (show Hid (RowSh 1 w15 _) from HGS14.out.set (IntSet.below hb))
  have HH15 := (show Hid (OwnInt w.heap.size w15 _ R) from own_below HH14.out hb (Nat.le_refl _))
  clear hb
  clear eaP0_14 eaP1_14 eaS0_14 eaS1_14 eaS2_14 eaS3_14 zaP_14 zaS_14
  clear HB14 HS_14 HM14 HGS14 HH14
  go_wp2_with fail
  refine (heldIntS_tr _ _ _ HGS15.out HM15.out (by omega) (by omega)).mono ?_
  rintro e wh ⟨rfl, hw⟩
  have hw := hw.symm
  subst hw
  go_wp2_with fail
  go_ret
  exact ⟨rfl, HB15.out⟩

end Go.Proofs.YtdgihncobihbgaaGreat
