import Derived.Test.YtgbgjljflgbcaaaBase38
import Derived.Test.YtgbgjljflgbcaaaBase39
namespace Go.Proofs.Ytgbgjljflgbcaaa
open Go.RowKit
set_option linter.unusedSimpArgs false
set_option linter.unusedVariables false
set_option maxRecDepth 20000
def RestR (p : Pr) (s : Sy) (m : Nat) (w : World) (r : Ending) (w' : World) : Prop :=
  ∃ cv' tv' lv', r = .returned (.tuple #[.agg #[cv', tv', .int .i64 (restS p s m).clock, lv'], .bool true]) ∧ OwnS w.heap.size w' cv' tv' lv' (restS p s m) ∧ Below w.heap.size w w'
theorem stepS_more {p : Pr} {s : Sy} {i : Nat} (hi : i < s.tasks.length) : s.tasks.length ≤ (stepS p s i).tasks.length := by
  unfold stepS
  split
  · rw [awaitS_len]; exact Nat.le_refl _
  split
  · simp only
    split
    · rw [(Form1.try hi _).len]; exact Nat.le_refl _
    split
    · unfold forkS
      rw [setTk_len]
      simp
    split
    · rw [setTk_len]; exact Nat.le_refl _
    · rw [setTk_len]; exact Nat.le_refl _
  · rw [setTk_len]; exact Nat.le_refl _
theorem Rn.alloc {Y : Nat} {V wr : World} {p : Pr} {s1 : Sy} (h : Rn Y V p s1 wr) (o : Obj) : Rn Y V p s1 (wr.alloc o) := by
  obtain ⟨cv, tv, lv, hb, hs⟩ := h.ex
  exact ⟨⟨cv, tv, lv, (Below.heap_alloc wr o Y (bx_lt hb)).trans hb, hs.below ((Below.refl _ _).alloc (Nat.le_refl _) o) (Nat.le_refl _)⟩, h.fr.alloc o⟩
theorem doS_more (p : Pr) (s : Sy) (k : Int) : s.tasks.length ≤ (doS p s k).tasks.length := by
  unfold doS
  split
  · rename_i e; exact stepS_more (doB_at e).1
  · exact Nat.le_refl _
set_option maxHeartbeats 8000000 in
theorem sysRest_yes (S : Nat → Prop) (p : Pr) (s : Sy) (m : Nat) (pc pb cv tv lv : Value) (w : World) (hP : PrS (fun b => b < w.heap.size) w pc pb p) (h : SyOn S w cv tv lv s) (hok : mSoB p s = true) (hx : Inx p s) (hsp : SmallP p) (hl : m ≤ 2000) :
    Calls Try.prog 106 #[.agg #[pc, pb], .agg #[cv, tv, .int .i64 s.clock, lv], .int .i64 (m : Int)] w (RestR p s m w) := by
  obtain ⟨pa, pca, rfl, _⟩ := hP.1.shape
  obtain ⟨pba, pbc, rfl, _⟩ := hP.2.shape
  obtain ⟨aa, ca, ta, tc, la, lc, rfl, rfl, rfl⟩ := h.shapes
  have HP := (show Hid (PrS _ _ _ _ _) from hP)
  have HS := (show Hid (SyOn _ _ _ _ _ _) from h)
  have HX := (show Hid (Inx _ _) from hx)
  have HOK := (show Hid (_ = _) from hok)
  have HSP := (show Hid (SmallP _) from hsp)
  clear hP h hx hok hsp
  have HY : Hid (∃ V, V = (((w.alloc (.cells #[.slice pa p.cells.length pca, .slice pba p.bodies.length pbc] 26)).alloc (.cells #[.slice aa s.cells.length ca, .slice ta s.tasks.length tc, .int .i64 s.clock, .slice la s.log.length lc] 32)).alloc (.cells #[.slice none 0 0, .slice none 0 0, .int .i64 0, .slice none 0 0] 32)) ∧ PBox V w.heap.size (.slice pa p.cells.length pca) (.slice pba p.bodies.length pbc) ∧ V.heap[w.heap.size + 1]? = some (.cells #[.slice aa s.cells.length ca, .slice ta s.tasks.length tc, .int .i64 s.clock, .slice la s.log.length lc] 32 (0, 0)) ∧ V.heap[w.heap.size + 2]? = some (.cells #[.slice none 0 0, .slice none 0 0, .int .i64 0, .slice none 0 0] 32 (0, 0)) ∧ V.heap.size = w.heap.size + 3 ∧ Below w.heap.size w V) := by
    refine ⟨_, rfl, PBox.alloc (PBox.alloc (heap_alloc_new w _) _) _, ?_, ?_, by simp, (((Below.refl _ _).alloc (Nat.le_refl _) _).alloc (by simp) _).alloc (by simp; omega) _⟩
    · rw [Below.heap_alloc _ _ _ (by simp)]
      simpa using heap_alloc_new (w.alloc (.cells #[.slice pa p.cells.length pca, .slice pba p.bodies.length pbc] 26)) (.cells #[.slice aa s.cells.length ca, .slice ta s.tasks.length tc, .int .i64 s.clock, .slice la s.log.length lc] 32)
    · simpa using heap_alloc_new ((w.alloc (.cells #[.slice pa p.cells.length pca, .slice pba p.bodies.length pbc] 26)).alloc (.cells #[.slice aa s.cells.length ca, .slice ta s.tasks.length tc, .int .i64 s.clock, .slice la s.log.length lc] 32)) (.cells #[.slice none 0 0, .slice none 0 0, .int .i64 0, .slice none 0 0] 32)
  go_enter Try.func106, Try.ntmps106
  go_wp2_with fail
  obtain ⟨V, hV, hVP, hVY, hVZ, hVs, hVb⟩ := HY.out
  rw [← hV]
  clear hV HY
  have hVg : w.heap.size + 2 < V.heap.size := by omega
  clear hVs
  revert hVP hVY hVZ hVg
  generalize hYe : w.heap.size + 1 = Y
  generalize hZe : Y + 1 = Z
  have e2 : w.heap.size + 2 = Z := by omega
  rw [e2]
  have hwY : w.heap.size < Y := by omega
  have hYZ : Y < Z := by omega
  clear e2 hYe hZe
  intro hVP hVY hVZ hVg
  have HVP := (show Hid (PBox _ _ _ _) from hVP)
  have HVY := (show Hid (_ = _) from hVY)
  have HVZ := (show Hid (_ = _) from hVZ)
  have HVB := (show Hid (Below _ _ _) from hVb)
  have hsw := hVb.size
  clear hVP hVY hVZ hVb
  refine (sSysOk_any p pa pba pca pbc s aa ta la ca tc lc V ⟨HP.out.1.at.mono HVB.out, HP.out.2.at.mono HVB.out⟩ (HS.out.at.mono HVB.out) HX.out.sm HSP.out).mono ?_
  rw [HOK.out]
  rintro e w1 ⟨rfl, hb1⟩
  have hs1 := hb1.size
  have HVY1 : Hid (w1.heap[Y]? = _) := (hb1.block Y (by omega)).trans HVY.out
  have HB1 := (show Hid (Below V.heap.size V w1) from hb1)
  have HBw1 : Hid (Below w.heap.size w w1) := HVB.out.trans (hb1.mono hsw)
  clear hb1
  obtain ⟨⟨y0, y1, y2, y3⟩, _, hYl⟩ := box4c HVY1.out
  go_wp2_with fail
  refine (l6In_any (m : Int) 0 2000 _).mono ?_
  rw [show inB (m : Int) 0 2000 = true from by rw [inB_iff]; omega]
  rintro e w1' ⟨rfl, hw1⟩
  have hw1 := hw1.symm
  subst hw1
  go_wp2_with fail
  refine (l11Copy_any s _ _ _ _ (HS.out.at.mono HBw1.out) HX.out.sm).mono ?_
  rintro e w2 ⟨f, cv', tv', lv', T, L, rfl, hO, hT, hL, hb2⟩
  have hs2 := hb2.size
  have HS2 : Hid (OwnS V.heap.size w2 cv' tv' lv' s) := OwnS.base ⟨f, T, L, hO, hT, hL⟩ (by omega)
  have HVY2 : Hid (w2.heap[Y]? = _) := (hb2.block Y (by omega)).trans HVY1.out
  have HR2 : Hid (Rn Y V p s ((((w2.setCell ⟨Y, 0, none⟩ cv').setCell ⟨Y, 1, none⟩ tv').setCell ⟨Y, 2, none⟩ (.int .i64 s.clock)).setCell ⟨Y, 3, none⟩ lv')) :=
    Rn.store (by omega) (FrS.of_below (HB1.out.trans (hb2.mono hs1))) HVY2.out HS2.out
  obtain ⟨xa, xc, ya, yc, za, zc, rfl, rfl, rfl⟩ := HS2.out.on.shapes
  clear hO hT hL hb2 y0 y1 y2 y3 hYl HVY1 HB1 HBw1
  obtain ⟨⟨y0, y1, y2, y3⟩, ⟨g0, g1, g2, g3⟩, hYl⟩ := box4c HVY2.out
  go_wp2_with fail
  go_loopw [2, 8] (fun q b w' => ∃ (k : Nat) (t : Bool) (s1 : Sy), q = .int .i64 k ∧ b = .bool t ∧ k ≤ m ∧ Inx p s1 ∧ (if t then restS p s1 k else s1) = restS p s m ∧ Rn Y V p s1 w') (fun q b _ => 2 * (intOf q).toNat + (match b with | .bool true => 1 | _ => 0))
  case atStart => exact ⟨m, true, s, rfl, rfl, Nat.le_refl _, HX.out, by simp, HR2.out⟩
  case round =>
    obtain ⟨k, t, s0, rfl, rfl, hkm, hx0, he0, hrn⟩ := hrel
    have HX0 := (show Hid (Inx _ _) from hx0)
    have HE0 := (show Hid (_ = _) from he0)
    have HRN := (show Hid (Rn _ _ _ _ _) from hrn)
    clear y0 y1 y2 y3 g0 g1 g2 g3 hYl HVY2 HS2 HR2 HS HX HOK HVY hx0 he0 hrn
    by_cases hgo : t = true ∧ 0 < k
    case neg =>
      have hsr := HRN.out.fr.size
      have HBW : Hid (Below w.heap.size w wr) := HVB.out.trans (HRN.out.fr.below (fun b hb => by have hb : b = Y := hb; omega) hsw)
      have HE : Hid (restS p s m = s0) := by
        unfold Hid
        rw [← HE0.out]
        cases t
        · rfl
        · have : k = 0 := by
            rcases Nat.eq_zero_or_pos k with h0 | h0
            · exact h0
            · exact absurd ⟨rfl, h0⟩ hgo
          subst this
          exact restS_zero
      obtain ⟨cv1, tv1, lv1, hbx, hsy⟩ := HRN.out.ex
      obtain ⟨c1, m1, t1, n1, l1, o1, rfl, rfl, rfl⟩ := hsy.on.shapes
      have HBX := (show Hid (_ = _) from hbx)
      have HSY := (show Hid (OwnS _ _ _ _ _ _) from hsy)
      have HZB : Hid (wr.heap[Z]? = _) := (HRN.out.fr.block Z (by omega) (by show ¬ Z = Y; omega)).trans HVZ.out
      clear hbx hsy
      obtain ⟨⟨y0, y1, y2, y3⟩, _, hYl⟩ := box4c HBX.out
      obtain ⟨⟨z0, z1, z2, z3⟩, ⟨f0, f1, f2, f3⟩, hZl⟩ := box4c HZB.out
      obtain ⟨⟨r0, r1, r2, r3⟩, _, _⟩ := box4c (box4 (b0 := .slice c1 s0.cells.length m1) (b1 := .slice t1 s0.tasks.length n1) (b2 := .int .i64 s0.clock) (b3 := .slice l1 s0.log.length o1) HZB.out).1
      have HRR : Hid (OwnS w.heap.size ((((wr.setCell ⟨Z, 0, none⟩ (.slice c1 s0.cells.length m1)).setCell ⟨Z, 1, none⟩ (.slice t1 s0.tasks.length n1)).setCell ⟨Z, 2, none⟩ (.int .i64 s0.clock)).setCell ⟨Z, 3, none⟩ (.slice l1 s0.log.length o1)) (.slice c1 s0.cells.length m1) (.slice t1 s0.tasks.length n1) (.slice l1 s0.log.length o1) s0 ∧ Below w.heap.size w ((((wr.setCell ⟨Z, 0, none⟩ (.slice c1 s0.cells.length m1)).setCell ⟨Z, 1, none⟩ (.slice t1 s0.tasks.length n1)).setCell ⟨Z, 2, none⟩ (.int .i64 s0.clock)).setCell ⟨Z, 3, none⟩ (.slice l1 s0.log.length o1))) :=
        ⟨((((HSY.out.setX hVg _).setX hVg _).setX hVg _).setX hVg _).base hsw, (((HBW.out.setCell (by simp; omega) _).setCell (by simp; omega) _).setCell (by simp; omega) _).setCell (by simp; omega) _⟩
      have HR4 : Hid ((((((wr.setCell ⟨Z, 0, none⟩ (.slice c1 s0.cells.length m1)).setCell ⟨Z, 1, none⟩ (.slice t1 s0.tasks.length n1)).setCell ⟨Z, 2, none⟩ (.int .i64 s0.clock)).setCell ⟨Z, 3, none⟩ (.slice l1 s0.log.length o1))).cell? ⟨Z, 0, none⟩ = some (.slice c1 s0.cells.length m1) ∧ True) := ⟨r0, trivial⟩
      cases t
      · go_wp2_with fail
        (try simp only [Exit.inBlock, Exit.then])
        refine bodyPost_ret (v := .tuple #[.agg #[.slice c1 s0.cells.length m1, .slice t1 s0.tasks.length n1, .int .i64 s0.clock, .slice l1 s0.log.length o1], .bool true]) ?_ rfl ⟨_, _, _, by rw [HE.out], by rw [HE.out]; exact HRR.out.1, HRR.out.2⟩
        rw [results_cell_tmp rfl]
        go_simp
      · have hk0 : k = 0 := by
          rcases Nat.eq_zero_or_pos k with h0 | h0
          · exact h0
          · exact absurd ⟨rfl, h0⟩ hgo
        subst hk0
        go_wp2_with fail
        (try simp only [Exit.inBlock, Exit.then])
        refine bodyPost_ret (v := .tuple #[.agg #[.slice c1 s0.cells.length m1, .slice t1 s0.tasks.length n1, .int .i64 s0.clock, .slice l1 s0.log.length o1], .bool true]) ?_ rfl ⟨_, _, _, by rw [HE.out], by rw [HE.out]; exact HRR.out.1, HRR.out.2⟩
        rw [results_cell_tmp rfl]
        go_simp
    case pos =>
    obtain ⟨rfl, hk0⟩ := hgo
    have hk0' : (0 : Int) < (k : Int) := by omega
    have HTOT : Hid (restS p s0 k = restS p s m) := by have := HE0.out; unfold Hid; simpa using this
    clear HE0
    go_wp2_with fail
    go_loopw [2, 8, 9] (fun q b i w' => ∃ (k1 : Nat) (t : Bool) (j : Nat) (s1 : Sy), q = .int .i64 k1 ∧ b = .bool t ∧ i = .int .i64 j ∧ k1 ≤ k ∧ j ≤ 7 ∧ j ≤ s1.tasks.length ∧ Inx p s1 ∧ rndS p (8 - j) s1 j k1 t = rndS p 8 s0 0 k false ∧ Rn Y V p s1 w') (fun _ _ i _ => 8 - (intOf i).toNat)
    case atStart => exact ⟨k, false, 0, s0, rfl, rfl, rfl, Nat.le_refl _, by omega, Nat.zero_le _, HX0.out, rfl, HRN.out⟩
    clear HRN HX0
    case round =>
      obtain ⟨k1, t, j, s1, rfl, rfl, rfl, hk1, hj7, hjl, hx1, he1, hrn⟩ := hrel
      have HX1 := (show Hid (Inx _ _) from hx1)
      have HE1 := (show Hid (_ = _) from he1)
      have HRN := (show Hid (Rn _ _ _ _ _) from hrn)
      have hn7 : s1.tasks.length ≤ 7 := hx1.w.i.bd.n7
      have hsr := hrn.fr.size
      have HBW : Hid (Below w.heap.size w wr) := HVB.out.trans (hrn.fr.below (fun b hb => by have hb : b = Y := hb; omega) hsw)
      obtain ⟨cv1, tv1, lv1, hbx, hsy⟩ := hrn.ex
      obtain ⟨c1, m1, t1, n1, l1, o1, rfl, rfl, rfl⟩ := hsy.on.shapes
      have HBX := (show Hid (_ = _) from hbx)
      have HSY := (show Hid (OwnS _ _ _ _ _ _) from hsy)
      have HPB : Hid (PBox wr w.heap.size (.slice pa p.cells.length pca) (.slice pba p.bodies.length pbc)) := HVP.out.heap (hrn.fr.block _ (by omega) (by show ¬ w.heap.size = Y; omega))
      clear hx1 he1 hrn hbx hsy
      obtain ⟨⟨y0, y1, y2, y3⟩, ⟨g0, g1, g2, g3⟩, hYl⟩ := box4c HBX.out
      by_cases hin : j < s1.tasks.length ∧ 0 < k1
      case neg =>
        have HEND : Hid ((s1, k1, t) = rndS p 8 s0 0 k false) := by
          have := HE1.out
          rw [rnd_stop hin] at this
          exact this
        have HNEXT : Hid ((if t then restS p s1 k1 else s1) = restS p s m) := by
          unfold Hid
          rw [← HTOT.out]
          cases t
          · rw [restS_none hk0 (by rw [← HEND.out]), ← HEND.out]; rfl
          · rw [restS_some hk0 (by rw [← HEND.out]), ← HEND.out]; rfl
        have HM : Hid (t = true → k1 < k) := fun e => by
          have := (rnd_most (p := p) 8 (s := s0) (i := 0) (m := k) (b := false)).2 rfl (by rw [← HEND.out]; exact e)
          rw [← HEND.out] at this
          exact this
        by_cases hj : j < s1.tasks.length
        · have hk10 : k1 = 0 := by
            rcases Nat.eq_zero_or_pos k1 with h0 | h0
            · exact h0
            · exact absurd ⟨hj, h0⟩ hin
          subst hk10
          have hj' : (j : Int) < (s1.tasks.length : Int) := by omega
          go_wp2_with fail
          go_roundw
          case rel => exact ⟨0, t, s1, by go_num, rfl, by omega, HX1.out, HNEXT.out, HRN.out⟩
          case measure => cases t <;> simp [intOf] <;> omega
        · have hj' : ¬ (j : Int) < (s1.tasks.length : Int) := by omega
          go_wp2_with fail
          go_roundw
          case rel => exact ⟨k1, t, s1, rfl, rfl, by omega, HX1.out, HNEXT.out, HRN.out⟩
          case measure =>
            cases t
            · simp [intOf]; omega
            · have := HM.out rfl
              simp [intOf]; omega
      case pos =>
      obtain ⟨hj, hk10⟩ := hin
      have hj' : (j : Int) < (s1.tasks.length : Int) := by omega
      have hk10' : (0 : Int) < (k1 : Int) := by omega
      have h8 : 8 - j = (8 - (j + 1)) + 1 := by omega
      obtain ⟨p0, p1, _, _⟩ := HPB.out.cells
      have hPl := HPB.out.lt
      go_wp2_with fail
      refine (l11Do_any (fun b => V.heap.size ≤ b) p s1 (j : Int) _ _ _ _ _ _ ⟨(HP.out.1.kept (Kept.below HBW.out)).wide (fun b hb => by have : b < w.heap.size := hb; show b < wr.heap.size; omega), (HP.out.2.kept (Kept.below HBW.out)).wide (fun b hb => by have : b < w.heap.size := hb; show b < wr.heap.size; omega)⟩ HSY.out.on HX1.out.w HX1.out.sm).mono ?_
      rintro e w5 ⟨cv5, tv5, lv5, rfl, hS5, hE5, hO5, hb5⟩
      have HB5 := (show Hid (Below _ _ _) from hb5)
      have HS5 : Hid (OwnS V.heap.size w5 cv5 tv5 lv5 (doS p s1 (j : Int))) := OwnS.turn HSY.out hE5 hO5 hb5 hsr
      have hs5 := hb5.size
      have HY5 : Hid (w5.heap[Y]? = _) := (hb5.block Y hYl).trans HBX.out
      clear hS5 hE5 hO5 hb5 y0 y1 y2 y3 g0 g1 g2 g3 hYl
      obtain ⟨⟨y0, y1, y2, y3⟩, ⟨g0, g1, g2, g3⟩, hYl⟩ := box4c HY5.out
      obtain ⟨xa, xc, ya, yc, za, zc, rfl, rfl, rfl⟩ := HS5.out.on.shapes
      cases hd : doB s1 (j : Int)
      · have HNO : Hid (rndS p (8 - (j + 1)) s1 (j + 1) k1 t = rndS p 8 s0 0 k false) := by
          have := HE1.out
          rw [h8, rnd_no hj hk10 hd] at this
          exact this
        have hdo := doS_no (p := p) hd
        have HRN5 : Hid (∀ o, Rn Y V p s1 (w5.alloc o)) := fun o => by
          refine ⟨?_, HRN.out.fr.trans (FrS.of_below (HB5.out.alloc HB5.out.size o))⟩
          refine ⟨_, _, _, (Below.heap_alloc w5 o Y (by omega)).trans HY5.out, ?_⟩
          exact HSY.out.below (HB5.out.alloc HB5.out.size o) (Nat.le_refl _)
        clear hd hdo
        go_wp2_with fail
        go_roundw
        case rel => exact ⟨k1, t, j + 1, s1, rfl, rfl, by go_num, hk1, by omega, by omega, HX1.out, HNO.out, HRN5.out _⟩
        case measure => simp [intOf]; omega
      · have HYES : Hid (rndS p (8 - (j + 1)) (doS p s1 j) (j + 1) (k1 - 1) true = rndS p 8 s0 0 k false) := by
          have := HE1.out
          rw [h8, rnd_yes hj hk10 hd] at this
          exact this
        have HXD : Hid (Inx p (doS p s1 j)) := HX1.out.do j
        have hlen : s1.tasks.length ≤ (doS p s1 (j : Int)).tasks.length := doS_more p s1 _
        clear hd
        have hsub : IntKind.i64.wrap ((k1 : Int) - 1) = ((k1 - 1 : Nat) : Int) := by rw [IntKind.wrap_i64]; omega
        have HRN5 : Hid (∀ o, Rn Y V p (doS p s1 j) (((((w5.setCell ⟨Y, 0, none⟩ (.slice xa (doS p s1 j).cells.length xc)).setCell ⟨Y, 1, none⟩ (.slice ya (doS p s1 j).tasks.length yc)).setCell ⟨Y, 2, none⟩ (.int .i64 (doS p s1 j).clock)).setCell ⟨Y, 3, none⟩ (.slice za (doS p s1 j).log.length zc)).alloc o)) := fun o =>
          (Rn.store (by omega) (HRN.out.fr.trans (FrS.of_below HB5.out)) HY5.out HS5.out).alloc o
        go_wp2_with fail
        go_roundw
        case rel => exact ⟨k1 - 1, true, j + 1, doS p s1 j, rfl, rfl, by go_num, by omega, by omega, by omega, HXD.out, HYES.out, HRN5.out _⟩
        case measure => simp [intOf]; omega
end Go.Proofs.Ytgbgjljflgbcaaa

namespace Go.Proofs.Ytgbgjljflgbcaaa
open Go.RowKit
set_option linter.unusedSimpArgs false
set_option linter.unusedVariables false
set_option maxRecDepth 20000
theorem SyAt.shapes {w : World} {cv tv lv : Value} {s : Sy} (h : SyAt w cv tv lv s) : ∃ a1 c1 a2 c2 a3 c3, cv = .slice a1 s.cells.length c1 ∧ tv = .slice a2 s.tasks.length c2 ∧ lv = .slice a3 s.log.length c3 := by
  obtain ⟨a1, c1, e1, _⟩ := ces_src h.1
  obtain ⟨a2, c2, e2, _⟩ := h.2.1.cap
  obtain ⟨a3, c3, e3, _⟩ := h.2.2.cap
  exact ⟨a1, c1, a2, c2, a3, c3, e1, e2, e3⟩
set_option maxHeartbeats 8000000 in
theorem sysRun_no (p : Pr) (s : Sy) (ts : List Int) (tsa : Option Addr) (tsc : Nat) (pc pb cv tv lv : Value) (w : World) (hP : PrAt w pc pb p) (h : SyAt w cv tv lv s) (hsm : SmSy s) (hsp : SmallP p) (hno : mSoB p s = false ∨ 300 < ts.length) :
    Calls Try.prog 51 #[.agg #[pc, pb], .agg #[cv, tv, .int .i64 s.clock, lv], .slice tsa ts.length tsc] w fun r w' => r = .returned (.tuple #[.agg #[.slice none 0 0, .slice none 0 0, .int .i64 0, .slice none 0 0], .bool false]) ∧ Below w.heap.size w w' := by
  obtain ⟨pa, pca, rfl, _⟩ := hP.1.shape
  obtain ⟨pba, pbc, rfl, _⟩ := hP.2.shape
  obtain ⟨aa, ca, ta, tc, la, lc, rfl, rfl, rfl⟩ := h.shapes
  have HP := (show Hid (PrAt _ _ _ _) from hP)
  have HS := (show Hid (SyAt _ _ _ _ _) from h)
  have HX := (show Hid (SmSy _) from hsm)
  have HSP := (show Hid (SmallP _) from hsp)
  clear hP h hsm hsp
  have HY : Hid (∃ V, V = (((w.alloc (.cells #[.slice pa p.cells.length pca, .slice pba p.bodies.length pbc] 26)).alloc (.cells #[.slice aa s.cells.length ca, .slice ta s.tasks.length tc, .int .i64 s.clock, .slice la s.log.length lc] 32)).alloc (.cells #[.slice none 0 0, .slice none 0 0, .int .i64 0, .slice none 0 0] 32)) ∧ PBox V w.heap.size (.slice pa p.cells.length pca) (.slice pba p.bodies.length pbc) ∧ V.heap[w.heap.size + 1]? = some (.cells #[.slice aa s.cells.length ca, .slice ta s.tasks.length tc, .int .i64 s.clock, .slice la s.log.length lc] 32 (0, 0)) ∧ V.heap[w.heap.size + 2]? = some (.cells #[.slice none 0 0, .slice none 0 0, .int .i64 0, .slice none 0 0] 32 (0, 0)) ∧ V.heap.size = w.heap.size + 3 ∧ Below w.heap.size w V) := by
    refine ⟨_, rfl, PBox.alloc (PBox.alloc (heap_alloc_new w _) _) _, ?_, ?_, by simp, (((Below.refl _ _).alloc (Nat.le_refl _) _).alloc (by simp) _).alloc (by simp; omega) _⟩
    · rw [Below.heap_alloc _ _ _ (by simp)]
      simpa using heap_alloc_new (w.alloc (.cells #[.slice pa p.cells.length pca, .slice pba p.bodies.length pbc] 26)) (.cells #[.slice aa s.cells.length ca, .slice ta s.tasks.length tc, .int .i64 s.clock, .slice la s.log.length lc] 32)
    · simpa using heap_alloc_new ((w.alloc (.cells #[.slice pa p.cells.length pca, .slice pba p.bodies.length pbc] 26)).alloc (.cells #[.slice aa s.cells.length ca, .slice ta s.tasks.length tc, .int .i64 s.clock, .slice la s.log.length lc] 32)) (.cells #[.slice none 0 0, .slice none 0 0, .int .i64 0, .slice none 0 0] 32)
  go_enter Try.func51, Try.ntmps51
  go_wp2_with fail
  obtain ⟨V, hV, hVP, hVY, hVZ, hVs, hVb⟩ := HY.out
  rw [← hV]
  clear hV HY
  have hVg : w.heap.size + 2 < V.heap.size := by omega
  clear hVs
  revert hVP hVY hVZ hVg
  generalize hYe : w.heap.size + 1 = Y
  generalize hZe : Y + 1 = Z
  have e2 : w.heap.size + 2 = Z := by omega
  rw [e2]
  have hwY : w.heap.size < Y := by omega
  have hYZ : Y < Z := by omega
  clear e2 hYe hZe
  intro hVP hVY hVZ hVg
  have HVP := (show Hid (PBox _ _ _ _) from hVP)
  have HVY := (show Hid (_ = _) from hVY)
  have HVZ := (show Hid (_ = _) from hVZ)
  have HVB := (show Hid (Below _ _ _) from hVb)
  have hsw := hVb.size
  clear hVP hVY hVZ hVb
  refine (sSysOk_any p pa pba pca pbc s aa ta la ca tc lc V (HP.out.mono HVB.out) (HS.out.mono HVB.out) HX.out HSP.out).mono ?_
  rintro e w1 ⟨rfl, hb1⟩
  have hs1 := hb1.size
  have HVZ1 : Hid (w1.heap[Z]? = _) := (hb1.block Z (by omega)).trans HVZ.out
  have HBw1 : Hid (Below w.heap.size w w1) := HVB.out.trans (hb1.mono hsw)
  clear hb1 HVY HVZ HVB
  cases hm : mSoB p s
  · clear hm hno
    obtain ⟨⟨z0, z1, z2, z3⟩, ⟨f0, f1, f2, f3⟩, hZl⟩ := box4c HVZ1.out
    go_wp2_with fail
    (try simp only [Exit.inBlock, Exit.then])
    obtain ⟨⟨r0, r1, r2, r3⟩, _, _⟩ := box4c (box4 (b0 := .slice none 0 0) (b1 := .slice none 0 0) (b2 := .int .i64 0) (b3 := .slice none 0 0) HVZ1.out).1
    refine bodyPost_ret (v := .tuple #[.agg #[.slice none 0 0, .slice none 0 0, .int .i64 0, .slice none 0 0], .bool false]) ?_ rfl ⟨rfl, (((HBw1.out.setCell (by simp; omega) _).setCell (by simp; omega) _).setCell (by simp; omega) _).setCell (by simp; omega) _⟩
    rw [results_cell_tmp rfl]
    go_simp
  · have hn : (300 : Int) < (ts.length : Int) := by
      rcases hno with h | h
      · rw [h] at hm; cases hm
      · omega
    clear hm hno
    obtain ⟨⟨z0, z1, z2, z3⟩, ⟨f0, f1, f2, f3⟩, hZl⟩ := box4c HVZ1.out
    go_wp2_with fail
    (try simp only [Exit.inBlock, Exit.then])
    obtain ⟨⟨r0, r1, r2, r3⟩, _, _⟩ := box4c (box4 (b0 := .slice none 0 0) (b1 := .slice none 0 0) (b2 := .int .i64 0) (b3 := .slice none 0 0) HVZ1.out).1
    refine bodyPost_ret (v := .tuple #[.agg #[.slice none 0 0, .slice none 0 0, .int .i64 0, .slice none 0 0], .bool false]) ?_ rfl ⟨rfl, (((HBw1.out.setCell (by simp; omega) _).setCell (by simp; omega) _).setCell (by simp; omega) _).setCell (by simp; omega) _⟩
    rw [results_cell_tmp rfl]
    go_simp
set_option maxHeartbeats 8000000 in
theorem sysRest_no (p : Pr) (s : Sy) (m : Int) (pc pb cv tv lv : Value) (w : World) (hP : PrAt w pc pb p) (h : SyAt w cv tv lv s) (hsm : SmSy s) (hsp : SmallP p) (hno : mSoB p s = false ∨ inB m 0 2000 = false) :
    Calls Try.prog 106 #[.agg #[pc, pb], .agg #[cv, tv, .int .i64 s.clock, lv], .int .i64 m] w fun r w' => r = .returned (.tuple #[.agg #[.slice none 0 0, .slice none 0 0, .int .i64 0, .slice none 0 0], .bool false]) ∧ Below w.heap.size w w' := by
  obtain ⟨pa, pca, rfl, _⟩ := hP.1.shape
  obtain ⟨pba, pbc, rfl, _⟩ := hP.2.shape
  obtain ⟨aa, ca, ta, tc, la, lc, rfl, rfl, rfl⟩ := h.shapes
  have HP := (show Hid (PrAt _ _ _ _) from hP)
  have HS := (show Hid (SyAt _ _ _ _ _) from h)
  have HX := (show Hid (SmSy _) from hsm)
  have HSP := (show Hid (SmallP _) from hsp)
  clear hP h hsm hsp
  have HY : Hid (∃ V, V = (((w.alloc (.cells #[.slice pa p.cells.length pca, .slice pba p.bodies.length pbc] 26)).alloc (.cells #[.slice aa s.cells.length ca, .slice ta s.tasks.length tc, .int .i64 s.clock, .slice la s.log.length lc] 32)).alloc (.cells #[.slice none 0 0, .slice none 0 0, .int .i64 0, .slice none 0 0] 32)) ∧ PBox V w.heap.size (.slice pa p.cells.length pca) (.slice pba p.bodies.length pbc) ∧ V.heap[w.heap.size + 1]? = some (.cells #[.slice aa s.cells.length ca, .slice ta s.tasks.length tc, .int .i64 s.clock, .slice la s.log.length lc] 32 (0, 0)) ∧ V.heap[w.heap.size + 2]? = some (.cells #[.slice none 0 0, .slice none 0 0, .int .i64 0, .slice none 0 0] 32 (0, 0)) ∧ V.heap.size = w.heap.size + 3 ∧ Below w.heap.size w V) := by
    refine ⟨_, rfl, PBox.alloc (PBox.alloc (heap_alloc_new w _) _) _, ?_, ?_, by simp, (((Below.refl _ _).alloc (Nat.le_refl _) _).alloc (by simp) _).alloc (by simp; omega) _⟩
    · rw [Below.heap_alloc _ _ _ (by simp)]
      simpa using heap_alloc_new (w.alloc (.cells #[.slice pa p.cells.length pca, .slice pba p.bodies.length pbc] 26)) (.cells #[.slice aa s.cells.length ca, .slice ta s.tasks.length tc, .int .i64 s.clock, .slice la s.log.length lc] 32)
    · simpa using heap_alloc_new ((w.alloc (.cells #[.slice pa p.cells.length pca, .slice pba p.bodies.length pbc] 26)).alloc (.cells #[.slice aa s.cells.length ca, .slice ta s.tasks.length tc, .int .i64 s.clock, .slice la s.log.length lc] 32)) (.cells #[.slice none 0 0, .slice none 0 0, .int .i64 0, .slice none 0 0] 32)
  go_enter Try.func106, Try.ntmps106
  go_wp2_with fail
  obtain ⟨V, hV, hVP, hVY, hVZ, hVs, hVb⟩ := HY.out
  rw [← hV]
  clear hV HY
  have hVg : w.heap.size + 2 < V.heap.size := by omega
  clear hVs
  revert hVP hVY hVZ hVg
  generalize hYe : w.heap.size + 1 = Y
  generalize hZe : Y + 1 = Z
  have e2 : w.heap.size + 2 = Z := by omega
  rw [e2]
  have hwY : w.heap.size < Y := by omega
  have hYZ : Y < Z := by omega
  clear e2 hYe hZe
  intro hVP hVY hVZ hVg
  have HVP := (show Hid (PBox _ _ _ _) from hVP)
  have HVY := (show Hid (_ = _) from hVY)
  have HVZ := (show Hid (_ = _) from hVZ)
  have HVB := (show Hid (Below _ _ _) from hVb)
  have hsw := hVb.size
  clear hVP hVY hVZ hVb
  refine (sSysOk_any p pa pba pca pbc s aa ta la ca tc lc V (HP.out.mono HVB.out) (HS.out.mono HVB.out) HX.out HSP.out).mono ?_
  rintro e w1 ⟨rfl, hb1⟩
  have hs1 := hb1.size
  have HVZ1 : Hid (w1.heap[Z]? = _) := (hb1.block Z (by omega)).trans HVZ.out
  have HBw1 : Hid (Below w.heap.size w w1) := HVB.out.trans (hb1.mono hsw)
  clear hb1 HVY HVZ HVB
  cases hm : mSoB p s
  · clear hm hno
    obtain ⟨⟨z0, z1, z2, z3⟩, ⟨f0, f1, f2, f3⟩, hZl⟩ := box4c HVZ1.out
    go_wp2_with fail
    (try simp only [Exit.inBlock, Exit.then])
    obtain ⟨⟨r0, r1, r2, r3⟩, _, _⟩ := box4c (box4 (b0 := .slice none 0 0) (b1 := .slice none 0 0) (b2 := .int .i64 0) (b3 := .slice none 0 0) HVZ1.out).1
    refine bodyPost_ret (v := .tuple #[.agg #[.slice none 0 0, .slice none 0 0, .int .i64 0, .slice none 0 0], .bool false]) ?_ rfl ⟨rfl, (((HBw1.out.setCell (by simp; omega) _).setCell (by simp; omega) _).setCell (by simp; omega) _).setCell (by simp; omega) _⟩
    rw [results_cell_tmp rfl]
    go_simp
  · have hn : inB m 0 2000 = false := by
      rcases hno with h | h
      · rw [h] at hm; cases hm
      · exact h
    have HN := (show Hid (_ = _) from hn)
    clear hm hno hn
    go_wp2_with fail
    refine (l6In_any m 0 2000 _).mono ?_
    rw [HN.out]
    rintro e w1' ⟨rfl, hw1⟩
    have hw1 := hw1.symm
    subst hw1
    obtain ⟨⟨z0, z1, z2, z3⟩, ⟨f0, f1, f2, f3⟩, hZl⟩ := box4c HVZ1.out
    go_wp2_with fail
    (try simp only [Exit.inBlock, Exit.then])
    obtain ⟨⟨r0, r1, r2, r3⟩, _, _⟩ := box4c (box4 (b0 := .slice none 0 0) (b1 := .slice none 0 0) (b2 := .int .i64 0) (b3 := .slice none 0 0) HVZ1.out).1
    refine bodyPost_ret (v := .tuple #[.agg #[.slice none 0 0, .slice none 0 0, .int .i64 0, .slice none 0 0], .bool false]) ?_ rfl ⟨rfl, (((HBw1.out.setCell (by simp; omega) _).setCell (by simp; omega) _).setCell (by simp; omega) _).setCell (by simp; omega) _⟩
    rw [results_cell_tmp rfl]
    go_simp
end Go.Proofs.Ytgbgjljflgbcaaa
