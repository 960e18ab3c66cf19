import Derived.Test.YtpehlekjfnkhoaaDoorX2
namespace Go.Proofs.YtpehlekjfnkhoaaDoor
open Go.RowKit
set_option linter.unusedSimpArgs false
set_option linter.unusedVariables false

def Small (a : Ac) : Prop := a.ds.length ≤ 1048576 ∧ a.ks.length ≤ 1048576
def SmallB (acts : List Ac) : Prop := acts.length ≤ 1048576 ∧ ∀ j, j < acts.length → Small (nth Ac.z acts j)

def ActAtG (S : Nat → Prop) (w : World) (g : Nat) (acts : List Ac) (j : Nat) : Prop :=
  ∃ dv kv, w.cell? ⟨g, j * 4, none⟩ = some (.int .i64 (nth Ac.z acts j).k) ∧ w.cell? ⟨g, j * 4 + 1, none⟩ = some dv ∧ w.cell? ⟨g, j * 4 + 2, none⟩ = some kv ∧ w.cell? ⟨g, j * 4 + 3, none⟩ = some (.int .i64 (nth Ac.z acts j).r) ∧
    DeedsOn S w dv (nth Ac.z acts j).ds ∧ IntsOn S w kv (nth Ac.z acts j).ks
theorem ActAtG.below {S : Nat → Prop} {w w' : World} {g : Nat} {acts : List Ac} {j : Nat} (h : ActAtG S w g acts j) (hg : g < w.heap.size) (hb : Below w.heap.size w w') : ActAtG S w' g acts j := by
  obtain ⟨dv, kv, c0, c1, c2, c3, hd, hk⟩ := h
  rw [← hb.cell (p := ⟨g, _, none⟩) hg] at c0 c1 c2 c3
  exact ⟨dv, kv, c0, c1, c2, c3, hd.kept (Kept.below hb), hk.kept (Kept.below hb)⟩
theorem ActAtG.set4 {S : Nat → Prop} {w : World} {g : Nat} {acts : List Ac} {j : Nat} (h : ActAtG S w g acts j) (hg : ¬ S g) (i : Nat) (hi : j < i) (a b c d : Value) :
    ActAtG S ((((w.setCell ⟨g, i * 4, none⟩ a).setCell ⟨g, i * 4 + 1, none⟩ b).setCell ⟨g, i * 4 + 2, none⟩ c).setCell ⟨g, i * 4 + 3, none⟩ d) g acts j := by
  obtain ⟨dv, kv, c0, c1, c2, c3, hd, hk⟩ := h
  have K : Kept S w ((((w.setCell ⟨g, i * 4, none⟩ a).setCell ⟨g, i * 4 + 1, none⟩ b).setCell ⟨g, i * 4 + 2, none⟩ c).setCell ⟨g, i * 4 + 3, none⟩ d) :=
    (((Kept.set _ _ _ _ hg).trans (Kept.set _ _ _ _ hg)).trans (Kept.set _ _ _ _ hg)).trans (Kept.set _ _ _ _ hg)
  refine ⟨dv, kv, ?_, ?_, ?_, ?_, hd.kept K, hk.kept K⟩
  all_goals rw [set4_out _ _ _ _ _ _ _ _ (by omega)]
  · exact c0
  · exact c1
  · exact c2
  · exact c3

set_option maxHeartbeats 400000 in
theorem toActS_any (v : Value) (xs : List Ac) (w : World) (h : ActsAt w v xs) (hsm : SmallB xs) :
    Calls Tryd.prog 44 #[v] w fun r w' => ∃ v', r = .returned v' ∧ ActsOn (fun b => w.heap.size ≤ b) w' v' xs ∧ Below w.heap.size w w' := by
  obtain ⟨a, cap, rfl, hm, hc⟩ := h
  obtain ⟨hn, hsj⟩ := hsm
  obtain ⟨M, hM, hmk⟩ := make_any (P := Tryd.prog) 31 34 _ 4 64 Tryd.underlying31 Tryd.info_act xs.length (by omega) (by omega)
  go_enter Tryd.func44, Tryd.ntmps44
  go_wp2_with fail
  go_loopw [4] (fun q w' => ∃ k : Nat, k ≤ xs.length ∧ q = .int .i64 k ∧ Below w.heap.size w w' ∧ Blk w' w.heap.size (xs.length * 4) ∧ (∀ j, j < k → ActAtG (fun b => w.heap.size + 1 ≤ b) w' w.heap.size xs j)) (fun q _ => xs.length - (intOf q).toNat)
  case atStart =>
    have hB := Blk.new w M 34
    rw [hM] at hB
    exact ⟨0, Nat.zero_le _, rfl, (Below.refl _ _).alloc (Nat.le_refl _) _, hB, fun j hj => absurd hj (Nat.not_lt_zero _)⟩
  clear hmk hM
  case round =>
    obtain ⟨k, hk, rfl, hb, hB, hall⟩ := hrel
    by_cases hlt : k < xs.length
    · obtain ⟨b, off, dv, kv, rfl, hbw, c0, c1, c2, c3, hd, hk'⟩ := hc k hlt
      rw [← hb.cell (p := ⟨b, _, none⟩) hbw] at c0 c1 c2 c3
      obtain ⟨ad, cd, rfl, hmd⟩ := hd.shape
      obtain ⟨ak, ck, rfl, hmk⟩ := hk'.shape
      have HD := (show Hid (DeedsAt _ _ _) from hd.mono hb)
      have HK := (show Hid (IntsAt _ _ _) from hk'.mono hb)
      have HS := (show Hid (Small _) from hsj k hlt)
      clear hc hd hk' hsj
      go_wp2_with fail
      refine (toAct_any (nth Ac.z xs k) _ _ _ HD.out HK.out HS.out.1 HS.out.2).mono ?_
      rintro e w1 ⟨dv', kv', rfl, hd1, hk1, hb1⟩
      obtain ⟨ad', cd', rfl, hmd'⟩ := hd1.shape
      obtain ⟨ak', ck', rfl, hmk'⟩ := hk1.shape
      have hB1 := hB.below hb1
      have HW : Hid (Below w.heap.size w w1) := hb.trans (hb1.mono hb.size)
      have HA : Hid (∀ j, j < k → ActAtG (fun b => w.heap.size + 1 ≤ b) w1 w.heap.size xs j) := fun j hj => (hall j hj).below hB.1 hb1
      obtain ⟨⟨u0, f0⟩, g0⟩ := hB1.2 (k * 4) (by omega)
      obtain ⟨⟨u1, f1⟩, g1⟩ := hB1.2 (k * 4 + 1) (by omega)
      obtain ⟨⟨u2, f2⟩, g2⟩ := hB1.2 (k * 4 + 2) (by omega)
      obtain ⟨⟨u3, f3⟩, g3⟩ := hB1.2 (k * 4 + 3) (by omega)
      have HB : Hid (Blk w1 w.heap.size (xs.length * 4)) := hB1
      have HD1 : Hid (DeedsOn (fun b => w.heap.size + 1 ≤ b) w1 (.slice ad' (nth Ac.z xs k).ds.length cd') (nth Ac.z xs k).ds) := hd1.wide (fun b hb' => by have := hB.1; show w.heap.size + 1 ≤ b; have : wr.heap.size ≤ b := hb'; omega)
      have HK1 : Hid (IntsOn (fun b => w.heap.size + 1 ≤ b) w1 (.slice ak' (nth Ac.z xs k).ks.length ck') (nth Ac.z xs k).ks) := hk1.wide (fun b hb' => by have := hB.1; show w.heap.size + 1 ≤ b; have : wr.heap.size ≤ b := hb'; omega)
      clear hB hall hb hb1 hB1 c0 c1 c2 c3 hd1 hk1 HD HK HS
      go_wp2_with fail
      go_roundw
      case rel =>
        have hng : ¬ (fun b => w.heap.size + 1 ≤ b) w.heap.size := by show ¬ (w.heap.size + 1 ≤ w.heap.size); omega
        refine ⟨k + 1, by omega, by go_num, (((HW.out.setCell (by simp) _).setCell (by simp) _).setCell (by simp) _).setCell (by simp) _, (((HB.out.set _ _).set _ _).set _ _).set _ _, so_far (fun j hj => ?_) ?_⟩
        · exact (HA.out j hj).set4 hng k hj _ _ _ _
        · obtain ⟨i0, i1, i2, i3⟩ := set4_in HB.out (k * 4) (by omega) (.int .i64 (nth Ac.z xs k).k) (.slice ad' (nth Ac.z xs k).ds.length cd') (.slice ak' (nth Ac.z xs k).ks.length ck') (.int .i64 (nth Ac.z xs k).r)
          have K := (((Kept.set (S := fun b => w.heap.size + 1 ≤ b) w1 w.heap.size (k * 4) (.int .i64 (nth Ac.z xs k).k) hng).trans (Kept.set _ _ (k * 4 + 1) (.slice ad' (nth Ac.z xs k).ds.length cd') hng)).trans (Kept.set _ _ (k * 4 + 2) (.slice ak' (nth Ac.z xs k).ks.length ck') hng)).trans (Kept.set _ _ (k * 4 + 3) (.int .i64 (nth Ac.z xs k).r) hng)
          exact ⟨_, _, i0, i1, i2, i3, HD1.out.kept K, HK1.out.kept K⟩
      case measure => simp [intOf]; omega
    · have HI : Hid (ActsOn (fun b => w.heap.size ≤ b) wr (.slice (some ⟨w.heap.size, 0, none⟩) xs.length xs.length) xs) := by
        refine ⟨_, _, rfl, by omega, fun i hi => ?_⟩
        obtain ⟨dv, kv, i0, i1, i2, i3, hd, hk'⟩ := hall i (by omega)
        refine ⟨_, 0, dv, kv, rfl, Nat.le_refl _, hB.1, ?_⟩
        rw [Nat.zero_add]
        exact ⟨i0, i1, i2, i3, hd.wide (fun b hb' => by show w.heap.size ≤ b; have : w.heap.size + 1 ≤ b := hb'; omega), hk'.wide (fun b hb' => by show w.heap.size ≤ b; have : w.heap.size + 1 ≤ b := hb'; omega)⟩
      clear hc hB hall hsj
      go_wp2_with fail
      go_ret
      exact ⟨_, rfl, HI.out, hb⟩

set_option maxHeartbeats 400000 in
theorem toActSS_any (v : Value) (xs : List (List Ac)) (w : World) (h : BodiesAt w v xs) (hn : xs.length ≤ 1048576) (hsj : ∀ j, j < xs.length → SmallB (nth [] xs j)) :
    Calls Tryd.prog 27 #[v] w fun r w' => ∃ v', r = .returned v' ∧ BodiesOn (fun b => w.heap.size ≤ b) w' v' xs ∧ Below w.heap.size w w' := by
  obtain ⟨a, cap, rfl, hm, hc⟩ := h
  obtain ⟨M, hM, hmk⟩ := make_any (P := Tryd.prog) 24 31 _ 1 24 Tryd.underlying24 Tryd.info_acts xs.length (by omega) (by omega)
  go_enter Tryd.func27, Tryd.ntmps27
  go_wp2_with fail
  go_loopw [4] (fun q w' => ∃ k : Nat, k ≤ xs.length ∧ q = .int .i64 k ∧ Below w.heap.size w w' ∧ Blk w' w.heap.size xs.length ∧ (∀ j, j < k → ∃ av, w'.cell? ⟨w.heap.size, j, none⟩ = some av ∧ ActsOn (fun b => w.heap.size + 1 ≤ b) w' av (nth [] xs j))) (fun q _ => xs.length - (intOf q).toNat)
  case atStart =>
    have hB := Blk.new w M 31
    rw [hM, Nat.mul_one] at hB
    exact ⟨0, Nat.zero_le _, rfl, (Below.refl _ _).alloc (Nat.le_refl _) _, hB, fun j hj => absurd hj (Nat.not_lt_zero _)⟩
  clear hmk hM
  case round =>
    obtain ⟨k, hk, rfl, hb, hB, hall⟩ := hrel
    by_cases hlt : k < xs.length
    · obtain ⟨b, off, av, rfl, hbw, c0, ha⟩ := hc k hlt
      rw [← hb.cell (p := ⟨b, _, none⟩) hbw] at c0
      obtain ⟨aa, ca, rfl, hma⟩ := ha.shape
      have HD := (show Hid (ActsAt _ _ _) from ha.mono hb)
      have HS := (show Hid (SmallB _) from hsj k hlt)
      clear hc ha hsj
      go_wp2_with fail
      refine (toActS_any _ (nth [] xs k) _ HD.out HS.out).mono ?_
      rintro e w1 ⟨av', rfl, ha1, hb1⟩
      obtain ⟨aa', ca', rfl, hma'⟩ := ha1.shape
      have hB1 := hB.below hb1
      have HW : Hid (Below w.heap.size w w1) := hb.trans (hb1.mono hb.size)
      have HA : Hid (∀ j, j < k → ∃ av, w1.cell? ⟨w.heap.size, j, none⟩ = some av ∧ ActsOn (fun b => w.heap.size + 1 ≤ b) w1 av (nth [] xs j)) := fun j hj => by
        obtain ⟨av, q0, q1⟩ := hall j hj
        exact ⟨av, by rw [hb1.cell (p := ⟨w.heap.size, _, none⟩) hB.1]; exact q0, q1.kept (Kept.below hb1)⟩
      obtain ⟨⟨u0, f0⟩, g0⟩ := hB1.2 k hlt
      have HB : Hid (Blk w1 w.heap.size xs.length) := hB1
      have HA1 : Hid (ActsOn (fun b => w.heap.size + 1 ≤ b) w1 (.slice aa' (nth [] xs k).length ca') (nth [] xs k)) := ha1.wide (fun b hb' => by have := hB.1; show w.heap.size + 1 ≤ b; have : wr.heap.size ≤ b := hb'; omega)
      clear hB hall hb hb1 hB1 c0 ha1 HD HS
      go_wp2_with fail
      go_roundw
      case rel =>
        have hng : ¬ (fun b => w.heap.size + 1 ≤ b) w.heap.size := by show ¬ (w.heap.size + 1 ≤ w.heap.size); omega
        refine ⟨k + 1, by omega, by go_num, HW.out.setCell (by simp) _, HB.out.set _ _, so_far (fun j hj => ?_) ?_⟩
        · obtain ⟨av, q0, q1⟩ := HA.out j hj
          exact ⟨av, by rw [cell_set_other _ _ _ _ _ (by intro e; injection e; omega)]; exact q0, q1.kept (Kept.set _ _ _ _ hng)⟩
        · exact ⟨_, cell_set_same HB.out k hlt _, HA1.out.kept (Kept.set _ _ _ _ hng)⟩
      case measure => simp [intOf]; omega
    · have HI : Hid (BodiesOn (fun b => w.heap.size ≤ b) wr (.slice (some ⟨w.heap.size, 0, none⟩) xs.length xs.length) xs) := by
        refine ⟨_, _, rfl, by omega, fun i hi => ?_⟩
        obtain ⟨av, q0, q1⟩ := hall i (by omega)
        refine ⟨_, 0, av, rfl, Nat.le_refl _, hB.1, ?_⟩
        rw [Nat.zero_add]
        exact ⟨q0, q1.wide (fun b hb' => by show w.heap.size ≤ b; have : w.heap.size + 1 ≤ b := hb'; omega)⟩
      clear hc hB hall hsj
      go_wp2_with fail
      go_ret
      exact ⟨_, rfl, HI.out, hb⟩

def SmallP (p : Pr) : Prop := p.cells.length ≤ 1048576 ∧ p.bodies.length ≤ 1048576 ∧ ∀ j, j < p.bodies.length → SmallB (nth [] p.bodies j)

set_option maxHeartbeats 400000 in
theorem toProg_any (p : Pr) (cv bv : Value) (w : World) (hc : IntsAt w cv p.cells) (hB : BodiesAt w bv p.bodies) (hsm : SmallP p) :
    Calls Tryd.prog 10 #[.agg #[cv, bv]] w fun r w' => ∃ cv' bv', r = .returned (.agg #[cv', bv']) ∧ IntsAt w' cv' p.cells ∧ BodiesAt w' bv' p.bodies ∧ Below w.heap.size w w' := by
  obtain ⟨ac, cc, rfl, hmc⟩ := hc.shape
  obtain ⟨ab, cb, rfl, hmb⟩ := hB.shape
  have HC := (show Hid (IntsAt _ _ _) from hc)
  have HB := (show Hid (BodiesAt _ _ _) from hB)
  clear hc hB
  go_enter Tryd.func10, Tryd.ntmps10
  go_wp2_with fail
  refine (toIntS_any _ p.cells _ (by exact IntsAt.mono HC.out (by repeat (first | exact Below.refl _ _ | refine Below.alloc ?_ (by simp; try omega) _ | refine Below.drew ?_ | refine Below.setCell ?_ (by simp; try omega) _))) hsm.1).mono ?_
  rintro e w1 ⟨cv', rfl, hc1, hb1⟩
  obtain ⟨ac', cc', rfl, hmc'⟩ := hc1.shape
  obtain ⟨hcl1, hf1⟩ := bcell hb1
  have hz : w.heap.size + 1 + 1 < w1.heap.size := by have := hb1.size; simp at this; omega
  have hz0 : w.heap.size < w1.heap.size := by omega
  have hz1 : w.heap.size + 1 < w1.heap.size := by omega
  have HC1 := (show Hid (IntsOn _ _ _ _) from hc1)
  have HB1 := (show Hid (Below _ _ _) from hb1)
  clear hc1 hb1
  go_wp2_with fail
  refine (toActSS_any _ p.bodies _ (by exact BodiesAt.mono HB.out ((below_after3 (Below.refl _ _) (Nat.le_refl _) HB1.out).setCell (by simp; omega) _)) hsm.2.1 hsm.2.2).mono ?_
  rintro e w2 ⟨bv', rfl, hk2, hb2⟩
  obtain ⟨ab', cb', rfl, hmb'⟩ := hk2.shape
  obtain ⟨hcl2, hf2⟩ := bcell hb2
  have hz2 : w.heap.size + 1 + 1 < w2.heap.size := by have := hb2.size; simp at this; omega
  have hz20 : w.heap.size < w2.heap.size := by omega
  have hz21 : w.heap.size + 1 < w2.heap.size := by omega
  have HK2 := (show Hid (BodiesOn _ _ _ _) from hk2)
  have HB2 := (show Hid (Below _ _ _) from hb2)
  clear hk2 hb2
  go_wp2_with fail
  have B3 : Below w.heap.size w w2 := ((below_after3 (Below.refl _ _) (Nat.le_refl _) HB1.out).setCell (by simp; omega) _).trans (HB2.out.mono (by simp; omega))
  have D1 : IntsOn (fun b => w.heap.size + 3 ≤ b) w2 (.slice ac' p.cells.length cc') p.cells := by
    have d := IntsOn.wide (S' := fun b => w.heap.size + 3 ≤ b) (fun b hb => by simp at hb; omega) HC1.out
    exact d.kept ((Kept.set _ _ _ _ (by omega)).trans (Kept.below HB2.out))
  have K1 : BodiesOn (fun b => w.heap.size + 3 ≤ b) w2 (.slice ab' p.bodies.length cb') p.bodies :=
    BodiesOn.wide (S' := fun b => w.heap.size + 3 ≤ b) (fun b hb => by simp at hb; omega) HK2.out
  refine bodyPost_ret (v := .agg #[.slice ac' p.cells.length cc', .slice ab' p.bodies.length cb']) (by simp [results, Tryd.results10, go_sem, hcl2, hcl1, hz, hz2, hz0, hz1, hz20, hz21]) rfl ⟨_, _, rfl, ?_, ?_, ?_⟩
  · refine (D1.kept (w' := _) ?_).at
    iterate 3 (refine Kept.trans ?_ (Kept.set _ _ _ _ (by omega)))
    exact Kept.refl _ _
  · refine (K1.kept (w' := _) ?_).at
    iterate 3 (refine Kept.trans ?_ (Kept.set _ _ _ _ (by omega)))
    exact Kept.refl _ _
  · iterate 3 (refine Below.setCell ?_ (by simp; try omega) _)
    exact B3

end Go.Proofs.YtpehlekjfnkhoaaDoor
