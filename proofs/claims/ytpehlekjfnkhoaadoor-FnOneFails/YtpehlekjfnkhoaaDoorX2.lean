import Derived.Test.YtpehlekjfnkhoaaDoorX1
namespace Go.Proofs.YtpehlekjfnkhoaaDoor
open Go.RowKit
set_option linter.unusedSimpArgs false
set_option linter.unusedVariables false

set_option maxHeartbeats 400000 in
theorem toIntS_any (v : Value) (xs : List Int) (w : World) (h : IntsAt w v xs) (hn : xs.length ≤ 1048576) :
    Calls Tryd.prog 26 #[v] w fun r w' => ∃ v', r = .returned v' ∧ IntsOn (fun b => w.heap.size ≤ b) w' v' xs ∧ Below w.heap.size w w' := by
  obtain ⟨a, cap, rfl, hm, hc⟩ := h
  obtain ⟨M, hM, hmk⟩ := make_any (P := Tryd.prog) 23 3 _ 1 8 Tryd.underlying23 Tryd.info_int xs.length (by omega) (by omega)
  go_enter Tryd.func26, Tryd.ntmps26
  go_wp2_with fail
  go_loopw [4] (fun q w' => ∃ k : Nat, k ≤ xs.length ∧ q = .int .i64 k ∧ Below w.heap.size w w' ∧ Blk w' w.heap.size xs.length ∧ (∀ j, j < k → w'.cell? ⟨w.heap.size, j, none⟩ = some (.int .i64 (nth 0 xs j)))) (fun q _ => xs.length - (intOf q).toNat)
  case atStart =>
    have hB := Blk.new w M 3
    rw [hM, Nat.mul_one] at hB
    exact ⟨0, Nat.zero_le _, rfl, (Below.refl _ _).alloc (Nat.le_refl _) _, hB, fun j hj => absurd hj (Nat.not_lt_zero _)⟩
  clear hmk hM
  case round =>
    obtain ⟨k, hk, rfl, hb, hB, hall⟩ := hrel
    by_cases hlt : k < xs.length
    · obtain ⟨b, off, rfl, hbw, c0⟩ := hc k hlt
      rw [← hb.cell (p := ⟨b, _, none⟩) hbw] at c0
      obtain ⟨⟨u, f0⟩, f1⟩ := hB.2 k hlt
      have HB : Hid (Blk wr w.heap.size xs.length) := hB
      have HA : Hid (∀ j, j < k → wr.cell? ⟨w.heap.size, j, none⟩ = some (.int .i64 (nth 0 xs j))) := hall
      have HW : Hid (Below w.heap.size w wr) := hb
      clear hc hB hall hb
      go_wp2_with fail
      go_roundw
      case rel =>
        refine ⟨k + 1, by omega, by go_num, HW.out.setCell (by simp) _, HB.out.set _ _, so_far (fun j hj => ?_) ?_⟩
        · rw [cell_set_other _ _ _ _ _ (by intro e; injection e; omega)]; exact HA.out j hj
        · exact cell_set_same HB.out k hlt _
      case measure => simp [intOf]; omega
    · have he : k = xs.length := by omega
      have HI : Hid (IntsOn (fun b => w.heap.size ≤ b) wr (.slice (some ⟨w.heap.size, 0, none⟩) xs.length xs.length) xs) :=
        ⟨_, _, rfl, by omega, fun i hi => ⟨_, 0, rfl, Nat.le_refl _, hB.1, by rw [Nat.zero_add]; exact hall i (by omega)⟩⟩
      clear hc hB hall he
      go_wp2_with fail
      go_ret
      exact ⟨_, rfl, HI.out, hb⟩

set_option maxHeartbeats 400000 in
theorem toDeed_any (d : De) (w : World) :
    Calls Tryd.prog 80 #[.agg #[.int .i64 d.k, .int .i64 d.a, .int .i64 d.b]] w fun r w' => r = .returned (.agg #[.int .i64 d.k, .int .i64 d.a, .int .i64 d.b]) ∧ Below w.heap.size w w' := by
  go_enter Tryd.func80, Tryd.ntmps80
  go_wp2_with fail
  refine bodyPost_ret (v := .agg #[.int .i64 d.k, .int .i64 d.a, .int .i64 d.b]) (by simp [results, Tryd.results80, go_sem]) rfl ⟨rfl, (by repeat (first | exact Below.refl _ _ | refine Below.alloc ?_ (by simp; try omega) _ | refine Below.drew ?_ | refine Below.setCell ?_ (by simp; try omega) _))⟩

set_option maxHeartbeats 400000 in
theorem toDeedS_any (v : Value) (xs : List De) (w : World) (h : DeedsAt w v xs) (hn : xs.length ≤ 1048576) :
    Calls Tryd.prog 72 #[v] w fun r w' => ∃ v', r = .returned v' ∧ DeedsOn (fun b => w.heap.size ≤ b) w' v' xs ∧ Below w.heap.size w w' := by
  obtain ⟨a, cap, rfl, hm, hc⟩ := h
  obtain ⟨M, hM, hmk⟩ := make_any (P := Tryd.prog) 32 99 _ 3 24 Tryd.underlying32 Tryd.info_deed xs.length (by omega) (by omega)
  go_enter Tryd.func72, Tryd.ntmps72
  go_wp2_with fail
  go_loopw [4] (fun q w' => ∃ k : Nat, k ≤ xs.length ∧ q = .int .i64 k ∧ Below w.heap.size w w' ∧ Blk w' w.heap.size (xs.length * 3) ∧ (∀ j, j < k → w'.cell? ⟨w.heap.size, j * 3, none⟩ = some (.int .i64 (nth De.z xs j).k) ∧ w'.cell? ⟨w.heap.size, j * 3 + 1, none⟩ = some (.int .i64 (nth De.z xs j).a) ∧ w'.cell? ⟨w.heap.size, j * 3 + 2, none⟩ = some (.int .i64 (nth De.z xs j).b))) (fun q _ => xs.length - (intOf q).toNat)
  case atStart =>
    have hB := Blk.new w M 99
    rw [hM] at hB
    exact ⟨0, Nat.zero_le _, rfl, (Below.refl _ _).alloc (Nat.le_refl _) _, hB, fun j hj => absurd hj (Nat.not_lt_zero _)⟩
  clear hmk hM
  case round =>
    obtain ⟨k, hk, rfl, hb, hB, hall⟩ := hrel
    by_cases hlt : k < xs.length
    · obtain ⟨b, off, rfl, hbw, c0, c1, c2⟩ := hc k hlt
      rw [← hb.cell (p := ⟨b, _, none⟩) hbw] at c0 c1 c2
      clear hc
      go_wp2_with fail
      refine (toDeed_any (nth De.z xs k) _).mono ?_
      rintro e w1 ⟨rfl, hb1⟩
      have hB1 := hB.below hb1
      have HW : Hid (Below w.heap.size w w1) := hb.trans (hb1.mono hb.size)
      have HA : Hid (∀ j, j < k → w1.cell? ⟨w.heap.size, j * 3, none⟩ = some (.int .i64 (nth De.z xs j).k) ∧ w1.cell? ⟨w.heap.size, j * 3 + 1, none⟩ = some (.int .i64 (nth De.z xs j).a) ∧ w1.cell? ⟨w.heap.size, j * 3 + 2, none⟩ = some (.int .i64 (nth De.z xs j).b)) := fun j hj => by
        rw [hb1.cell (p := ⟨w.heap.size, _, none⟩) hB.1, hb1.cell (p := ⟨w.heap.size, _, none⟩) hB.1, hb1.cell (p := ⟨w.heap.size, _, none⟩) hB.1]; exact hall j hj
      obtain ⟨⟨u0, f0⟩, g0⟩ := hB1.2 (k * 3) (by omega)
      obtain ⟨⟨u1, f1⟩, g1⟩ := hB1.2 (k * 3 + 1) (by omega)
      obtain ⟨⟨u2, f2⟩, g2⟩ := hB1.2 (k * 3 + 2) (by omega)
      have HB : Hid (Blk w1 w.heap.size (xs.length * 3)) := hB1
      clear hB hall hb hb1 hB1 c0 c1 c2
      go_wp2_with fail
      go_roundw
      case rel =>
        refine ⟨k + 1, by omega, by go_num, ((HW.out.setCell (by simp) _).setCell (by simp) _).setCell (by simp) _, ((HB.out.set _ _).set _ _).set _ _, so_far (fun j hj => ?_) ?_⟩
        · rw [set3_out _ _ _ _ _ _ _ (by omega), set3_out _ _ _ _ _ _ _ (by omega), set3_out _ _ _ _ _ _ _ (by omega)]; exact HA.out j hj
        · exact set3_in HB.out (k * 3) (by omega) _ _ _
      case measure => simp [intOf]; omega
    · have HI : Hid (DeedsOn (fun b => w.heap.size ≤ b) wr (.slice (some ⟨w.heap.size, 0, none⟩) xs.length xs.length) xs) :=
        ⟨_, _, rfl, by omega, fun i hi => ⟨_, 0, rfl, Nat.le_refl _, hB.1, by rw [Nat.zero_add]; exact hall i (by omega)⟩⟩
      clear hc hB hall
      go_wp2_with fail
      go_ret
      exact ⟨_, rfl, HI.out, hb⟩

set_option maxHeartbeats 400000 in
theorem toAct_any (x : Ac) (dv kv : Value) (w : World) (hd : DeedsAt w dv x.ds) (hk : IntsAt w kv x.ks) (hnd : x.ds.length ≤ 1048576) (hnk : x.ks.length ≤ 1048576) :
    Calls Tryd.prog 59 #[.agg #[.int .i64 x.k, dv, kv, .int .i64 x.r]] w fun r w' => ∃ dv' kv', r = .returned (.agg #[.int .i64 x.k, dv', kv', .int .i64 x.r]) ∧ DeedsOn (fun b => w.heap.size ≤ b) w' dv' x.ds ∧ IntsOn (fun b => w.heap.size ≤ b) w' kv' x.ks ∧ Below w.heap.size w w' := by
  obtain ⟨ad, cd, rfl, hmd⟩ := hd.shape
  obtain ⟨ak, ck, rfl, hmk⟩ := hk.shape
  have HD := (show Hid (DeedsAt _ _ _) from hd)
  have HK := (show Hid (IntsAt _ _ _) from hk)
  clear hd hk
  go_enter Tryd.func59, Tryd.ntmps59
  go_wp2_with fail
  refine (toDeedS_any _ x.ds _ (by exact DeedsAt.mono HD.out (by repeat (first | exact Below.refl _ _ | refine Below.alloc ?_ (by simp; try omega) _ | refine Below.drew ?_ | refine Below.setCell ?_ (by simp; try omega) _))) hnd).mono ?_
  rintro e w1 ⟨dv', rfl, hd1, hb1⟩
  obtain ⟨ad', cd', rfl, hmd'⟩ := hd1.shape
  obtain ⟨hc1, hf1⟩ := bcell hb1
  have hz : w.heap.size + 1 + 1 < w1.heap.size := by have := hb1.size; simp at this; omega
  have hz0 : w.heap.size < w1.heap.size := by omega
  have hz1 : w.heap.size + 1 < w1.heap.size := by omega
  have HD1 := (show Hid (DeedsOn _ _ _ _) from hd1)
  have HB1 := (show Hid (Below _ _ _) from hb1)
  clear hd1 hb1
  go_wp2_with fail
  refine (toIntS_any _ x.ks _ (by exact IntsAt.mono HK.out ((below_after3 (Below.refl _ _) (Nat.le_refl _) HB1.out).setCell (by simp; omega) _)) hnk).mono ?_
  rintro e w2 ⟨kv', rfl, hk2, hb2⟩
  obtain ⟨ak', ck', rfl, hmk'⟩ := hk2.shape
  obtain ⟨hc2, hf2⟩ := bcell hb2
  have hz2 : w.heap.size + 1 + 1 < w2.heap.size := by have := hb2.size; simp at this; omega
  have hz20 : w.heap.size < w2.heap.size := by omega
  have hz21 : w.heap.size + 1 < w2.heap.size := by omega
  have HK2 := (show Hid (IntsOn _ _ _ _) from hk2)
  have HB2 := (show Hid (Below _ _ _) from hb2)
  clear hk2 hb2
  go_wp2_with fail
  have B3 : Below w.heap.size w w2 := ((below_after3 (Below.refl _ _) (Nat.le_refl _) HB1.out).setCell (by simp; omega) _).trans (HB2.out.mono (by simp; omega))
  have D1 : DeedsOn (fun b => w.heap.size + 3 ≤ b) w2 (.slice ad' x.ds.length cd') x.ds := by
    have d := DeedsOn.wide (S' := fun b => w.heap.size + 3 ≤ b) (fun b hb => by simp at hb; omega) HD1.out
    exact d.kept ((Kept.set _ _ _ _ (by omega)).trans (Kept.below HB2.out))
  have K1 : IntsOn (fun b => w.heap.size + 3 ≤ b) w2 (.slice ak' x.ks.length ck') x.ks :=
    IntsOn.wide (S' := fun b => w.heap.size + 3 ≤ b) (fun b hb => by simp at hb; omega) HK2.out
  refine bodyPost_ret (v := .agg #[.int .i64 x.k, .slice ad' x.ds.length cd', .slice ak' x.ks.length ck', .int .i64 x.r]) (by simp [results, Tryd.results59, go_sem, hc2, hc1, hz, hz2, hz0, hz1, hz20, hz21]) rfl ⟨_, _, rfl, ?_, ?_, ?_⟩
  · refine DeedsOn.wide (fun b hb => ?_) (D1.kept (w' := _) ?_)
    · show w.heap.size ≤ b; have : w.heap.size + 3 ≤ b := hb; omega
    · iterate 6 (refine Kept.trans ?_ (Kept.set _ _ _ _ (by omega)))
      exact Kept.refl _ _
  · refine IntsOn.wide (fun b hb => ?_) (K1.kept (w' := _) ?_)
    · show w.heap.size ≤ b; have : w.heap.size + 3 ≤ b := hb; omega
    · iterate 6 (refine Kept.trans ?_ (Kept.set _ _ _ _ (by omega)))
      exact Kept.refl _ _
  · iterate 6 (refine Below.setCell ?_ (by simp; try omega) _)
    exact B3

end Go.Proofs.YtpehlekjfnkhoaaDoor
