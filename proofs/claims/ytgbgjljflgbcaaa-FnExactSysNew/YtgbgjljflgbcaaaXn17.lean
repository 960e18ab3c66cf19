import Derived.Test.YtgbgjljflgbcaaaXn16
namespace Go.Proofs.Ytgbgjljflgbcaaa
open Go.RowKit
set_option linter.unusedSimpArgs false
set_option linter.unusedVariables false
set_option maxRecDepth 20000
def SmsDe (xs : List De) : Prop := xs.length ≤ 1048576
set_option maxHeartbeats 400000 in
theorem toDeed_th (x : De) (w : World) :
    Calls Try.prog 164 #[.agg #[.int .i64 x.k, .int .i64 x.a, .int .i64 x.b]] w fun r w' => r = .returned (.agg #[.int .i64 x.k, .int .i64 x.a, .int .i64 x.b]) ∧ Below w.heap.size w w' ∧ Fz w w' := by
  go_enter Try.func164, Try.ntmps164
  go_wp2_with fail
  refine bodyPost_ret (v := .agg #[.int .i64 x.k, .int .i64 x.a, .int .i64 x.b]) (by simp [results, Try.results164, go_sem]) rfl ⟨rfl, (by repeat (first | exact Below.refl _ _ | refine Below.alloc ?_ (by simp; try omega) _ | refine Below.drew ?_ | refine Below.setCell ?_ (by simp; try omega) _)), (by repeat (first | with_reducible exact Fz.refl _ | with_reducible refine Fz.set ?_ _ _ | with_reducible refine Fz.alloc ?_ _ _ | with_reducible refine Fz.drew ?_))⟩
set_option maxHeartbeats 1000000 in
theorem toDeedS_th (v : Value) (xs : List De) (w : World) (h : DeedsAt w v xs) (hsm : SmsDe xs) :
    Calls Try.prog 153 #[v] w fun r w' => ∃ v', r = .returned v' ∧ DeedsOn (fun b => w.heap.size ≤ b) w' v' xs ∧ Below w.heap.size w w' ∧ Fz w w' := by
  obtain ⟨a, cap, rfl, hm, hc⟩ := h
  have hn : xs.length ≤ 1048576 := hsm
  have info : (Try.prog.info? 125).map (fun i => (i.zero, i.size, i.bytes)) = some (some (.agg #[.int .i64 0, .int .i64 0, .int .i64 0]), 3, 24) := by kernel_rfl
  obtain ⟨M, hM, hmk⟩ := make_any (P := Try.prog) 120 125 _ 3 24 Try.underlying120 info xs.length (by omega) (by omega)
  clear info
  go_enter Try.func153, Try.ntmps153
  go_wp2_with fail
  go_loopw [4] (fun q w' => ∃ k : Nat, k ≤ xs.length ∧ q = .int .i64 k ∧ Below w.heap.size w w' ∧ Fz w w' ∧ Blk w' w.heap.size (xs.length * 3) ∧ (∀ j, j < k → w'.cell? ⟨w.heap.size, j * 3, none⟩ = some (.int .i64 (nth De.z xs j).k) ∧ w'.cell? ⟨w.heap.size, j * 3 + 1, none⟩ = some (.int .i64 (nth De.z xs j).a) ∧ w'.cell? ⟨w.heap.size, j * 3 + 2, none⟩ = some (.int .i64 (nth De.z xs j).b))) (fun q _ => xs.length - (intOf q).toNat)
  case atStart =>
    have hB := Blk.new w M 125
    rw [hM] at hB
    exact ⟨0, Nat.zero_le _, rfl, (Below.refl _ _).alloc (Nat.le_refl _) _, (Fz.refl _).alloc _ _, hB, fun j hj => absurd hj (Nat.not_lt_zero _)⟩
  clear hmk hM
  case round =>
    obtain ⟨k, hk, rfl, hb, hfz, hB, hall⟩ := hrel
    by_cases hlt : k < xs.length
    · obtain ⟨b, off, rfl, hbw, c0, c1, c2⟩ := hc k hlt
      rw [← hb.cell (p := ⟨b, _, none⟩) hbw] at c0 c1 c2
      clear hc
      go_wp2_with fail
      refine (toDeed_th (nth De.z xs k) _).mono ?_
      rintro e w1 ⟨rfl, hb1, hz1⟩
      have hB1 := hB.below hb1
      have HW : Hid (Below w.heap.size w w1) := hb.trans (hb1.mono hb.size)
      have HF : Hid (Fz w w1) := hfz.trans hz1
      have HA : Hid (∀ j, j < k → w1.cell? ⟨w.heap.size, j * 3, none⟩ = some (.int .i64 (nth De.z xs j).k) ∧ w1.cell? ⟨w.heap.size, j * 3 + 1, none⟩ = some (.int .i64 (nth De.z xs j).a) ∧ w1.cell? ⟨w.heap.size, j * 3 + 2, none⟩ = some (.int .i64 (nth De.z xs j).b)) := fun j hj => by
        obtain ⟨q0, q1, q2⟩ := hall j hj
        rw [← hb1.cell (p := ⟨w.heap.size, _, none⟩) hB.1] at q0 q1 q2
        exact ⟨q0, q1, q2⟩
      obtain ⟨⟨x0, y0⟩, z0⟩ := hB1.2 (k * 3) (by omega)
      obtain ⟨⟨x1, y1⟩, z1⟩ := hB1.2 (k * 3 + 1) (by omega)
      obtain ⟨⟨x2, y2⟩, z2⟩ := hB1.2 (k * 3 + 2) (by omega)
      have HB : Hid (Blk w1 w.heap.size (xs.length * 3)) := hB1
      clear hB hall hb hb1 hz1 hfz hB1 c0 c1 c2 
      go_wp2_with fail
      go_roundw
      case rel =>
        have hng : ¬ (fun b => w.heap.size + 1 ≤ b) w.heap.size := by show ¬ (w.heap.size + 1 ≤ w.heap.size); omega
        refine ⟨k + 1, by omega, by go_num, setL_below (i := k * 3) (vs := [.int .i64 (nth De.z xs k).k, .int .i64 (nth De.z xs k).a, .int .i64 (nth De.z xs k).b]) HW.out (Nat.le_refl _), setL_fz (i := k * 3) (vs := [.int .i64 (nth De.z xs k).k, .int .i64 (nth De.z xs k).a, .int .i64 (nth De.z xs k).b]) HF.out, setL_blk (i := k * 3) (vs := [.int .i64 (nth De.z xs k).k, .int .i64 (nth De.z xs k).a, .int .i64 (nth De.z xs k).b]) HB.out, so_far (fun j hj => ?_) ?_⟩
        · have O : ∀ o, o < k * 3 → (setL w1 w.heap.size (k * 3) [.int .i64 (nth De.z xs k).k, .int .i64 (nth De.z xs k).a, .int .i64 (nth De.z xs k).b]).cell? ⟨w.heap.size, o, none⟩ = w1.cell? ⟨w.heap.size, o, none⟩ := fun o ho => setL_out _ _ _ _ _ (.inl ho)
          have K : Kept (fun b => w.heap.size + 1 ≤ b) w1 (setL w1 w.heap.size (k * 3) [.int .i64 (nth De.z xs k).k, .int .i64 (nth De.z xs k).a, .int .i64 (nth De.z xs k).b]) := setL_kept hng
          obtain ⟨q0, q1, q2⟩ := HA.out j hj
          rw [← O _ (by omega)] at q0
          rw [← O _ (by omega)] at q1
          rw [← O _ (by omega)] at q2
          exact ⟨q0, q1, q2⟩
        · have I := fun j hj => setL_in (w := w1) (g := w.heap.size) (i := k * 3) (vs := [.int .i64 (nth De.z xs k).k, .int .i64 (nth De.z xs k).a, .int .i64 (nth De.z xs k).b]) HB.out (by simp; omega) j hj
          exact ⟨I 0 (by simp), I 1 (by simp), I 2 (by simp)⟩
      case measure => simp [intOf]; omega
    · have HI : Hid (DeedsOn (fun b => w.heap.size ≤ b) wr (.slice (some ⟨w.heap.size, 0, none⟩) xs.length xs.length) xs) := by
        refine ⟨_, _, rfl, by omega, fun i hi => ?_⟩
        obtain ⟨q0, q1, q2⟩ := hall i (by omega)
        refine ⟨_, 0, rfl, Nat.le_refl _, hB.1, ?_⟩
        simp only [Nat.zero_add]
        exact ⟨q0, q1, q2⟩
      clear hc hB hall
      go_wp2_with fail
      go_ret
      exact ⟨_, rfl, HI.out, hb, hfz⟩
set_option maxHeartbeats 1000000 in
theorem toAct_th (x : Ac) (v1 v2 : Value) (w : World) (h1 : DeedsAt w v1 x.ds) (h2 : IntsAt w v2 x.ks) (n1 : x.ds.length ≤ 1048576) (n2 : x.ks.length ≤ 1048576) :
    Calls Try.prog 138 #[.agg #[.int .i64 x.k, v1, v2, .int .i64 x.r]] w fun r w' => ∃ u1 u2, r = .returned (.agg #[.int .i64 x.k, u1, u2, .int .i64 x.r]) ∧ DeedsOn (fun b => w.heap.size ≤ b) w' u1 x.ds ∧ IntsOn (fun b => w.heap.size ≤ b) w' u2 x.ks ∧ Below w.heap.size w w' ∧ Fz w w' := by
  obtain ⟨a1, c1, rfl, hm1⟩ := h1.shape
  have H1 := (show Hid (DeedsAt _ _ _) from h1)
  clear h1
  obtain ⟨a2, c2, rfl, hm2⟩ := h2.shape
  have H2 := (show Hid (IntsAt _ _ _) from h2)
  clear h2
  go_enter Try.func138, Try.ntmps138
  go_wp2_with fail
  refine (toDeedS_th _ x.ds _ (by exact DeedsAt.mono H1.out (by repeat (first | with_reducible exact Below.refl _ _ | (with_reducible refine Below.setCell ?_ ?hs _; case hs => ((try simp); try omega)) | (with_reducible refine Below.alloc ?_ ?hs _; case hs => ((try simp); try omega)) | with_reducible refine Below.drew ?_))) n1).mono ?_
  rintro e w1 ⟨u1, rfl, hu1, hb1, hz1⟩
  obtain ⟨b1, d1, rfl, hmm1⟩ := hu1.shape
  obtain ⟨hc1, hf1⟩ := bcell hb1
  have s1 : w.heap.size + 1 + 1 < w1.heap.size := by have := hb1.size; (try simp at this); omega
  have s1a : w.heap.size < w1.heap.size := by omega
  have s1b : w.heap.size + 1 < w1.heap.size := by omega
  have HB1 : Hid (Below w.heap.size w w1) := below_then (by repeat (first | with_reducible exact Below.refl _ _ | (with_reducible refine Below.setCell ?_ ?hs _; case hs => ((try simp); try omega)) | (with_reducible refine Below.alloc ?_ ?hs _; case hs => ((try simp); try omega)) | with_reducible refine Below.drew ?_)) (by (try simp); try omega) hb1
  have HF1 : Hid (Fz w w1) := Fz.trans (by repeat (first | with_reducible exact Fz.refl _ | with_reducible refine Fz.set ?_ _ _ | with_reducible refine Fz.alloc ?_ _ _ | with_reducible refine Fz.drew ?_)) hz1
  have HU1_1 : Hid (DeedsOn (fun b => w.heap.size + 3 ≤ b) w1 _ _) := hu1.wide (fun b hb => by simp at hb; show w.heap.size + 3 ≤ b; omega)
  clear hu1 hb1 hz1 H1
  go_wp2_with fail
  refine (toIntS_th _ x.ks _ (by exact IntsAt.mono H2.out (by repeat (first | with_reducible exact HB1.out | (with_reducible refine Below.setCell ?_ ?hs _; case hs => ((try simp); try omega)) | (with_reducible refine Below.alloc ?_ ?hs _; case hs => ((try simp); try omega)) | with_reducible refine Below.drew ?_))) n2).mono ?_
  rintro e w2 ⟨u2, rfl, hu2, hb2, hz2⟩
  obtain ⟨b2, d2, rfl, hmm2⟩ := hu2.shape
  obtain ⟨hc2, hf2⟩ := bcell hb2
  have s2 : w.heap.size + 1 + 1 < w2.heap.size := by have := hb2.size; (try simp at this); omega
  have s2a : w.heap.size < w2.heap.size := by omega
  have s2b : w.heap.size + 1 < w2.heap.size := by omega
  have HB2 : Hid (Below w.heap.size w w2) := below_then (by repeat (first | with_reducible exact HB1.out | (with_reducible refine Below.setCell ?_ ?hs _; case hs => ((try simp); try omega)) | (with_reducible refine Below.alloc ?_ ?hs _; case hs => ((try simp); try omega)) | with_reducible refine Below.drew ?_)) (by (try simp); try omega) hb2
  have HF2 : Hid (Fz w w2) := Fz.trans (by repeat (first | with_reducible exact HF1.out | with_reducible refine Fz.set ?_ _ _ | with_reducible refine Fz.alloc ?_ _ _ | with_reducible refine Fz.drew ?_)) hz2
  have HU2_2 : Hid (IntsOn (fun b => w.heap.size + 3 ≤ b) w2 _ _) := hu2.wide (fun b hb => by simp at hb; show w.heap.size + 3 ≤ b; omega)
  have HU1_2 : Hid (DeedsOn (fun b => w.heap.size + 3 ≤ b) w2 _ _) := DeedsOn.kept HU1_1.out (Kept.trans (by repeat (first | with_reducible exact Kept.refl _ _ | (with_reducible refine Kept.trans ?_ (Kept.set _ _ _ _ ?hs); case hs => ((try simp); try omega)))) (Kept.below hb2))
  clear hu2 hb2 hz2 H2 HB1 HF1 HU1_1
  go_wp2_with fail
  refine bodyPost_ret (v := .agg #[.int .i64 x.k, .slice b1 x.ds.length d1, .slice b2 x.ks.length d2, .int .i64 x.r]) (by simp [results, Try.results138, go_sem, hc1, hc2, s1, s1a, s1b, s2, s2a, s2b]) rfl ⟨_, _, rfl, ?_, ?_, ?_, ?_⟩
  · exact DeedsOn.wide (fun b hb => by show w.heap.size ≤ b; have : w.heap.size + 3 ≤ b := hb; omega) (DeedsOn.kept HU1_2.out (by repeat (first | with_reducible exact Kept.refl _ _ | (with_reducible refine Kept.trans ?_ (Kept.set _ _ _ _ ?hs); case hs => ((try simp); try omega)))))
  · exact IntsOn.wide (fun b hb => by show w.heap.size ≤ b; have : w.heap.size + 3 ≤ b := hb; omega) (IntsOn.kept HU2_2.out (by repeat (first | with_reducible exact Kept.refl _ _ | (with_reducible refine Kept.trans ?_ (Kept.set _ _ _ _ ?hs); case hs => ((try simp); try omega)))))
  · exact (by repeat (first | with_reducible exact HB2.out | (with_reducible refine Below.setCell ?_ ?hs _; case hs => ((try simp); try omega)) | (with_reducible refine Below.alloc ?_ ?hs _; case hs => ((try simp); try omega)) | with_reducible refine Below.drew ?_))
  · exact (by repeat (first | with_reducible exact HF2.out | with_reducible refine Fz.set ?_ _ _ | with_reducible refine Fz.alloc ?_ _ _ | with_reducible refine Fz.drew ?_))
set_option maxHeartbeats 1000000 in
theorem toActS_th (v : Value) (xs : List Ac) (w : World) (h : ActsAt w v xs) (hsm : SmallB xs) :
    Calls Try.prog 110 #[v] w fun r w' => ∃ v', r = .returned v' ∧ ActsOn (fun b => w.heap.size ≤ b) w' v' xs ∧ Below w.heap.size w w' ∧ Fz w w' := by
  obtain ⟨a, cap, rfl, hm, hc⟩ := h
  obtain ⟨hn, hsj⟩ := hsm
  have info : (Try.prog.info? 122).map (fun i => (i.zero, i.size, i.bytes)) = some (some (.agg #[.int .i64 0, .slice none 0 0, .slice none 0 0, .int .i64 0]), 4, 64) := by kernel_rfl
  obtain ⟨M, hM, hmk⟩ := make_any (P := Try.prog) 113 122 _ 4 64 Try.underlying113 info xs.length (by omega) (by omega)
  clear info
  go_enter Try.func110, Try.ntmps110
  go_wp2_with fail
  go_loopw [4] (fun q w' => ∃ k : Nat, k ≤ xs.length ∧ q = .int .i64 k ∧ Below w.heap.size w w' ∧ Fz w w' ∧ Blk w' w.heap.size (xs.length * 4) ∧ (∀ j, j < k → ∃ v1 v2, w'.cell? ⟨w.heap.size, j * 4, none⟩ = some (.int .i64 (nth Ac.z xs j).k) ∧ w'.cell? ⟨w.heap.size, j * 4 + 1, none⟩ = some (v1) ∧ w'.cell? ⟨w.heap.size, j * 4 + 2, none⟩ = some (v2) ∧ w'.cell? ⟨w.heap.size, j * 4 + 3, none⟩ = some (.int .i64 (nth Ac.z xs j).r) ∧ DeedsOn (fun b => w.heap.size + 1 ≤ b) w' v1 (nth Ac.z xs j).ds ∧ IntsOn (fun b => w.heap.size + 1 ≤ b) w' v2 (nth Ac.z xs j).ks)) (fun q _ => xs.length - (intOf q).toNat)
  case atStart =>
    have hB := Blk.new w M 122
    rw [hM] at hB
    exact ⟨0, Nat.zero_le _, rfl, (Below.refl _ _).alloc (Nat.le_refl _) _, (Fz.refl _).alloc _ _, hB, fun j hj => absurd hj (Nat.not_lt_zero _)⟩
  clear hmk hM
  case round =>
    obtain ⟨k, hk, rfl, hb, hfz, hB, hall⟩ := hrel
    by_cases hlt : k < xs.length
    · obtain ⟨b, off, v1, v2, rfl, hbw, c0, c1, c2, c3, h1, h2⟩ := hc k hlt
      rw [← hb.cell (p := ⟨b, _, none⟩) hbw] at c0 c1 c2 c3
      obtain ⟨a1, e1, rfl, hm1⟩ := h1.shape
      have H1 := (show Hid (DeedsAt _ _ _) from h1.mono hb)
      obtain ⟨a2, e2, rfl, hm2⟩ := h2.shape
      have H2 := (show Hid (IntsAt _ _ _) from h2.mono hb)
      have HS := (show Hid (Small _) from hsj k hlt)
      clear hc hsj h1 h2
      go_wp2_with fail
      refine (toAct_th (nth Ac.z xs k) _ _ _ H1.out H2.out HS.out.1 HS.out.2).mono ?_
      rintro e w1 ⟨u1, u2, rfl, g1, g2, hb1, hz1⟩
      obtain ⟨b1, d1, rfl, hmm1⟩ := g1.shape
      obtain ⟨b2, d2, rfl, hmm2⟩ := g2.shape
      have hB1 := hB.below hb1
      have HW : Hid (Below w.heap.size w w1) := hb.trans (hb1.mono hb.size)
      have HF : Hid (Fz w w1) := hfz.trans hz1
      have HA : Hid (∀ j, j < k → ∃ v1 v2, w1.cell? ⟨w.heap.size, j * 4, none⟩ = some (.int .i64 (nth Ac.z xs j).k) ∧ w1.cell? ⟨w.heap.size, j * 4 + 1, none⟩ = some (v1) ∧ w1.cell? ⟨w.heap.size, j * 4 + 2, none⟩ = some (v2) ∧ w1.cell? ⟨w.heap.size, j * 4 + 3, none⟩ = some (.int .i64 (nth Ac.z xs j).r) ∧ DeedsOn (fun b => w.heap.size + 1 ≤ b) w1 v1 (nth Ac.z xs j).ds ∧ IntsOn (fun b => w.heap.size + 1 ≤ b) w1 v2 (nth Ac.z xs j).ks) := fun j hj => by
        obtain ⟨v1, v2, q0, q1, q2, q3, r1, r2⟩ := hall j hj
        rw [← hb1.cell (p := ⟨w.heap.size, _, none⟩) hB.1] at q0 q1 q2 q3
        exact ⟨v1, v2, q0, q1, q2, q3, r1.kept (Kept.below hb1), r2.kept (Kept.below hb1)⟩
      obtain ⟨⟨x0, y0⟩, z0⟩ := hB1.2 (k * 4) (by omega)
      obtain ⟨⟨x1, y1⟩, z1⟩ := hB1.2 (k * 4 + 1) (by omega)
      obtain ⟨⟨x2, y2⟩, z2⟩ := hB1.2 (k * 4 + 2) (by omega)
      obtain ⟨⟨x3, y3⟩, z3⟩ := hB1.2 (k * 4 + 3) (by omega)
      have HB : Hid (Blk w1 w.heap.size (xs.length * 4)) := hB1
      have HU1 : Hid (DeedsOn (fun b => w.heap.size + 1 ≤ b) w1 (.slice b1 (nth Ac.z xs k).ds.length d1) (nth Ac.z xs k).ds) := g1.wide (fun b hb' => by have := hB.1; show w.heap.size + 1 ≤ b; have : wr.heap.size ≤ b := hb'; omega)
      have HU2 : Hid (IntsOn (fun b => w.heap.size + 1 ≤ b) w1 (.slice b2 (nth Ac.z xs k).ks.length d2) (nth Ac.z xs k).ks) := g2.wide (fun b hb' => by have := hB.1; show w.heap.size + 1 ≤ b; have : wr.heap.size ≤ b := hb'; omega)
      clear hB hall hb hb1 hz1 hfz hB1 c0 c1 c2 c3 g1 H1 g2 H2 HS
      go_wp2_with fail
      go_roundw
      case rel =>
        have hng : ¬ (fun b => w.heap.size + 1 ≤ b) w.heap.size := by show ¬ (w.heap.size + 1 ≤ w.heap.size); omega
        refine ⟨k + 1, by omega, by go_num, setL_below (i := k * 4) (vs := [.int .i64 (nth Ac.z xs k).k, .slice b1 (nth Ac.z xs k).ds.length d1, .slice b2 (nth Ac.z xs k).ks.length d2, .int .i64 (nth Ac.z xs k).r]) HW.out (Nat.le_refl _), setL_fz (i := k * 4) (vs := [.int .i64 (nth Ac.z xs k).k, .slice b1 (nth Ac.z xs k).ds.length d1, .slice b2 (nth Ac.z xs k).ks.length d2, .int .i64 (nth Ac.z xs k).r]) HF.out, setL_blk (i := k * 4) (vs := [.int .i64 (nth Ac.z xs k).k, .slice b1 (nth Ac.z xs k).ds.length d1, .slice b2 (nth Ac.z xs k).ks.length d2, .int .i64 (nth Ac.z xs k).r]) HB.out, so_far (fun j hj => ?_) ?_⟩
        · have O : ∀ o, o < k * 4 → (setL w1 w.heap.size (k * 4) [.int .i64 (nth Ac.z xs k).k, .slice b1 (nth Ac.z xs k).ds.length d1, .slice b2 (nth Ac.z xs k).ks.length d2, .int .i64 (nth Ac.z xs k).r]).cell? ⟨w.heap.size, o, none⟩ = w1.cell? ⟨w.heap.size, o, none⟩ := fun o ho => setL_out _ _ _ _ _ (.inl ho)
          have K : Kept (fun b => w.heap.size + 1 ≤ b) w1 (setL w1 w.heap.size (k * 4) [.int .i64 (nth Ac.z xs k).k, .slice b1 (nth Ac.z xs k).ds.length d1, .slice b2 (nth Ac.z xs k).ks.length d2, .int .i64 (nth Ac.z xs k).r]) := setL_kept hng
          obtain ⟨v1, v2, q0, q1, q2, q3, r1, r2⟩ := HA.out j hj
          rw [← O _ (by omega)] at q0
          rw [← O _ (by omega)] at q1
          rw [← O _ (by omega)] at q2
          rw [← O _ (by omega)] at q3
          exact ⟨v1, v2, q0, q1, q2, q3, r1.kept K, r2.kept K⟩
        · have I := fun j hj => setL_in (w := w1) (g := w.heap.size) (i := k * 4) (vs := [.int .i64 (nth Ac.z xs k).k, .slice b1 (nth Ac.z xs k).ds.length d1, .slice b2 (nth Ac.z xs k).ks.length d2, .int .i64 (nth Ac.z xs k).r]) HB.out (by simp; omega) j hj
          have K : Kept (fun b => w.heap.size + 1 ≤ b) w1 (setL w1 w.heap.size (k * 4) [.int .i64 (nth Ac.z xs k).k, .slice b1 (nth Ac.z xs k).ds.length d1, .slice b2 (nth Ac.z xs k).ks.length d2, .int .i64 (nth Ac.z xs k).r]) := setL_kept hng
          exact ⟨_, _, I 0 (by simp), I 1 (by simp), I 2 (by simp), I 3 (by simp), DeedsOn.kept HU1.out K, IntsOn.kept HU2.out K⟩
      case measure => simp [intOf]; omega
    · have HI : Hid (ActsOn (fun b => w.heap.size ≤ b) wr (.slice (some ⟨w.heap.size, 0, none⟩) xs.length xs.length) xs) := by
        refine ⟨_, _, rfl, by omega, fun i hi => ?_⟩
        obtain ⟨v1, v2, q0, q1, q2, q3, r1, r2⟩ := hall i (by omega)
        refine ⟨_, 0, v1, v2, rfl, Nat.le_refl _, hB.1, ?_⟩
        simp only [Nat.zero_add]
        exact ⟨q0, q1, q2, q3, r1.wide (fun b hb' => by show w.heap.size ≤ b; have : w.heap.size + 1 ≤ b := hb'; omega), r2.wide (fun b hb' => by show w.heap.size ≤ b; have : w.heap.size + 1 ≤ b := hb'; omega)⟩
      clear hc hB hall hsj
      go_wp2_with fail
      go_ret
      exact ⟨_, rfl, HI.out, hb, hfz⟩
def SmallBs (xs : List (List Ac)) : Prop := xs.length ≤ 1048576 ∧ ∀ j, j < xs.length → SmallB (nth [] xs j)
set_option maxHeartbeats 400000 in
theorem toActSS_th (v : Value) (xs : List (List Ac)) (w : World) (h : BodiesAt w v xs) (hsm : SmallBs xs) :
    Calls Try.prog 66 #[v] w fun r w' => ∃ v', r = .returned v' ∧ BodiesOn (fun b => w.heap.size ≤ b) w' v' xs ∧ Below w.heap.size w w' ∧ Fz w w' := by
  obtain ⟨a, cap, rfl, hm, hc⟩ := h
  obtain ⟨hn, hsj⟩ := hsm
  obtain ⟨M, hM, hmk⟩ := make_any (P := Try.prog) 24 113 _ 1 24 Try.underlying24 Try.info_acts xs.length (by omega) (by omega)
  go_enter Try.func66, Try.ntmps66
  go_wp2_with fail
  go_loopw [4] (fun q w' => ∃ k : Nat, k ≤ xs.length ∧ q = .int .i64 k ∧ Below w.heap.size w w' ∧ Fz w w' ∧ Blk w' w.heap.size xs.length ∧ (∀ j, j < k → ∃ av, w'.cell? ⟨w.heap.size, j, none⟩ = some av ∧ ActsOn (fun b => w.heap.size + 1 ≤ b) w' av (nth [] xs j))) (fun q _ => xs.length - (intOf q).toNat)
  case atStart =>
    have hB := Blk.new w M 113
    rw [hM, Nat.mul_one] at hB
    exact ⟨0, Nat.zero_le _, rfl, (Below.refl _ _).alloc (Nat.le_refl _) _, (Fz.refl _).alloc _ _, hB, fun j hj => absurd hj (Nat.not_lt_zero _)⟩
  clear hmk hM
  case round =>
    obtain ⟨k, hk, rfl, hb, hfz, hB, hall⟩ := hrel
    by_cases hlt : k < xs.length
    · obtain ⟨b, off, av, rfl, hbw, c0, ha⟩ := hc k hlt
      rw [← hb.cell (p := ⟨b, _, none⟩) hbw] at c0
      obtain ⟨aa, ca, rfl, hma⟩ := ha.shape
      have HD := (show Hid (ActsAt _ _ _) from ha.mono hb)
      have HS := (show Hid (SmallB _) from hsj k hlt)
      clear hc ha hsj
      go_wp2_with fail
      refine (toActS_th _ (nth [] xs k) _ HD.out HS.out).mono ?_
      rintro e w1 ⟨av', rfl, ha1, hb1, hz1⟩
      obtain ⟨aa', ca', rfl, hma'⟩ := ha1.shape
      have hB1 := hB.below hb1
      have HW : Hid (Below w.heap.size w w1) := hb.trans (hb1.mono hb.size)
      have HF : Hid (Fz w w1) := hfz.trans hz1
      have HA : Hid (∀ j, j < k → ∃ av, w1.cell? ⟨w.heap.size, j, none⟩ = some av ∧ ActsOn (fun b => w.heap.size + 1 ≤ b) w1 av (nth [] xs j)) := fun j hj => by
        obtain ⟨av, q0, q1⟩ := hall j hj
        exact ⟨av, by rw [hb1.cell (p := ⟨w.heap.size, _, none⟩) hB.1]; exact q0, q1.kept (Kept.below hb1)⟩
      obtain ⟨⟨u0, f0⟩, g0⟩ := hB1.2 k hlt
      have HB : Hid (Blk w1 w.heap.size xs.length) := hB1
      have HA1 : Hid (ActsOn (fun b => w.heap.size + 1 ≤ b) w1 (.slice aa' (nth [] xs k).length ca') (nth [] xs k)) := ha1.wide (fun b hb' => by have := hB.1; show w.heap.size + 1 ≤ b; have : wr.heap.size ≤ b := hb'; omega)
      clear hB hall hb hb1 hz1 hfz hB1 c0 ha1 HD HS
      go_wp2_with fail
      go_roundw
      case rel =>
        have hng : ¬ (fun b => w.heap.size + 1 ≤ b) w.heap.size := by show ¬ (w.heap.size + 1 ≤ w.heap.size); omega
        refine ⟨k + 1, by omega, by go_num, HW.out.setCell (by simp) _, HF.out.set _ _, HB.out.set _ _, so_far (fun j hj => ?_) ?_⟩
        · obtain ⟨av, q0, q1⟩ := HA.out j hj
          exact ⟨av, by rw [cell_set_other _ _ _ _ _ (by intro e; injection e; omega)]; exact q0, q1.kept (Kept.set _ _ _ _ hng)⟩
        · exact ⟨_, cell_set_same HB.out k hlt _, HA1.out.kept (Kept.set _ _ _ _ hng)⟩
      case measure => simp [intOf]; omega
    · have HI : Hid (BodiesOn (fun b => w.heap.size ≤ b) wr (.slice (some ⟨w.heap.size, 0, none⟩) xs.length xs.length) xs) := by
        refine ⟨_, _, rfl, by omega, fun i hi => ?_⟩
        obtain ⟨av, q0, q1⟩ := hall i (by omega)
        refine ⟨_, 0, av, rfl, Nat.le_refl _, hB.1, ?_⟩
        rw [Nat.zero_add]
        exact ⟨q0, q1.wide (fun b hb' => by show w.heap.size ≤ b; have : w.heap.size + 1 ≤ b := hb'; omega)⟩
      clear hc hB hall hsj
      go_wp2_with fail
      go_ret
      exact ⟨_, rfl, HI.out, hb, hfz⟩
set_option maxHeartbeats 1000000 in
theorem toProg_th (x : Pr) (v0 v1 : Value) (w : World) (h0 : IntsAt w v0 x.cells) (h1 : BodiesAt w v1 x.bodies) (n0 : x.cells.length ≤ 1048576) (n1 : SmallBs x.bodies) :
    Calls Try.prog 25 #[.agg #[v0, v1]] w fun r w' => ∃ u0 u1, r = .returned (.agg #[u0, u1]) ∧ IntsOn (fun b => w.heap.size ≤ b) w' u0 x.cells ∧ BodiesOn (fun b => w.heap.size ≤ b) w' u1 x.bodies ∧ Below w.heap.size w w' ∧ Fz w w' := by
  obtain ⟨a0, c0, rfl, hm0⟩ := h0.shape
  have H0 := (show Hid (IntsAt _ _ _) from h0)
  clear h0
  obtain ⟨a1, c1, rfl, hm1⟩ := h1.shape
  have H1 := (show Hid (BodiesAt _ _ _) from h1)
  clear h1
  go_enter Try.func25, Try.ntmps25
  go_wp2_with fail
  refine (toIntS_th _ x.cells _ (by exact IntsAt.mono H0.out (by repeat (first | with_reducible exact Below.refl _ _ | (with_reducible refine Below.setCell ?_ ?hs _; case hs => ((try simp); try omega)) | (with_reducible refine Below.alloc ?_ ?hs _; case hs => ((try simp); try omega)) | with_reducible refine Below.drew ?_))) n0).mono ?_
  rintro e w1 ⟨u0, rfl, hu0, hb1, hz1⟩
  obtain ⟨b0, d0, rfl, hmm0⟩ := hu0.shape
  obtain ⟨hc1, hf1⟩ := bcell hb1
  have s1 : w.heap.size + 1 + 1 < w1.heap.size := by have := hb1.size; (try simp at this); omega
  have s1a : w.heap.size < w1.heap.size := by omega
  have s1b : w.heap.size + 1 < w1.heap.size := by omega
  have HB1 : Hid (Below w.heap.size w w1) := below_then (by repeat (first | with_reducible exact Below.refl _ _ | (with_reducible refine Below.setCell ?_ ?hs _; case hs => ((try simp); try omega)) | (with_reducible refine Below.alloc ?_ ?hs _; case hs => ((try simp); try omega)) | with_reducible refine Below.drew ?_)) (by (try simp); try omega) hb1
  have HF1 : Hid (Fz w w1) := Fz.trans (by repeat (first | with_reducible exact Fz.refl _ | with_reducible refine Fz.set ?_ _ _ | with_reducible refine Fz.alloc ?_ _ _ | with_reducible refine Fz.drew ?_)) hz1
  have HU0_1 : Hid (IntsOn (fun b => w.heap.size + 3 ≤ b) w1 _ _) := hu0.wide (fun b hb => by simp at hb; show w.heap.size + 3 ≤ b; omega)
  clear hu0 hb1 hz1 H0
  go_wp2_with fail
  refine (toActSS_th _ x.bodies _ (by exact BodiesAt.mono H1.out (by repeat (first | with_reducible exact HB1.out | (with_reducible refine Below.setCell ?_ ?hs _; case hs => ((try simp); try omega)) | (with_reducible refine Below.alloc ?_ ?hs _; case hs => ((try simp); try omega)) | with_reducible refine Below.drew ?_))) n1).mono ?_
  rintro e w2 ⟨u1, rfl, hu1, hb2, hz2⟩
  obtain ⟨b1, d1, rfl, hmm1⟩ := hu1.shape
  obtain ⟨hc2, hf2⟩ := bcell hb2
  have s2 : w.heap.size + 1 + 1 < w2.heap.size := by have := hb2.size; (try simp at this); omega
  have s2a : w.heap.size < w2.heap.size := by omega
  have s2b : w.heap.size + 1 < w2.heap.size := by omega
  have HB2 : Hid (Below w.heap.size w w2) := below_then (by repeat (first | with_reducible exact HB1.out | (with_reducible refine Below.setCell ?_ ?hs _; case hs => ((try simp); try omega)) | (with_reducible refine Below.alloc ?_ ?hs _; case hs => ((try simp); try omega)) | with_reducible refine Below.drew ?_)) (by (try simp); try omega) hb2
  have HF2 : Hid (Fz w w2) := Fz.trans (by repeat (first | with_reducible exact HF1.out | with_reducible refine Fz.set ?_ _ _ | with_reducible refine Fz.alloc ?_ _ _ | with_reducible refine Fz.drew ?_)) hz2
  have HU1_2 : Hid (BodiesOn (fun b => w.heap.size + 3 ≤ b) w2 _ _) := hu1.wide (fun b hb => by simp at hb; show w.heap.size + 3 ≤ b; omega)
  have HU0_2 : Hid (IntsOn (fun b => w.heap.size + 3 ≤ b) w2 _ _) := IntsOn.kept HU0_1.out (Kept.trans (by repeat (first | with_reducible exact Kept.refl _ _ | (with_reducible refine Kept.trans ?_ (Kept.set _ _ _ _ ?hs); case hs => ((try simp); try omega)))) (Kept.below hb2))
  clear hu1 hb2 hz2 H1 HB1 HF1 HU0_1
  go_wp2_with fail
  refine bodyPost_ret (v := .agg #[.slice b0 x.cells.length d0, .slice b1 x.bodies.length d1]) (by simp [results, Try.results25, go_sem, hc1, hc2, s1, s1a, s1b, s2, s2a, s2b]) rfl ⟨_, _, rfl, ?_, ?_, ?_, ?_⟩
  · exact IntsOn.wide (fun b hb => by show w.heap.size ≤ b; have : w.heap.size + 3 ≤ b := hb; omega) (IntsOn.kept HU0_2.out (by repeat (first | with_reducible exact Kept.refl _ _ | (with_reducible refine Kept.trans ?_ (Kept.set _ _ _ _ ?hs); case hs => ((try simp); try omega)))))
  · exact BodiesOn.wide (fun b hb => by show w.heap.size ≤ b; have : w.heap.size + 3 ≤ b := hb; omega) (BodiesOn.kept HU1_2.out (by repeat (first | with_reducible exact Kept.refl _ _ | (with_reducible refine Kept.trans ?_ (Kept.set _ _ _ _ ?hs); case hs => ((try simp); try omega)))))
  · exact (by repeat (first | with_reducible exact HB2.out | (with_reducible refine Below.setCell ?_ ?hs _; case hs => ((try simp); try omega)) | (with_reducible refine Below.alloc ?_ ?hs _; case hs => ((try simp); try omega)) | with_reducible refine Below.drew ?_))
  · exact (by repeat (first | with_reducible exact HF2.out | with_reducible refine Fz.set ?_ _ _ | with_reducible refine Fz.alloc ?_ _ _ | with_reducible refine Fz.drew ?_))
end Go.Proofs.Ytgbgjljflgbcaaa
