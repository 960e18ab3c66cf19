import Derived.Test.YtdgihncobihbgaaGreatJ3
/-
  Copies of systems (by mky.py).
-/
namespace Go.Proofs.YtdgihncobihbgaaGreat
open Go.RowKit
set_option linter.unusedSimpArgs false
set_option linter.unusedVariables false
set_option maxRecDepth 20000
/-- values are laid one behind the other -/
def setL (w : World) (g i : Nat) : List Value → World
  | [] => w
  | v :: vs => setL (w.setCell ⟨g, i, none⟩ v) g (i + 1) vs
theorem setL_out (w : World) (g i o : Nat) (vs : List Value) (h : o < i ∨ i + vs.length ≤ o) : (setL w g i vs).cell? ⟨g, o, none⟩ = w.cell? ⟨g, o, none⟩ := by
  induction vs generalizing w i with
  | nil => rfl
  | cons v vs ih =>
    simp only [List.length_cons] at h
    rw [setL, ih _ _ (by omega), cell_set_other _ _ _ _ _ (by intro e; injection e; omega)]
theorem setL_blk {w : World} {g n i : Nat} {vs : List Value} (h : Blk w g n) : Blk (setL w g i vs) g n := by
  induction vs generalizing w i with
  | nil => exact h
  | cons v vs ih => exact ih (h.set i v)
theorem setL_in {w : World} {g n i : Nat} {vs : List Value} (h : Blk w g n) (hn : i + vs.length ≤ n) (j : Nat) (hj : j < vs.length) : (setL w g i vs).cell? ⟨g, i + j, none⟩ = some vs[j] := by
  induction vs generalizing w i j with
  | nil => simp at hj
  | cons v vs ih =>
    simp only [List.length_cons] at hn hj
    cases j with
    | zero => rw [setL, setL_out _ _ _ _ _ (by omega)]; exact cell_set_same h i (by omega) v
    | succ j =>
      have := ih (i := i + 1) (h.set i v) (by omega) j (by omega)
      rw [show i + (j + 1) = i + 1 + j by omega]
      exact this
theorem setL_below {B : Nat} {w w' : World} {g i : Nat} {vs : List Value} (h : Below B w w') (hg : B ≤ g) : Below B w (setL w' g i vs) := by
  induction vs generalizing w' i with
  | nil => exact h
  | cons v vs ih => exact ih (h.setCell hg v)
theorem setL_kept {S : Nat → Prop} {w : World} {g i : Nat} {vs : List Value} (hg : ¬ S g) : Kept S w (setL w g i vs) := by
  induction vs generalizing w i with
  | nil => exact Kept.refl _ _
  | cons v vs ih => exact (Kept.set w g i v hg).trans ih

/-- nothing was frozen, or let go -/
def Fz (w w' : World) : Prop := ∀ a, w'.frozen? a = w.frozen? a
theorem Fz.refl (w : World) : Fz w w := fun _ => rfl
theorem Fz.trans {w w' w'' : World} (h : Fz w w') (h' : Fz w' w'') : Fz w w'' := fun a => (h' a).trans (h a)
theorem Fz.alloc {w w' : World} (h : Fz w w') (M : Array Value) (t : TypeId) : Fz w (w'.alloc (.cells M t)) := fun a => (Go.RowKit.frozen?_alloc_cells w' M t a).trans (h a)
theorem Fz.set {w w' : World} (h : Fz w w') (p : Addr) (v : Value) : Fz w (w'.setCell p v) := fun a => (World.frozen?_setCell w' p a v).trans (h a)
theorem Fz.drew {w w' : World} (h : Fz w w') : Fz w w'.drew := h
theorem Fz.new {w w' : World} (h : Fz w w') {b : Nat} (hb : w.heap.size ≤ b) (o : Nat) : w'.frozen? ⟨b, o, none⟩ = false := by
  rw [h]; simp [World.frozen?, Array.getElem?_eq_none hb]
theorem setL_fz {w w' : World} {g i : Nat} {vs : List Value} (h : Fz w w') : Fz w (setL w' g i vs) := by
  induction vs generalizing w' i with
  | nil => exact h
  | cons v vs ih => exact ih (h.set _ v)

set_option maxHeartbeats 400000 in
theorem toIntS_th (v : Value) (xs : List Int) (w : World) (h : IntsAt w v xs) (hn : xs.length ≤ 1048576) :
    Calls Tryz.prog 33 #[v] w fun r w' => ∃ v', r = .returned v' ∧ IntsOn (fun b => w.heap.size ≤ b) w' v' xs ∧ Below w.heap.size w w' ∧ Fz w w' := by
  obtain ⟨a, cap, rfl, hm, hc⟩ := h
  obtain ⟨M, hM, hmk⟩ := make_any (P := Tryz.prog) 22 3 _ 1 8 Tryz.underlying22 Tryz.info_int xs.length (by omega) (by omega)
  go_enter Tryz.func33, Tryz.ntmps33
  go_wp2_with fail
  go_loopw [4] (fun q w' => ∃ k : Nat, k ≤ xs.length ∧ q = .int .i64 k ∧ Below w.heap.size w w' ∧ Fz w w' ∧ Blk w' w.heap.size xs.length ∧ (∀ j, j < k → w'.cell? ⟨w.heap.size, j, none⟩ = some (.int .i64 (nth 0 xs j)))) (fun q _ => xs.length - (intOf q).toNat)
  case atStart =>
    have hB := Blk.new w M 3
    rw [hM, Nat.mul_one] at hB
    exact ⟨0, Nat.zero_le _, rfl, (Below.refl _ _).alloc (Nat.le_refl _) _, (Fz.refl _).alloc _ _, hB, fun j hj => absurd hj (Nat.not_lt_zero _)⟩
  clear hmk hM
  case round =>
    obtain ⟨k, hk, rfl, hb, hfz, hB, hall⟩ := hrel
    by_cases hlt : k < xs.length
    · obtain ⟨b, off, rfl, hbw, c0⟩ := hc k hlt
      rw [← hb.cell (p := ⟨b, _, none⟩) hbw] at c0
      obtain ⟨⟨u, f0⟩, f1⟩ := hB.2 k hlt
      have HB : Hid (Blk wr w.heap.size xs.length) := hB
      have HA : Hid (∀ j, j < k → wr.cell? ⟨w.heap.size, j, none⟩ = some (.int .i64 (nth 0 xs j))) := hall
      have HW := (show Hid (Below _ _ _) from hb)
      have HF := (show Hid (Fz _ _) from hfz)
      clear hc hB hall hb hfz
      go_wp2_with fail
      go_roundw
      case rel =>
        refine ⟨k + 1, by omega, by go_num, HW.out.setCell (by simp) _, HF.out.set _ _, HB.out.set _ _, so_far (fun j hj => ?_) ?_⟩
        · rw [cell_set_other _ _ _ _ _ (by intro e; injection e; omega)]; exact HA.out j hj
        · exact cell_set_same HB.out k hlt _
      case measure => simp [intOf]; omega
    · have HI : Hid (IntsOn (fun b => w.heap.size ≤ b) wr (.slice (some ⟨w.heap.size, 0, none⟩) xs.length xs.length) xs) :=
        ⟨_, _, rfl, by omega, fun i hi => ⟨_, 0, rfl, Nat.le_refl _, hB.1, by rw [Nat.zero_add]; exact hall i (by omega)⟩⟩
      clear hc hB hall
      go_wp2_with fail
      go_ret
      exact ⟨_, rfl, HI.out, hb, hfz⟩

def SmsPu (xs : List Pu) : Prop := xs.length ≤ 1048576
def SmsCe (xs : List Ce) : Prop := xs.length ≤ 1048576
def SmTa (x : Ta) : Prop := x.regs.length ≤ 1048576 ∧ x.old.length ≤ 1048576 ∧ x.reads.length ≤ 1048576 ∧ x.puts.length ≤ 1048576
def SmsTa (xs : List Ta) : Prop := xs.length ≤ 1048576 ∧ ∀ j, j < xs.length → SmTa (nth Ta.z xs j)
def SmEn (x : En) : Prop := x.reads.length ≤ 1048576 ∧ x.puts.length ≤ 1048576
def SmsEn (xs : List En) : Prop := xs.length ≤ 1048576 ∧ ∀ j, j < xs.length → SmEn (nth En.z xs j)
set_option maxHeartbeats 400000 in
theorem toPut_th (x : Pu) (w : World) :
    Calls Tryz.prog 111 #[.agg #[.int .i64 x.c, .int .i64 x.n]] w fun r w' => r = .returned (.agg #[.int .i64 x.c, .int .i64 x.n]) ∧ Below w.heap.size w w' ∧ Fz w w' := by
  go_enter Tryz.func111, Tryz.ntmps111
  go_wp2_with fail
  refine bodyPost_ret (v := .agg #[.int .i64 x.c, .int .i64 x.n]) (by simp [results, Tryz.results111, go_sem]) rfl ⟨rfl, (by repeat (first | exact Below.refl _ _ | refine Below.alloc ?_ (by simp; try omega) _ | refine Below.drew ?_ | refine Below.setCell ?_ (by simp; try omega) _)), (by repeat (first | with_reducible exact Fz.refl _ | with_reducible refine Fz.set ?_ _ _ | with_reducible refine Fz.alloc ?_ _ _ | with_reducible refine Fz.drew ?_))⟩

set_option maxHeartbeats 1000000 in
theorem toPutS_th (v : Value) (xs : List Pu) (w : World) (h : PusAt w v xs) (hsm : SmsPu xs) :
    Calls Tryz.prog 93 #[v] w fun r w' => ∃ v', r = .returned v' ∧ PusOn (fun b => w.heap.size ≤ b) w' v' xs ∧ Below w.heap.size w w' ∧ Fz w w' := by
  obtain ⟨a, cap, rfl, hm, hc⟩ := h
  have hn : xs.length ≤ 1048576 := hsm
  have info : (Tryz.prog.info? 135).map (fun i => (i.zero, i.size, i.bytes)) = some (some (.agg #[.int .i64 0, .int .i64 0]), 2, 16) := by kernel_rfl
  obtain ⟨M, hM, hmk⟩ := make_any (P := Tryz.prog) 91 135 _ 2 16 Tryz.underlying91 info xs.length (by omega) (by omega)
  clear info
  go_enter Tryz.func93, Tryz.ntmps93
  go_wp2_with fail
  go_loopw [4] (fun q w' => ∃ k : Nat, k ≤ xs.length ∧ q = .int .i64 k ∧ Below w.heap.size w w' ∧ Fz w w' ∧ Blk w' w.heap.size (xs.length * 2) ∧ (∀ j, j < k → w'.cell? ⟨w.heap.size, j * 2, none⟩ = some (.int .i64 (nth Pu.z xs j).c) ∧ w'.cell? ⟨w.heap.size, j * 2 + 1, none⟩ = some (.int .i64 (nth Pu.z xs j).n))) (fun q _ => xs.length - (intOf q).toNat)
  case atStart =>
    have hB := Blk.new w M 135
    rw [hM] at hB
    exact ⟨0, Nat.zero_le _, rfl, (Below.refl _ _).alloc (Nat.le_refl _) _, (Fz.refl _).alloc _ _, hB, fun j hj => absurd hj (Nat.not_lt_zero _)⟩
  clear hmk hM
  case round =>
    obtain ⟨k, hk, rfl, hb, hfz, hB, hall⟩ := hrel
    by_cases hlt : k < xs.length
    · obtain ⟨b, off, rfl, hbw, c0, c1⟩ := hc k hlt
      rw [← hb.cell (p := ⟨b, _, none⟩) hbw] at c0 c1
      clear hc
      go_wp2_with fail
      refine (toPut_th (nth Pu.z xs k) _).mono ?_
      rintro e w1 ⟨rfl, hb1, hz1⟩
      have hB1 := hB.below hb1
      have HW : Hid (Below w.heap.size w w1) := hb.trans (hb1.mono hb.size)
      have HF : Hid (Fz w w1) := hfz.trans hz1
      have HA : Hid (∀ j, j < k → w1.cell? ⟨w.heap.size, j * 2, none⟩ = some (.int .i64 (nth Pu.z xs j).c) ∧ w1.cell? ⟨w.heap.size, j * 2 + 1, none⟩ = some (.int .i64 (nth Pu.z xs j).n)) := fun j hj => by
        obtain ⟨q0, q1⟩ := hall j hj
        rw [← hb1.cell (p := ⟨w.heap.size, _, none⟩) hB.1] at q0 q1
        exact ⟨q0, q1⟩
      obtain ⟨⟨x0, y0⟩, z0⟩ := hB1.2 (k * 2) (by omega)
      obtain ⟨⟨x1, y1⟩, z1⟩ := hB1.2 (k * 2 + 1) (by omega)
      have HB : Hid (Blk w1 w.heap.size (xs.length * 2)) := hB1
      clear hB hall hb hb1 hz1 hfz hB1 c0 c1 
      go_wp2_with fail
      go_roundw
      case rel =>
        have hng : ¬ (fun b => w.heap.size + 1 ≤ b) w.heap.size := by show ¬ (w.heap.size + 1 ≤ w.heap.size); omega
        refine ⟨k + 1, by omega, by go_num, setL_below (i := k * 2) (vs := [.int .i64 (nth Pu.z xs k).c, .int .i64 (nth Pu.z xs k).n]) HW.out (Nat.le_refl _), setL_fz (i := k * 2) (vs := [.int .i64 (nth Pu.z xs k).c, .int .i64 (nth Pu.z xs k).n]) HF.out, setL_blk (i := k * 2) (vs := [.int .i64 (nth Pu.z xs k).c, .int .i64 (nth Pu.z xs k).n]) HB.out, so_far (fun j hj => ?_) ?_⟩
        · have O : ∀ o, o < k * 2 → (setL w1 w.heap.size (k * 2) [.int .i64 (nth Pu.z xs k).c, .int .i64 (nth Pu.z xs k).n]).cell? ⟨w.heap.size, o, none⟩ = w1.cell? ⟨w.heap.size, o, none⟩ := fun o ho => setL_out _ _ _ _ _ (.inl ho)
          have K : Kept (fun b => w.heap.size + 1 ≤ b) w1 (setL w1 w.heap.size (k * 2) [.int .i64 (nth Pu.z xs k).c, .int .i64 (nth Pu.z xs k).n]) := setL_kept hng
          obtain ⟨q0, q1⟩ := HA.out j hj
          rw [← O _ (by omega)] at q0
          rw [← O _ (by omega)] at q1
          exact ⟨q0, q1⟩
        · have I := fun j hj => setL_in (w := w1) (g := w.heap.size) (i := k * 2) (vs := [.int .i64 (nth Pu.z xs k).c, .int .i64 (nth Pu.z xs k).n]) HB.out (by simp; omega) j hj
          exact ⟨I 0 (by simp), I 1 (by simp)⟩
      case measure => simp [intOf]; omega
    · have HI : Hid (PusOn (fun b => w.heap.size ≤ b) wr (.slice (some ⟨w.heap.size, 0, none⟩) xs.length xs.length) xs) := by
        refine ⟨_, _, rfl, by omega, fun i hi => ?_⟩
        obtain ⟨q0, q1⟩ := hall i (by omega)
        refine ⟨_, 0, rfl, Nat.le_refl _, hB.1, ?_⟩
        simp only [Nat.zero_add]
        exact ⟨q0, q1⟩
      clear hc hB hall
      go_wp2_with fail
      go_ret
      exact ⟨_, rfl, HI.out, hb, hfz⟩

set_option maxHeartbeats 400000 in
theorem toCell_th (x : Ce) (w : World) :
    Calls Tryz.prog 66 #[.agg #[.int .i64 x.num, .int .i64 x.time, .int .i64 x.lock]] w fun r w' => r = .returned (.agg #[.int .i64 x.num, .int .i64 x.time, .int .i64 x.lock]) ∧ Below w.heap.size w w' ∧ Fz w w' := by
  go_enter Tryz.func66, Tryz.ntmps66
  go_wp2_with fail
  refine bodyPost_ret (v := .agg #[.int .i64 x.num, .int .i64 x.time, .int .i64 x.lock]) (by simp [results, Tryz.results66, go_sem]) rfl ⟨rfl, (by repeat (first | exact Below.refl _ _ | refine Below.alloc ?_ (by simp; try omega) _ | refine Below.drew ?_ | refine Below.setCell ?_ (by simp; try omega) _)), (by repeat (first | with_reducible exact Fz.refl _ | with_reducible refine Fz.set ?_ _ _ | with_reducible refine Fz.alloc ?_ _ _ | with_reducible refine Fz.drew ?_))⟩

set_option maxHeartbeats 1000000 in
theorem toCellS_th (v : Value) (xs : List Ce) (w : World) (h : CesAt w v xs) (hsm : SmsCe xs) :
    Calls Tryz.prog 35 #[v] w fun r w' => ∃ v', r = .returned v' ∧ CesOn (fun b => w.heap.size ≤ b) w' v' xs ∧ Below w.heap.size w w' ∧ Fz w w' := by
  obtain ⟨a, cap, rfl, hm, hc⟩ := h
  have hn : xs.length ≤ 1048576 := hsm
  have info : (Tryz.prog.info? 100).map (fun i => (i.zero, i.size, i.bytes)) = some (some (.agg #[.int .i64 0, .int .i64 0, .int .i64 0]), 3, 24) := by kernel_rfl
  obtain ⟨M, hM, hmk⟩ := make_any (P := Tryz.prog) 38 100 _ 3 24 Tryz.underlying38 info xs.length (by omega) (by omega)
  clear info
  go_enter Tryz.func35, Tryz.ntmps35
  go_wp2_with fail
  go_loopw [4] (fun q w' => ∃ k : Nat, k ≤ xs.length ∧ q = .int .i64 k ∧ Below w.heap.size w w' ∧ Fz w w' ∧ Blk w' w.heap.size (xs.length * 3) ∧ (∀ j, j < k → w'.cell? ⟨w.heap.size, j * 3, none⟩ = some (.int .i64 (nth Ce.z xs j).num) ∧ w'.cell? ⟨w.heap.size, j * 3 + 1, none⟩ = some (.int .i64 (nth Ce.z xs j).time) ∧ w'.cell? ⟨w.heap.size, j * 3 + 2, none⟩ = some (.int .i64 (nth Ce.z xs j).lock))) (fun q _ => xs.length - (intOf q).toNat)
  case atStart =>
    have hB := Blk.new w M 100
    rw [hM] at hB
    exact ⟨0, Nat.zero_le _, rfl, (Below.refl _ _).alloc (Nat.le_refl _) _, (Fz.refl _).alloc _ _, hB, fun j hj => absurd hj (Nat.not_lt_zero _)⟩
  clear hmk hM
  case round =>
    obtain ⟨k, hk, rfl, hb, hfz, hB, hall⟩ := hrel
    by_cases hlt : k < xs.length
    · obtain ⟨b, off, rfl, hbw, c0, c1, c2⟩ := hc k hlt
      rw [← hb.cell (p := ⟨b, _, none⟩) hbw] at c0 c1 c2
      clear hc
      go_wp2_with fail
      refine (toCell_th (nth Ce.z xs k) _).mono ?_
      rintro e w1 ⟨rfl, hb1, hz1⟩
      have hB1 := hB.below hb1
      have HW : Hid (Below w.heap.size w w1) := hb.trans (hb1.mono hb.size)
      have HF : Hid (Fz w w1) := hfz.trans hz1
      have HA : Hid (∀ j, j < k → w1.cell? ⟨w.heap.size, j * 3, none⟩ = some (.int .i64 (nth Ce.z xs j).num) ∧ w1.cell? ⟨w.heap.size, j * 3 + 1, none⟩ = some (.int .i64 (nth Ce.z xs j).time) ∧ w1.cell? ⟨w.heap.size, j * 3 + 2, none⟩ = some (.int .i64 (nth Ce.z xs j).lock)) := fun j hj => by
        obtain ⟨q0, q1, q2⟩ := hall j hj
        rw [← hb1.cell (p := ⟨w.heap.size, _, none⟩) hB.1] at q0 q1 q2
        exact ⟨q0, q1, q2⟩
      obtain ⟨⟨x0, y0⟩, z0⟩ := hB1.2 (k * 3) (by omega)
      obtain ⟨⟨x1, y1⟩, z1⟩ := hB1.2 (k * 3 + 1) (by omega)
      obtain ⟨⟨x2, y2⟩, z2⟩ := hB1.2 (k * 3 + 2) (by omega)
      have HB : Hid (Blk w1 w.heap.size (xs.length * 3)) := hB1
      clear hB hall hb hb1 hz1 hfz hB1 c0 c1 c2 
      go_wp2_with fail
      go_roundw
      case rel =>
        have hng : ¬ (fun b => w.heap.size + 1 ≤ b) w.heap.size := by show ¬ (w.heap.size + 1 ≤ w.heap.size); omega
        refine ⟨k + 1, by omega, by go_num, setL_below (i := k * 3) (vs := [.int .i64 (nth Ce.z xs k).num, .int .i64 (nth Ce.z xs k).time, .int .i64 (nth Ce.z xs k).lock]) HW.out (Nat.le_refl _), setL_fz (i := k * 3) (vs := [.int .i64 (nth Ce.z xs k).num, .int .i64 (nth Ce.z xs k).time, .int .i64 (nth Ce.z xs k).lock]) HF.out, setL_blk (i := k * 3) (vs := [.int .i64 (nth Ce.z xs k).num, .int .i64 (nth Ce.z xs k).time, .int .i64 (nth Ce.z xs k).lock]) HB.out, so_far (fun j hj => ?_) ?_⟩
        · have O : ∀ o, o < k * 3 → (setL w1 w.heap.size (k * 3) [.int .i64 (nth Ce.z xs k).num, .int .i64 (nth Ce.z xs k).time, .int .i64 (nth Ce.z xs k).lock]).cell? ⟨w.heap.size, o, none⟩ = w1.cell? ⟨w.heap.size, o, none⟩ := fun o ho => setL_out _ _ _ _ _ (.inl ho)
          have K : Kept (fun b => w.heap.size + 1 ≤ b) w1 (setL w1 w.heap.size (k * 3) [.int .i64 (nth Ce.z xs k).num, .int .i64 (nth Ce.z xs k).time, .int .i64 (nth Ce.z xs k).lock]) := setL_kept hng
          obtain ⟨q0, q1, q2⟩ := HA.out j hj
          rw [← O _ (by omega)] at q0
          rw [← O _ (by omega)] at q1
          rw [← O _ (by omega)] at q2
          exact ⟨q0, q1, q2⟩
        · have I := fun j hj => setL_in (w := w1) (g := w.heap.size) (i := k * 3) (vs := [.int .i64 (nth Ce.z xs k).num, .int .i64 (nth Ce.z xs k).time, .int .i64 (nth Ce.z xs k).lock]) HB.out (by simp; omega) j hj
          exact ⟨I 0 (by simp), I 1 (by simp), I 2 (by simp)⟩
      case measure => simp [intOf]; omega
    · have HI : Hid (CesOn (fun b => w.heap.size ≤ b) wr (.slice (some ⟨w.heap.size, 0, none⟩) xs.length xs.length) xs) := by
        refine ⟨_, _, rfl, by omega, fun i hi => ?_⟩
        obtain ⟨q0, q1, q2⟩ := hall i (by omega)
        refine ⟨_, 0, rfl, Nat.le_refl _, hB.1, ?_⟩
        simp only [Nat.zero_add]
        exact ⟨q0, q1, q2⟩
      clear hc hB hall
      go_wp2_with fail
      go_ret
      exact ⟨_, rfl, HI.out, hb, hfz⟩

end Go.Proofs.YtdgihncobihbgaaGreat

/-
  Copies of systems (by mky.py).
-/
namespace Go.Proofs.YtdgihncobihbgaaGreat
open Go.RowKit
set_option linter.unusedSimpArgs false
set_option linter.unusedVariables false
set_option maxRecDepth 20000
set_option maxHeartbeats 1000000 in
theorem toTask_th (x : Ta) (v3 v8 v9 v10 : Value) (w : World) (h3 : IntsAt w v3 x.regs) (h8 : IntsAt w v8 x.old) (h9 : PusAt w v9 x.reads) (h10 : PusAt w v10 x.puts) (n3 : x.regs.length ≤ 1048576) (n8 : x.old.length ≤ 1048576) (n9 : x.reads.length ≤ 1048576) (n10 : x.puts.length ≤ 1048576) :
    Calls Tryz.prog 67 #[.agg #[.int .i64 x.body, .int .i64 x.pc, .int .i64 x.up, v3, .int .i64 x.way, .int .i64 x.stage, .int .i64 x.at_, .int .i64 x.since, v8, v9, v10, .int .i64 x.when_, .int .i64 x.from_]] w fun r w' => ∃ u3 u8 u9 u10, r = .returned (.agg #[.int .i64 x.body, .int .i64 x.pc, .int .i64 x.up, u3, .int .i64 x.way, .int .i64 x.stage, .int .i64 x.at_, .int .i64 x.since, u8, u9, u10, .int .i64 x.when_, .int .i64 x.from_]) ∧ IntsOn (fun b => w.heap.size ≤ b) w' u3 x.regs ∧ IntsOn (fun b => w.heap.size ≤ b) w' u8 x.old ∧ PusOn (fun b => w.heap.size ≤ b) w' u9 x.reads ∧ PusOn (fun b => w.heap.size ≤ b) w' u10 x.puts ∧ Below w.heap.size w w' ∧ Fz w w' := by
  obtain ⟨a3, c3, rfl, hm3⟩ := h3.shape
  have H3 := (show Hid (IntsAt _ _ _) from h3)
  clear h3
  obtain ⟨a8, c8, rfl, hm8⟩ := h8.shape
  have H8 := (show Hid (IntsAt _ _ _) from h8)
  clear h8
  obtain ⟨a9, c9, rfl, hm9⟩ := h9.shape
  have H9 := (show Hid (PusAt _ _ _) from h9)
  clear h9
  obtain ⟨a10, c10, rfl, hm10⟩ := h10.shape
  have H10 := (show Hid (PusAt _ _ _) from h10)
  clear h10
  go_enter Tryz.func67, Tryz.ntmps67
  go_wp2_with fail
  refine (toIntS_th _ x.regs _ (by exact IntsAt.mono H3.out (by repeat (first | with_reducible exact Below.refl _ _ | (with_reducible refine Below.setCell ?_ ?hs _; case hs => ((try simp); try omega)) | (with_reducible refine Below.alloc ?_ ?hs _; case hs => ((try simp); try omega)) | with_reducible refine Below.drew ?_))) n3).mono ?_
  rintro e w1 ⟨u3, rfl, hu3, hb1, hz1⟩
  obtain ⟨b3, d3, rfl, hmm3⟩ := hu3.shape
  obtain ⟨hc1, hf1⟩ := bcell hb1
  have s1 : w.heap.size + 1 + 1 < w1.heap.size := by have := hb1.size; (try simp at this); omega
  have s1a : w.heap.size < w1.heap.size := by omega
  have s1b : w.heap.size + 1 < w1.heap.size := by omega
  have HB1 : Hid (Below w.heap.size w w1) := below_then (by repeat (first | with_reducible exact Below.refl _ _ | (with_reducible refine Below.setCell ?_ ?hs _; case hs => ((try simp); try omega)) | (with_reducible refine Below.alloc ?_ ?hs _; case hs => ((try simp); try omega)) | with_reducible refine Below.drew ?_)) (by (try simp); try omega) hb1
  have HF1 : Hid (Fz w w1) := Fz.trans (by repeat (first | with_reducible exact Fz.refl _ | with_reducible refine Fz.set ?_ _ _ | with_reducible refine Fz.alloc ?_ _ _ | with_reducible refine Fz.drew ?_)) hz1
  have HU3_1 : Hid (IntsOn (fun b => w.heap.size + 3 ≤ b) w1 _ _) := hu3.wide (fun b hb => by simp at hb; show w.heap.size + 3 ≤ b; omega)
  clear hu3 hb1 hz1 H3
  go_wp2_with fail
  refine (toIntS_th _ x.old _ (by exact IntsAt.mono H8.out (by repeat (first | with_reducible exact HB1.out | (with_reducible refine Below.setCell ?_ ?hs _; case hs => ((try simp); try omega)) | (with_reducible refine Below.alloc ?_ ?hs _; case hs => ((try simp); try omega)) | with_reducible refine Below.drew ?_))) n8).mono ?_
  rintro e w2 ⟨u8, rfl, hu8, hb2, hz2⟩
  obtain ⟨b8, d8, rfl, hmm8⟩ := hu8.shape
  obtain ⟨hc2, hf2⟩ := bcell hb2
  have s2 : w.heap.size + 1 + 1 < w2.heap.size := by have := hb2.size; (try simp at this); omega
  have s2a : w.heap.size < w2.heap.size := by omega
  have s2b : w.heap.size + 1 < w2.heap.size := by omega
  have HB2 : Hid (Below w.heap.size w w2) := below_then (by repeat (first | with_reducible exact HB1.out | (with_reducible refine Below.setCell ?_ ?hs _; case hs => ((try simp); try omega)) | (with_reducible refine Below.alloc ?_ ?hs _; case hs => ((try simp); try omega)) | with_reducible refine Below.drew ?_)) (by (try simp); try omega) hb2
  have HF2 : Hid (Fz w w2) := Fz.trans (by repeat (first | with_reducible exact HF1.out | with_reducible refine Fz.set ?_ _ _ | with_reducible refine Fz.alloc ?_ _ _ | with_reducible refine Fz.drew ?_)) hz2
  have HU8_2 : Hid (IntsOn (fun b => w.heap.size + 3 ≤ b) w2 _ _) := hu8.wide (fun b hb => by simp at hb; show w.heap.size + 3 ≤ b; omega)
  have HU3_2 : Hid (IntsOn (fun b => w.heap.size + 3 ≤ b) w2 _ _) := IntsOn.kept HU3_1.out (Kept.trans (by repeat (first | with_reducible exact Kept.refl _ _ | (with_reducible refine Kept.trans ?_ (Kept.set _ _ _ _ ?hs); case hs => ((try simp); try omega)))) (Kept.below hb2))
  clear hu8 hb2 hz2 H8 HB1 HF1 HU3_1
  go_wp2_with fail
  refine (toPutS_th _ x.reads _ (by exact PusAt.mono H9.out (by repeat (first | with_reducible exact HB2.out | (with_reducible refine Below.setCell ?_ ?hs _; case hs => ((try simp); try omega)) | (with_reducible refine Below.alloc ?_ ?hs _; case hs => ((try simp); try omega)) | with_reducible refine Below.drew ?_))) n9).mono ?_
  rintro e w3 ⟨u9, rfl, hu9, hb3, hz3⟩
  obtain ⟨b9, d9, rfl, hmm9⟩ := hu9.shape
  obtain ⟨hc3, hf3⟩ := bcell hb3
  have s3 : w.heap.size + 1 + 1 < w3.heap.size := by have := hb3.size; (try simp at this); omega
  have s3a : w.heap.size < w3.heap.size := by omega
  have s3b : w.heap.size + 1 < w3.heap.size := by omega
  have HB3 : Hid (Below w.heap.size w w3) := below_then (by repeat (first | with_reducible exact HB2.out | (with_reducible refine Below.setCell ?_ ?hs _; case hs => ((try simp); try omega)) | (with_reducible refine Below.alloc ?_ ?hs _; case hs => ((try simp); try omega)) | with_reducible refine Below.drew ?_)) (by (try simp); try omega) hb3
  have HF3 : Hid (Fz w w3) := Fz.trans (by repeat (first | with_reducible exact HF2.out | with_reducible refine Fz.set ?_ _ _ | with_reducible refine Fz.alloc ?_ _ _ | with_reducible refine Fz.drew ?_)) hz3
  have HU9_3 : Hid (PusOn (fun b => w.heap.size + 3 ≤ b) w3 _ _) := hu9.wide (fun b hb => by simp at hb; show w.heap.size + 3 ≤ b; omega)
  have HU3_3 : Hid (IntsOn (fun b => w.heap.size + 3 ≤ b) w3 _ _) := IntsOn.kept HU3_2.out (Kept.trans (by repeat (first | with_reducible exact Kept.refl _ _ | (with_reducible refine Kept.trans ?_ (Kept.set _ _ _ _ ?hs); case hs => ((try simp); try omega)))) (Kept.below hb3))
  have HU8_3 : Hid (IntsOn (fun b => w.heap.size + 3 ≤ b) w3 _ _) := IntsOn.kept HU8_2.out (Kept.trans (by repeat (first | with_reducible exact Kept.refl _ _ | (with_reducible refine Kept.trans ?_ (Kept.set _ _ _ _ ?hs); case hs => ((try simp); try omega)))) (Kept.below hb3))
  clear hu9 hb3 hz3 H9 HB2 HF2 HU3_2 HU8_2
  go_wp2_with fail
  refine (toPutS_th _ x.puts _ (by exact PusAt.mono H10.out (by repeat (first | with_reducible exact HB3.out | (with_reducible refine Below.setCell ?_ ?hs _; case hs => ((try simp); try omega)) | (with_reducible refine Below.alloc ?_ ?hs _; case hs => ((try simp); try omega)) | with_reducible refine Below.drew ?_))) n10).mono ?_
  rintro e w4 ⟨u10, rfl, hu10, hb4, hz4⟩
  obtain ⟨b10, d10, rfl, hmm10⟩ := hu10.shape
  obtain ⟨hc4, hf4⟩ := bcell hb4
  have s4 : w.heap.size + 1 + 1 < w4.heap.size := by have := hb4.size; (try simp at this); omega
  have s4a : w.heap.size < w4.heap.size := by omega
  have s4b : w.heap.size + 1 < w4.heap.size := by omega
  have HB4 : Hid (Below w.heap.size w w4) := below_then (by repeat (first | with_reducible exact HB3.out | (with_reducible refine Below.setCell ?_ ?hs _; case hs => ((try simp); try omega)) | (with_reducible refine Below.alloc ?_ ?hs _; case hs => ((try simp); try omega)) | with_reducible refine Below.drew ?_)) (by (try simp); try omega) hb4
  have HF4 : Hid (Fz w w4) := Fz.trans (by repeat (first | with_reducible exact HF3.out | with_reducible refine Fz.set ?_ _ _ | with_reducible refine Fz.alloc ?_ _ _ | with_reducible refine Fz.drew ?_)) hz4
  have HU10_4 : Hid (PusOn (fun b => w.heap.size + 3 ≤ b) w4 _ _) := hu10.wide (fun b hb => by simp at hb; show w.heap.size + 3 ≤ b; omega)
  have HU3_4 : Hid (IntsOn (fun b => w.heap.size + 3 ≤ b) w4 _ _) := IntsOn.kept HU3_3.out (Kept.trans (by repeat (first | with_reducible exact Kept.refl _ _ | (with_reducible refine Kept.trans ?_ (Kept.set _ _ _ _ ?hs); case hs => ((try simp); try omega)))) (Kept.below hb4))
  have HU8_4 : Hid (IntsOn (fun b => w.heap.size + 3 ≤ b) w4 _ _) := IntsOn.kept HU8_3.out (Kept.trans (by repeat (first | with_reducible exact Kept.refl _ _ | (with_reducible refine Kept.trans ?_ (Kept.set _ _ _ _ ?hs); case hs => ((try simp); try omega)))) (Kept.below hb4))
  have HU9_4 : Hid (PusOn (fun b => w.heap.size + 3 ≤ b) w4 _ _) := PusOn.kept HU9_3.out (Kept.trans (by repeat (first | with_reducible exact Kept.refl _ _ | (with_reducible refine Kept.trans ?_ (Kept.set _ _ _ _ ?hs); case hs => ((try simp); try omega)))) (Kept.below hb4))
  clear hu10 hb4 hz4 H10 HB3 HF3 HU3_3 HU8_3 HU9_3
  go_wp2_with fail
  refine bodyPost_ret (v := .agg #[.int .i64 x.body, .int .i64 x.pc, .int .i64 x.up, .slice b3 x.regs.length d3, .int .i64 x.way, .int .i64 x.stage, .int .i64 x.at_, .int .i64 x.since, .slice b8 x.old.length d8, .slice b9 x.reads.length d9, .slice b10 x.puts.length d10, .int .i64 x.when_, .int .i64 x.from_]) (by simp [results, Tryz.results67, go_sem, hc1, hc2, hc3, hc4, s1, s1a, s1b, s2, s2a, s2b, s3, s3a, s3b, s4, s4a, s4b]) rfl ⟨_, _, _, _, rfl, ?_, ?_, ?_, ?_, ?_, ?_⟩
  · exact IntsOn.wide (fun b hb => by show w.heap.size ≤ b; have : w.heap.size + 3 ≤ b := hb; omega) (IntsOn.kept HU3_4.out (by repeat (first | with_reducible exact Kept.refl _ _ | (with_reducible refine Kept.trans ?_ (Kept.set _ _ _ _ ?hs); case hs => ((try simp); try omega)))))
  · exact IntsOn.wide (fun b hb => by show w.heap.size ≤ b; have : w.heap.size + 3 ≤ b := hb; omega) (IntsOn.kept HU8_4.out (by repeat (first | with_reducible exact Kept.refl _ _ | (with_reducible refine Kept.trans ?_ (Kept.set _ _ _ _ ?hs); case hs => ((try simp); try omega)))))
  · exact PusOn.wide (fun b hb => by show w.heap.size ≤ b; have : w.heap.size + 3 ≤ b := hb; omega) (PusOn.kept HU9_4.out (by repeat (first | with_reducible exact Kept.refl _ _ | (with_reducible refine Kept.trans ?_ (Kept.set _ _ _ _ ?hs); case hs => ((try simp); try omega)))))
  · exact PusOn.wide (fun b hb => by show w.heap.size ≤ b; have : w.heap.size + 3 ≤ b := hb; omega) (PusOn.kept HU10_4.out (by repeat (first | with_reducible exact Kept.refl _ _ | (with_reducible refine Kept.trans ?_ (Kept.set _ _ _ _ ?hs); case hs => ((try simp); try omega)))))
  · exact (by repeat (first | with_reducible exact HB4.out | (with_reducible refine Below.setCell ?_ ?hs _; case hs => ((try simp); try omega)) | (with_reducible refine Below.alloc ?_ ?hs _; case hs => ((try simp); try omega)) | with_reducible refine Below.drew ?_))
  · exact (by repeat (first | with_reducible exact HF4.out | with_reducible refine Fz.set ?_ _ _ | with_reducible refine Fz.alloc ?_ _ _ | with_reducible refine Fz.drew ?_))

end Go.Proofs.YtdgihncobihbgaaGreat

/-
  Copies of systems (by mky.py).
-/
namespace Go.Proofs.YtdgihncobihbgaaGreat
open Go.RowKit
set_option linter.unusedSimpArgs false
set_option linter.unusedVariables false
set_option maxRecDepth 20000
set_option maxHeartbeats 1000000 in
theorem toTaskS_th (v : Value) (xs : List Ta) (w : World) (h : TasAt w v xs) (hsm : SmsTa xs) :
    Calls Tryz.prog 36 #[v] w fun r w' => ∃ v', r = .returned v' ∧ TasOn (fun b => w.heap.size ≤ b) w' v' xs ∧ Below w.heap.size w w' ∧ Fz w w' := by
  obtain ⟨a, cap, rfl, hm, hc⟩ := h
  obtain ⟨hn, hsj⟩ := hsm
  have info : (Tryz.prog.info? 93).map (fun i => (i.zero, i.size, i.bytes)) = some (some (.agg #[.int .i64 0, .int .i64 0, .int .i64 0, .slice none 0 0, .int .i64 0, .int .i64 0, .int .i64 0, .int .i64 0, .slice none 0 0, .slice none 0 0, .slice none 0 0, .int .i64 0, .int .i64 0]), 13, 168) := by kernel_rfl
  obtain ⟨M, hM, hmk⟩ := make_any (P := Tryz.prog) 39 93 _ 13 168 Tryz.underlying39 info xs.length (by omega) (by omega)
  clear info
  go_enter Tryz.func36, Tryz.ntmps36
  go_wp2_with fail
  go_loopw [4] (fun q w' => ∃ k : Nat, k ≤ xs.length ∧ q = .int .i64 k ∧ Below w.heap.size w w' ∧ Fz w w' ∧ Blk w' w.heap.size (xs.length * 13) ∧ (∀ j, j < k → ∃ v3 v8 v9 v10, w'.cell? ⟨w.heap.size, j * 13, none⟩ = some (.int .i64 (nth Ta.z xs j).body) ∧ w'.cell? ⟨w.heap.size, j * 13 + 1, none⟩ = some (.int .i64 (nth Ta.z xs j).pc) ∧ w'.cell? ⟨w.heap.size, j * 13 + 2, none⟩ = some (.int .i64 (nth Ta.z xs j).up) ∧ w'.cell? ⟨w.heap.size, j * 13 + 3, none⟩ = some (v3) ∧ w'.cell? ⟨w.heap.size, j * 13 + 4, none⟩ = some (.int .i64 (nth Ta.z xs j).way) ∧ w'.cell? ⟨w.heap.size, j * 13 + 5, none⟩ = some (.int .i64 (nth Ta.z xs j).stage) ∧ w'.cell? ⟨w.heap.size, j * 13 + 6, none⟩ = some (.int .i64 (nth Ta.z xs j).at_) ∧ w'.cell? ⟨w.heap.size, j * 13 + 7, none⟩ = some (.int .i64 (nth Ta.z xs j).since) ∧ w'.cell? ⟨w.heap.size, j * 13 + 8, none⟩ = some (v8) ∧ w'.cell? ⟨w.heap.size, j * 13 + 9, none⟩ = some (v9) ∧ w'.cell? ⟨w.heap.size, j * 13 + 10, none⟩ = some (v10) ∧ w'.cell? ⟨w.heap.size, j * 13 + 11, none⟩ = some (.int .i64 (nth Ta.z xs j).when_) ∧ w'.cell? ⟨w.heap.size, j * 13 + 12, none⟩ = some (.int .i64 (nth Ta.z xs j).from_) ∧ IntsOn (fun b => w.heap.size + 1 ≤ b) w' v3 (nth Ta.z xs j).regs ∧ IntsOn (fun b => w.heap.size + 1 ≤ b) w' v8 (nth Ta.z xs j).old ∧ PusOn (fun b => w.heap.size + 1 ≤ b) w' v9 (nth Ta.z xs j).reads ∧ PusOn (fun b => w.heap.size + 1 ≤ b) w' v10 (nth Ta.z xs j).puts)) (fun q _ => xs.length - (intOf q).toNat)
  case atStart =>
    have hB := Blk.new w M 93
    rw [hM] at hB
    exact ⟨0, Nat.zero_le _, rfl, (Below.refl _ _).alloc (Nat.le_refl _) _, (Fz.refl _).alloc _ _, hB, fun j hj => absurd hj (Nat.not_lt_zero _)⟩
  clear hmk hM
  case round =>
    obtain ⟨k, hk, rfl, hb, hfz, hB, hall⟩ := hrel
    by_cases hlt : k < xs.length
    · obtain ⟨b, off, v3, v8, v9, v10, rfl, hbw, c0, c1, c2, c3, c4, c5, c6, c7, c8, c9, c10, c11, c12, h3, h8, h9, h10⟩ := hc k hlt
      rw [← hb.cell (p := ⟨b, _, none⟩) hbw] at c0 c1 c2 c3 c4 c5 c6 c7 c8 c9 c10 c11 c12
      obtain ⟨a3, e3, rfl, hm3⟩ := h3.shape
      have H3 := (show Hid (IntsAt _ _ _) from h3.mono hb)
      obtain ⟨a8, e8, rfl, hm8⟩ := h8.shape
      have H8 := (show Hid (IntsAt _ _ _) from h8.mono hb)
      obtain ⟨a9, e9, rfl, hm9⟩ := h9.shape
      have H9 := (show Hid (PusAt _ _ _) from h9.mono hb)
      obtain ⟨a10, e10, rfl, hm10⟩ := h10.shape
      have H10 := (show Hid (PusAt _ _ _) from h10.mono hb)
      have HS := (show Hid (SmTa _) from hsj k hlt)
      clear hc hsj h3 h8 h9 h10
      go_wp2_with fail
      refine (toTask_th (nth Ta.z xs k) _ _ _ _ _ H3.out H8.out H9.out H10.out HS.out.1 HS.out.2.1 HS.out.2.2.1 HS.out.2.2.2).mono ?_
      rintro e w1 ⟨u3, u8, u9, u10, rfl, g3, g8, g9, g10, hb1, hz1⟩
      obtain ⟨b3, d3, rfl, hmm3⟩ := g3.shape
      obtain ⟨b8, d8, rfl, hmm8⟩ := g8.shape
      obtain ⟨b9, d9, rfl, hmm9⟩ := g9.shape
      obtain ⟨b10, d10, rfl, hmm10⟩ := g10.shape
      have hB1 := hB.below hb1
      have HW : Hid (Below w.heap.size w w1) := hb.trans (hb1.mono hb.size)
      have HF : Hid (Fz w w1) := hfz.trans hz1
      have HA : Hid (∀ j, j < k → ∃ v3 v8 v9 v10, w1.cell? ⟨w.heap.size, j * 13, none⟩ = some (.int .i64 (nth Ta.z xs j).body) ∧ w1.cell? ⟨w.heap.size, j * 13 + 1, none⟩ = some (.int .i64 (nth Ta.z xs j).pc) ∧ w1.cell? ⟨w.heap.size, j * 13 + 2, none⟩ = some (.int .i64 (nth Ta.z xs j).up) ∧ w1.cell? ⟨w.heap.size, j * 13 + 3, none⟩ = some (v3) ∧ w1.cell? ⟨w.heap.size, j * 13 + 4, none⟩ = some (.int .i64 (nth Ta.z xs j).way) ∧ w1.cell? ⟨w.heap.size, j * 13 + 5, none⟩ = some (.int .i64 (nth Ta.z xs j).stage) ∧ w1.cell? ⟨w.heap.size, j * 13 + 6, none⟩ = some (.int .i64 (nth Ta.z xs j).at_) ∧ w1.cell? ⟨w.heap.size, j * 13 + 7, none⟩ = some (.int .i64 (nth Ta.z xs j).since) ∧ w1.cell? ⟨w.heap.size, j * 13 + 8, none⟩ = some (v8) ∧ w1.cell? ⟨w.heap.size, j * 13 + 9, none⟩ = some (v9) ∧ w1.cell? ⟨w.heap.size, j * 13 + 10, none⟩ = some (v10) ∧ w1.cell? ⟨w.heap.size, j * 13 + 11, none⟩ = some (.int .i64 (nth Ta.z xs j).when_) ∧ w1.cell? ⟨w.heap.size, j * 13 + 12, none⟩ = some (.int .i64 (nth Ta.z xs j).from_) ∧ IntsOn (fun b => w.heap.size + 1 ≤ b) w1 v3 (nth Ta.z xs j).regs ∧ IntsOn (fun b => w.heap.size + 1 ≤ b) w1 v8 (nth Ta.z xs j).old ∧ PusOn (fun b => w.heap.size + 1 ≤ b) w1 v9 (nth Ta.z xs j).reads ∧ PusOn (fun b => w.heap.size + 1 ≤ b) w1 v10 (nth Ta.z xs j).puts) := fun j hj => by
        obtain ⟨v3, v8, v9, v10, q0, q1, q2, q3, q4, q5, q6, q7, q8, q9, q10, q11, q12, r3, r8, r9, r10⟩ := hall j hj
        rw [← hb1.cell (p := ⟨w.heap.size, _, none⟩) hB.1] at q0 q1 q2 q3 q4 q5 q6 q7 q8 q9 q10 q11 q12
        exact ⟨v3, v8, v9, v10, q0, q1, q2, q3, q4, q5, q6, q7, q8, q9, q10, q11, q12, r3.kept (Kept.below hb1), r8.kept (Kept.below hb1), r9.kept (Kept.below hb1), r10.kept (Kept.below hb1)⟩
      obtain ⟨⟨x0, y0⟩, z0⟩ := hB1.2 (k * 13) (by omega)
      obtain ⟨⟨x1, y1⟩, z1⟩ := hB1.2 (k * 13 + 1) (by omega)
      obtain ⟨⟨x2, y2⟩, z2⟩ := hB1.2 (k * 13 + 2) (by omega)
      obtain ⟨⟨x3, y3⟩, z3⟩ := hB1.2 (k * 13 + 3) (by omega)
      obtain ⟨⟨x4, y4⟩, z4⟩ := hB1.2 (k * 13 + 4) (by omega)
      obtain ⟨⟨x5, y5⟩, z5⟩ := hB1.2 (k * 13 + 5) (by omega)
      obtain ⟨⟨x6, y6⟩, z6⟩ := hB1.2 (k * 13 + 6) (by omega)
      obtain ⟨⟨x7, y7⟩, z7⟩ := hB1.2 (k * 13 + 7) (by omega)
      obtain ⟨⟨x8, y8⟩, z8⟩ := hB1.2 (k * 13 + 8) (by omega)
      obtain ⟨⟨x9, y9⟩, z9⟩ := hB1.2 (k * 13 + 9) (by omega)
      obtain ⟨⟨x10, y10⟩, z10⟩ := hB1.2 (k * 13 + 10) (by omega)
      obtain ⟨⟨x11, y11⟩, z11⟩ := hB1.2 (k * 13 + 11) (by omega)
      obtain ⟨⟨x12, y12⟩, z12⟩ := hB1.2 (k * 13 + 12) (by omega)
      have HB : Hid (Blk w1 w.heap.size (xs.length * 13)) := hB1
      have HU3 : Hid (IntsOn (fun b => w.heap.size + 1 ≤ b) w1 (.slice b3 (nth Ta.z xs k).regs.length d3) (nth Ta.z xs k).regs) := g3.wide (fun b hb' => by have := hB.1; show w.heap.size + 1 ≤ b; have : wr.heap.size ≤ b := hb'; omega)
      have HU8 : Hid (IntsOn (fun b => w.heap.size + 1 ≤ b) w1 (.slice b8 (nth Ta.z xs k).old.length d8) (nth Ta.z xs k).old) := g8.wide (fun b hb' => by have := hB.1; show w.heap.size + 1 ≤ b; have : wr.heap.size ≤ b := hb'; omega)
      have HU9 : Hid (PusOn (fun b => w.heap.size + 1 ≤ b) w1 (.slice b9 (nth Ta.z xs k).reads.length d9) (nth Ta.z xs k).reads) := g9.wide (fun b hb' => by have := hB.1; show w.heap.size + 1 ≤ b; have : wr.heap.size ≤ b := hb'; omega)
      have HU10 : Hid (PusOn (fun b => w.heap.size + 1 ≤ b) w1 (.slice b10 (nth Ta.z xs k).puts.length d10) (nth Ta.z xs k).puts) := g10.wide (fun b hb' => by have := hB.1; show w.heap.size + 1 ≤ b; have : wr.heap.size ≤ b := hb'; omega)
      clear hB hall hb hb1 hz1 hfz hB1 c0 c1 c2 c3 c4 c5 c6 c7 c8 c9 c10 c11 c12 g3 H3 g8 H8 g9 H9 g10 H10 HS
      go_wp2_with fail
      go_roundw
      case rel =>
        have hng : ¬ (fun b => w.heap.size + 1 ≤ b) w.heap.size := by show ¬ (w.heap.size + 1 ≤ w.heap.size); omega
        refine ⟨k + 1, by omega, by go_num, setL_below (i := k * 13) (vs := [.int .i64 (nth Ta.z xs k).body, .int .i64 (nth Ta.z xs k).pc, .int .i64 (nth Ta.z xs k).up, .slice b3 (nth Ta.z xs k).regs.length d3, .int .i64 (nth Ta.z xs k).way, .int .i64 (nth Ta.z xs k).stage, .int .i64 (nth Ta.z xs k).at_, .int .i64 (nth Ta.z xs k).since, .slice b8 (nth Ta.z xs k).old.length d8, .slice b9 (nth Ta.z xs k).reads.length d9, .slice b10 (nth Ta.z xs k).puts.length d10, .int .i64 (nth Ta.z xs k).when_, .int .i64 (nth Ta.z xs k).from_]) HW.out (Nat.le_refl _), setL_fz (i := k * 13) (vs := [.int .i64 (nth Ta.z xs k).body, .int .i64 (nth Ta.z xs k).pc, .int .i64 (nth Ta.z xs k).up, .slice b3 (nth Ta.z xs k).regs.length d3, .int .i64 (nth Ta.z xs k).way, .int .i64 (nth Ta.z xs k).stage, .int .i64 (nth Ta.z xs k).at_, .int .i64 (nth Ta.z xs k).since, .slice b8 (nth Ta.z xs k).old.length d8, .slice b9 (nth Ta.z xs k).reads.length d9, .slice b10 (nth Ta.z xs k).puts.length d10, .int .i64 (nth Ta.z xs k).when_, .int .i64 (nth Ta.z xs k).from_]) HF.out, setL_blk (i := k * 13) (vs := [.int .i64 (nth Ta.z xs k).body, .int .i64 (nth Ta.z xs k).pc, .int .i64 (nth Ta.z xs k).up, .slice b3 (nth Ta.z xs k).regs.length d3, .int .i64 (nth Ta.z xs k).way, .int .i64 (nth Ta.z xs k).stage, .int .i64 (nth Ta.z xs k).at_, .int .i64 (nth Ta.z xs k).since, .slice b8 (nth Ta.z xs k).old.length d8, .slice b9 (nth Ta.z xs k).reads.length d9, .slice b10 (nth Ta.z xs k).puts.length d10, .int .i64 (nth Ta.z xs k).when_, .int .i64 (nth Ta.z xs k).from_]) HB.out, so_far (fun j hj => ?_) ?_⟩
        · have O : ∀ o, o < k * 13 → (setL w1 w.heap.size (k * 13) [.int .i64 (nth Ta.z xs k).body, .int .i64 (nth Ta.z xs k).pc, .int .i64 (nth Ta.z xs k).up, .slice b3 (nth Ta.z xs k).regs.length d3, .int .i64 (nth Ta.z xs k).way, .int .i64 (nth Ta.z xs k).stage, .int .i64 (nth Ta.z xs k).at_, .int .i64 (nth Ta.z xs k).since, .slice b8 (nth Ta.z xs k).old.length d8, .slice b9 (nth Ta.z xs k).reads.length d9, .slice b10 (nth Ta.z xs k).puts.length d10, .int .i64 (nth Ta.z xs k).when_, .int .i64 (nth Ta.z xs k).from_]).cell? ⟨w.heap.size, o, none⟩ = w1.cell? ⟨w.heap.size, o, none⟩ := fun o ho => setL_out _ _ _ _ _ (.inl ho)
          have K : Kept (fun b => w.heap.size + 1 ≤ b) w1 (setL w1 w.heap.size (k * 13) [.int .i64 (nth Ta.z xs k).body, .int .i64 (nth Ta.z xs k).pc, .int .i64 (nth Ta.z xs k).up, .slice b3 (nth Ta.z xs k).regs.length d3, .int .i64 (nth Ta.z xs k).way, .int .i64 (nth Ta.z xs k).stage, .int .i64 (nth Ta.z xs k).at_, .int .i64 (nth Ta.z xs k).since, .slice b8 (nth Ta.z xs k).old.length d8, .slice b9 (nth Ta.z xs k).reads.length d9, .slice b10 (nth Ta.z xs k).puts.length d10, .int .i64 (nth Ta.z xs k).when_, .int .i64 (nth Ta.z xs k).from_]) := setL_kept hng
          obtain ⟨v3, v8, v9, v10, q0, q1, q2, q3, q4, q5, q6, q7, q8, q9, q10, q11, q12, r3, r8, r9, r10⟩ := HA.out j hj
          rw [← O _ (by omega)] at q0
          rw [← O _ (by omega)] at q1
          rw [← O _ (by omega)] at q2
          rw [← O _ (by omega)] at q3
          rw [← O _ (by omega)] at q4
          rw [← O _ (by omega)] at q5
          rw [← O _ (by omega)] at q6
          rw [← O _ (by omega)] at q7
          rw [← O _ (by omega)] at q8
          rw [← O _ (by omega)] at q9
          rw [← O _ (by omega)] at q10
          rw [← O _ (by omega)] at q11
          rw [← O _ (by omega)] at q12
          exact ⟨v3, v8, v9, v10, q0, q1, q2, q3, q4, q5, q6, q7, q8, q9, q10, q11, q12, r3.kept K, r8.kept K, r9.kept K, r10.kept K⟩
        · have I := fun j hj => setL_in (w := w1) (g := w.heap.size) (i := k * 13) (vs := [.int .i64 (nth Ta.z xs k).body, .int .i64 (nth Ta.z xs k).pc, .int .i64 (nth Ta.z xs k).up, .slice b3 (nth Ta.z xs k).regs.length d3, .int .i64 (nth Ta.z xs k).way, .int .i64 (nth Ta.z xs k).stage, .int .i64 (nth Ta.z xs k).at_, .int .i64 (nth Ta.z xs k).since, .slice b8 (nth Ta.z xs k).old.length d8, .slice b9 (nth Ta.z xs k).reads.length d9, .slice b10 (nth Ta.z xs k).puts.length d10, .int .i64 (nth Ta.z xs k).when_, .int .i64 (nth Ta.z xs k).from_]) HB.out (by simp; omega) j hj
          have K : Kept (fun b => w.heap.size + 1 ≤ b) w1 (setL w1 w.heap.size (k * 13) [.int .i64 (nth Ta.z xs k).body, .int .i64 (nth Ta.z xs k).pc, .int .i64 (nth Ta.z xs k).up, .slice b3 (nth Ta.z xs k).regs.length d3, .int .i64 (nth Ta.z xs k).way, .int .i64 (nth Ta.z xs k).stage, .int .i64 (nth Ta.z xs k).at_, .int .i64 (nth Ta.z xs k).since, .slice b8 (nth Ta.z xs k).old.length d8, .slice b9 (nth Ta.z xs k).reads.length d9, .slice b10 (nth Ta.z xs k).puts.length d10, .int .i64 (nth Ta.z xs k).when_, .int .i64 (nth Ta.z xs k).from_]) := setL_kept hng
          exact ⟨_, _, _, _, I 0 (by simp), I 1 (by simp), I 2 (by simp), I 3 (by simp), I 4 (by simp), I 5 (by simp), I 6 (by simp), I 7 (by simp), I 8 (by simp), I 9 (by simp), I 10 (by simp), I 11 (by simp), I 12 (by simp), IntsOn.kept HU3.out K, IntsOn.kept HU8.out K, PusOn.kept HU9.out K, PusOn.kept HU10.out K⟩
      case measure => simp [intOf]; omega
    · have HI : Hid (TasOn (fun b => w.heap.size ≤ b) wr (.slice (some ⟨w.heap.size, 0, none⟩) xs.length xs.length) xs) := by
        refine ⟨_, _, rfl, by omega, fun i hi => ?_⟩
        obtain ⟨v3, v8, v9, v10, q0, q1, q2, q3, q4, q5, q6, q7, q8, q9, q10, q11, q12, r3, r8, r9, r10⟩ := hall i (by omega)
        refine ⟨_, 0, v3, v8, v9, v10, rfl, Nat.le_refl _, hB.1, ?_⟩
        simp only [Nat.zero_add]
        exact ⟨q0, q1, q2, q3, q4, q5, q6, q7, q8, q9, q10, q11, q12, r3.wide (fun b hb' => by show w.heap.size ≤ b; have : w.heap.size + 1 ≤ b := hb'; omega), r8.wide (fun b hb' => by show w.heap.size ≤ b; have : w.heap.size + 1 ≤ b := hb'; omega), r9.wide (fun b hb' => by show w.heap.size ≤ b; have : w.heap.size + 1 ≤ b := hb'; omega), r10.wide (fun b hb' => by show w.heap.size ≤ b; have : w.heap.size + 1 ≤ b := hb'; omega)⟩
      clear hc hB hall hsj
      go_wp2_with fail
      go_ret
      exact ⟨_, rfl, HI.out, hb, hfz⟩

end Go.Proofs.YtdgihncobihbgaaGreat

/-
  Copies of systems (by mky.py).
-/
namespace Go.Proofs.YtdgihncobihbgaaGreat
open Go.RowKit
set_option linter.unusedSimpArgs false
set_option linter.unusedVariables false
set_option maxRecDepth 20000
set_option maxHeartbeats 1000000 in
theorem toEntry_th (x : En) (v3 v4 : Value) (w : World) (h3 : PusAt w v3 x.reads) (h4 : PusAt w v4 x.puts) (n3 : x.reads.length ≤ 1048576) (n4 : x.puts.length ≤ 1048576) :
    Calls Tryz.prog 68 #[.agg #[.int .i64 x.task, .int .i64 x.act, .int .i64 x.when_, v3, v4, .int .i64 x.from_]] w fun r w' => ∃ u3 u4, r = .returned (.agg #[.int .i64 x.task, .int .i64 x.act, .int .i64 x.when_, u3, u4, .int .i64 x.from_]) ∧ PusOn (fun b => w.heap.size ≤ b) w' u3 x.reads ∧ PusOn (fun b => w.heap.size ≤ b) w' u4 x.puts ∧ Below w.heap.size w w' ∧ Fz w w' := by
  obtain ⟨a3, c3, rfl, hm3⟩ := h3.shape
  have H3 := (show Hid (PusAt _ _ _) from h3)
  clear h3
  obtain ⟨a4, c4, rfl, hm4⟩ := h4.shape
  have H4 := (show Hid (PusAt _ _ _) from h4)
  clear h4
  go_enter Tryz.func68, Tryz.ntmps68
  go_wp2_with fail
  refine (toPutS_th _ x.reads _ (by exact PusAt.mono H3.out (by repeat (first | with_reducible exact Below.refl _ _ | (with_reducible refine Below.setCell ?_ ?hs _; case hs => ((try simp); try omega)) | (with_reducible refine Below.alloc ?_ ?hs _; case hs => ((try simp); try omega)) | with_reducible refine Below.drew ?_))) n3).mono ?_
  rintro e w1 ⟨u3, rfl, hu3, hb1, hz1⟩
  obtain ⟨b3, d3, rfl, hmm3⟩ := hu3.shape
  obtain ⟨hc1, hf1⟩ := bcell hb1
  have s1 : w.heap.size + 1 + 1 < w1.heap.size := by have := hb1.size; (try simp at this); omega
  have s1a : w.heap.size < w1.heap.size := by omega
  have s1b : w.heap.size + 1 < w1.heap.size := by omega
  have HB1 : Hid (Below w.heap.size w w1) := below_then (by repeat (first | with_reducible exact Below.refl _ _ | (with_reducible refine Below.setCell ?_ ?hs _; case hs => ((try simp); try omega)) | (with_reducible refine Below.alloc ?_ ?hs _; case hs => ((try simp); try omega)) | with_reducible refine Below.drew ?_)) (by (try simp); try omega) hb1
  have HF1 : Hid (Fz w w1) := Fz.trans (by repeat (first | with_reducible exact Fz.refl _ | with_reducible refine Fz.set ?_ _ _ | with_reducible refine Fz.alloc ?_ _ _ | with_reducible refine Fz.drew ?_)) hz1
  have HU3_1 : Hid (PusOn (fun b => w.heap.size + 3 ≤ b) w1 _ _) := hu3.wide (fun b hb => by simp at hb; show w.heap.size + 3 ≤ b; omega)
  clear hu3 hb1 hz1 H3
  go_wp2_with fail
  refine (toPutS_th _ x.puts _ (by exact PusAt.mono H4.out (by repeat (first | with_reducible exact HB1.out | (with_reducible refine Below.setCell ?_ ?hs _; case hs => ((try simp); try omega)) | (with_reducible refine Below.alloc ?_ ?hs _; case hs => ((try simp); try omega)) | with_reducible refine Below.drew ?_))) n4).mono ?_
  rintro e w2 ⟨u4, rfl, hu4, hb2, hz2⟩
  obtain ⟨b4, d4, rfl, hmm4⟩ := hu4.shape
  obtain ⟨hc2, hf2⟩ := bcell hb2
  have s2 : w.heap.size + 1 + 1 < w2.heap.size := by have := hb2.size; (try simp at this); omega
  have s2a : w.heap.size < w2.heap.size := by omega
  have s2b : w.heap.size + 1 < w2.heap.size := by omega
  have HB2 : Hid (Below w.heap.size w w2) := below_then (by repeat (first | with_reducible exact HB1.out | (with_reducible refine Below.setCell ?_ ?hs _; case hs => ((try simp); try omega)) | (with_reducible refine Below.alloc ?_ ?hs _; case hs => ((try simp); try omega)) | with_reducible refine Below.drew ?_)) (by (try simp); try omega) hb2
  have HF2 : Hid (Fz w w2) := Fz.trans (by repeat (first | with_reducible exact HF1.out | with_reducible refine Fz.set ?_ _ _ | with_reducible refine Fz.alloc ?_ _ _ | with_reducible refine Fz.drew ?_)) hz2
  have HU4_2 : Hid (PusOn (fun b => w.heap.size + 3 ≤ b) w2 _ _) := hu4.wide (fun b hb => by simp at hb; show w.heap.size + 3 ≤ b; omega)
  have HU3_2 : Hid (PusOn (fun b => w.heap.size + 3 ≤ b) w2 _ _) := PusOn.kept HU3_1.out (Kept.trans (by repeat (first | with_reducible exact Kept.refl _ _ | (with_reducible refine Kept.trans ?_ (Kept.set _ _ _ _ ?hs); case hs => ((try simp); try omega)))) (Kept.below hb2))
  clear hu4 hb2 hz2 H4 HB1 HF1 HU3_1
  go_wp2_with fail
  refine bodyPost_ret (v := .agg #[.int .i64 x.task, .int .i64 x.act, .int .i64 x.when_, .slice b3 x.reads.length d3, .slice b4 x.puts.length d4, .int .i64 x.from_]) (by simp [results, Tryz.results68, go_sem, hc1, hc2, s1, s1a, s1b, s2, s2a, s2b]) rfl ⟨_, _, rfl, ?_, ?_, ?_, ?_⟩
  · exact PusOn.wide (fun b hb => by show w.heap.size ≤ b; have : w.heap.size + 3 ≤ b := hb; omega) (PusOn.kept HU3_2.out (by repeat (first | with_reducible exact Kept.refl _ _ | (with_reducible refine Kept.trans ?_ (Kept.set _ _ _ _ ?hs); case hs => ((try simp); try omega)))))
  · exact PusOn.wide (fun b hb => by show w.heap.size ≤ b; have : w.heap.size + 3 ≤ b := hb; omega) (PusOn.kept HU4_2.out (by repeat (first | with_reducible exact Kept.refl _ _ | (with_reducible refine Kept.trans ?_ (Kept.set _ _ _ _ ?hs); case hs => ((try simp); try omega)))))
  · exact (by repeat (first | with_reducible exact HB2.out | (with_reducible refine Below.setCell ?_ ?hs _; case hs => ((try simp); try omega)) | (with_reducible refine Below.alloc ?_ ?hs _; case hs => ((try simp); try omega)) | with_reducible refine Below.drew ?_))
  · exact (by repeat (first | with_reducible exact HF2.out | with_reducible refine Fz.set ?_ _ _ | with_reducible refine Fz.alloc ?_ _ _ | with_reducible refine Fz.drew ?_))

set_option maxHeartbeats 1000000 in
theorem toEntryS_th (v : Value) (xs : List En) (w : World) (h : EnsAt w v xs) (hsm : SmsEn xs) :
    Calls Tryz.prog 37 #[v] w fun r w' => ∃ v', r = .returned v' ∧ EnsOn (fun b => w.heap.size ≤ b) w' v' xs ∧ Below w.heap.size w w' ∧ Fz w w' := by
  obtain ⟨a, cap, rfl, hm, hc⟩ := h
  obtain ⟨hn, hsj⟩ := hsm
  have info : (Tryz.prog.info? 103).map (fun i => (i.zero, i.size, i.bytes)) = some (some (.agg #[.int .i64 0, .int .i64 0, .int .i64 0, .slice none 0 0, .slice none 0 0, .int .i64 0]), 6, 80) := by kernel_rfl
  obtain ⟨M, hM, hmk⟩ := make_any (P := Tryz.prog) 40 103 _ 6 80 Tryz.underlying40 info xs.length (by omega) (by omega)
  clear info
  go_enter Tryz.func37, Tryz.ntmps37
  go_wp2_with fail
  go_loopw [4] (fun q w' => ∃ k : Nat, k ≤ xs.length ∧ q = .int .i64 k ∧ Below w.heap.size w w' ∧ Fz w w' ∧ Blk w' w.heap.size (xs.length * 6) ∧ (∀ j, j < k → ∃ v3 v4, w'.cell? ⟨w.heap.size, j * 6, none⟩ = some (.int .i64 (nth En.z xs j).task) ∧ w'.cell? ⟨w.heap.size, j * 6 + 1, none⟩ = some (.int .i64 (nth En.z xs j).act) ∧ w'.cell? ⟨w.heap.size, j * 6 + 2, none⟩ = some (.int .i64 (nth En.z xs j).when_) ∧ w'.cell? ⟨w.heap.size, j * 6 + 3, none⟩ = some (v3) ∧ w'.cell? ⟨w.heap.size, j * 6 + 4, none⟩ = some (v4) ∧ w'.cell? ⟨w.heap.size, j * 6 + 5, none⟩ = some (.int .i64 (nth En.z xs j).from_) ∧ PusOn (fun b => w.heap.size + 1 ≤ b) w' v3 (nth En.z xs j).reads ∧ PusOn (fun b => w.heap.size + 1 ≤ b) w' v4 (nth En.z xs j).puts)) (fun q _ => xs.length - (intOf q).toNat)
  case atStart =>
    have hB := Blk.new w M 103
    rw [hM] at hB
    exact ⟨0, Nat.zero_le _, rfl, (Below.refl _ _).alloc (Nat.le_refl _) _, (Fz.refl _).alloc _ _, hB, fun j hj => absurd hj (Nat.not_lt_zero _)⟩
  clear hmk hM
  case round =>
    obtain ⟨k, hk, rfl, hb, hfz, hB, hall⟩ := hrel
    by_cases hlt : k < xs.length
    · obtain ⟨b, off, v3, v4, rfl, hbw, c0, c1, c2, c3, c4, c5, h3, h4⟩ := hc k hlt
      rw [← hb.cell (p := ⟨b, _, none⟩) hbw] at c0 c1 c2 c3 c4 c5
      obtain ⟨a3, e3, rfl, hm3⟩ := h3.shape
      have H3 := (show Hid (PusAt _ _ _) from h3.mono hb)
      obtain ⟨a4, e4, rfl, hm4⟩ := h4.shape
      have H4 := (show Hid (PusAt _ _ _) from h4.mono hb)
      have HS := (show Hid (SmEn _) from hsj k hlt)
      clear hc hsj h3 h4
      go_wp2_with fail
      refine (toEntry_th (nth En.z xs k) _ _ _ H3.out H4.out HS.out.1 HS.out.2).mono ?_
      rintro e w1 ⟨u3, u4, rfl, g3, g4, hb1, hz1⟩
      obtain ⟨b3, d3, rfl, hmm3⟩ := g3.shape
      obtain ⟨b4, d4, rfl, hmm4⟩ := g4.shape
      have hB1 := hB.below hb1
      have HW : Hid (Below w.heap.size w w1) := hb.trans (hb1.mono hb.size)
      have HF : Hid (Fz w w1) := hfz.trans hz1
      have HA : Hid (∀ j, j < k → ∃ v3 v4, w1.cell? ⟨w.heap.size, j * 6, none⟩ = some (.int .i64 (nth En.z xs j).task) ∧ w1.cell? ⟨w.heap.size, j * 6 + 1, none⟩ = some (.int .i64 (nth En.z xs j).act) ∧ w1.cell? ⟨w.heap.size, j * 6 + 2, none⟩ = some (.int .i64 (nth En.z xs j).when_) ∧ w1.cell? ⟨w.heap.size, j * 6 + 3, none⟩ = some (v3) ∧ w1.cell? ⟨w.heap.size, j * 6 + 4, none⟩ = some (v4) ∧ w1.cell? ⟨w.heap.size, j * 6 + 5, none⟩ = some (.int .i64 (nth En.z xs j).from_) ∧ PusOn (fun b => w.heap.size + 1 ≤ b) w1 v3 (nth En.z xs j).reads ∧ PusOn (fun b => w.heap.size + 1 ≤ b) w1 v4 (nth En.z xs j).puts) := fun j hj => by
        obtain ⟨v3, v4, q0, q1, q2, q3, q4, q5, r3, r4⟩ := hall j hj
        rw [← hb1.cell (p := ⟨w.heap.size, _, none⟩) hB.1] at q0 q1 q2 q3 q4 q5
        exact ⟨v3, v4, q0, q1, q2, q3, q4, q5, r3.kept (Kept.below hb1), r4.kept (Kept.below hb1)⟩
      obtain ⟨⟨x0, y0⟩, z0⟩ := hB1.2 (k * 6) (by omega)
      obtain ⟨⟨x1, y1⟩, z1⟩ := hB1.2 (k * 6 + 1) (by omega)
      obtain ⟨⟨x2, y2⟩, z2⟩ := hB1.2 (k * 6 + 2) (by omega)
      obtain ⟨⟨x3, y3⟩, z3⟩ := hB1.2 (k * 6 + 3) (by omega)
      obtain ⟨⟨x4, y4⟩, z4⟩ := hB1.2 (k * 6 + 4) (by omega)
      obtain ⟨⟨x5, y5⟩, z5⟩ := hB1.2 (k * 6 + 5) (by omega)
      have HB : Hid (Blk w1 w.heap.size (xs.length * 6)) := hB1
      have HU3 : Hid (PusOn (fun b => w.heap.size + 1 ≤ b) w1 (.slice b3 (nth En.z xs k).reads.length d3) (nth En.z xs k).reads) := g3.wide (fun b hb' => by have := hB.1; show w.heap.size + 1 ≤ b; have : wr.heap.size ≤ b := hb'; omega)
      have HU4 : Hid (PusOn (fun b => w.heap.size + 1 ≤ b) w1 (.slice b4 (nth En.z xs k).puts.length d4) (nth En.z xs k).puts) := g4.wide (fun b hb' => by have := hB.1; show w.heap.size + 1 ≤ b; have : wr.heap.size ≤ b := hb'; omega)
      clear hB hall hb hb1 hz1 hfz hB1 c0 c1 c2 c3 c4 c5 g3 H3 g4 H4 HS
      go_wp2_with fail
      go_roundw
      case rel =>
        have hng : ¬ (fun b => w.heap.size + 1 ≤ b) w.heap.size := by show ¬ (w.heap.size + 1 ≤ w.heap.size); omega
        refine ⟨k + 1, by omega, by go_num, setL_below (i := k * 6) (vs := [.int .i64 (nth En.z xs k).task, .int .i64 (nth En.z xs k).act, .int .i64 (nth En.z xs k).when_, .slice b3 (nth En.z xs k).reads.length d3, .slice b4 (nth En.z xs k).puts.length d4, .int .i64 (nth En.z xs k).from_]) HW.out (Nat.le_refl _), setL_fz (i := k * 6) (vs := [.int .i64 (nth En.z xs k).task, .int .i64 (nth En.z xs k).act, .int .i64 (nth En.z xs k).when_, .slice b3 (nth En.z xs k).reads.length d3, .slice b4 (nth En.z xs k).puts.length d4, .int .i64 (nth En.z xs k).from_]) HF.out, setL_blk (i := k * 6) (vs := [.int .i64 (nth En.z xs k).task, .int .i64 (nth En.z xs k).act, .int .i64 (nth En.z xs k).when_, .slice b3 (nth En.z xs k).reads.length d3, .slice b4 (nth En.z xs k).puts.length d4, .int .i64 (nth En.z xs k).from_]) HB.out, so_far (fun j hj => ?_) ?_⟩
        · have O : ∀ o, o < k * 6 → (setL w1 w.heap.size (k * 6) [.int .i64 (nth En.z xs k).task, .int .i64 (nth En.z xs k).act, .int .i64 (nth En.z xs k).when_, .slice b3 (nth En.z xs k).reads.length d3, .slice b4 (nth En.z xs k).puts.length d4, .int .i64 (nth En.z xs k).from_]).cell? ⟨w.heap.size, o, none⟩ = w1.cell? ⟨w.heap.size, o, none⟩ := fun o ho => setL_out _ _ _ _ _ (.inl ho)
          have K : Kept (fun b => w.heap.size + 1 ≤ b) w1 (setL w1 w.heap.size (k * 6) [.int .i64 (nth En.z xs k).task, .int .i64 (nth En.z xs k).act, .int .i64 (nth En.z xs k).when_, .slice b3 (nth En.z xs k).reads.length d3, .slice b4 (nth En.z xs k).puts.length d4, .int .i64 (nth En.z xs k).from_]) := setL_kept hng
          obtain ⟨v3, v4, q0, q1, q2, q3, q4, q5, r3, r4⟩ := HA.out j hj
          rw [← O _ (by omega)] at q0
          rw [← O _ (by omega)] at q1
          rw [← O _ (by omega)] at q2
          rw [← O _ (by omega)] at q3
          rw [← O _ (by omega)] at q4
          rw [← O _ (by omega)] at q5
          exact ⟨v3, v4, q0, q1, q2, q3, q4, q5, r3.kept K, r4.kept K⟩
        · have I := fun j hj => setL_in (w := w1) (g := w.heap.size) (i := k * 6) (vs := [.int .i64 (nth En.z xs k).task, .int .i64 (nth En.z xs k).act, .int .i64 (nth En.z xs k).when_, .slice b3 (nth En.z xs k).reads.length d3, .slice b4 (nth En.z xs k).puts.length d4, .int .i64 (nth En.z xs k).from_]) HB.out (by simp; omega) j hj
          have K : Kept (fun b => w.heap.size + 1 ≤ b) w1 (setL w1 w.heap.size (k * 6) [.int .i64 (nth En.z xs k).task, .int .i64 (nth En.z xs k).act, .int .i64 (nth En.z xs k).when_, .slice b3 (nth En.z xs k).reads.length d3, .slice b4 (nth En.z xs k).puts.length d4, .int .i64 (nth En.z xs k).from_]) := setL_kept hng
          exact ⟨_, _, I 0 (by simp), I 1 (by simp), I 2 (by simp), I 3 (by simp), I 4 (by simp), I 5 (by simp), PusOn.kept HU3.out K, PusOn.kept HU4.out K⟩
      case measure => simp [intOf]; omega
    · have HI : Hid (EnsOn (fun b => w.heap.size ≤ b) wr (.slice (some ⟨w.heap.size, 0, none⟩) xs.length xs.length) xs) := by
        refine ⟨_, _, rfl, by omega, fun i hi => ?_⟩
        obtain ⟨v3, v4, q0, q1, q2, q3, q4, q5, r3, r4⟩ := hall i (by omega)
        refine ⟨_, 0, v3, v4, rfl, Nat.le_refl _, hB.1, ?_⟩
        simp only [Nat.zero_add]
        exact ⟨q0, q1, q2, q3, q4, q5, r3.wide (fun b hb' => by show w.heap.size ≤ b; have : w.heap.size + 1 ≤ b := hb'; omega), r4.wide (fun b hb' => by show w.heap.size ≤ b; have : w.heap.size + 1 ≤ b := hb'; omega)⟩
      clear hc hB hall hsj
      go_wp2_with fail
      go_ret
      exact ⟨_, rfl, HI.out, hb, hfz⟩

end Go.Proofs.YtdgihncobihbgaaGreat

/-
  Copies of systems (by mky.py).
-/
namespace Go.Proofs.YtdgihncobihbgaaGreat
open Go.RowKit
set_option linter.unusedSimpArgs false
set_option linter.unusedVariables false
set_option maxRecDepth 20000
set_option maxHeartbeats 1000000 in
theorem toSys_th (x : Sy) (v0 v1 v3 : Value) (w : World) (h0 : CesAt w v0 x.cells) (h1 : TasAt w v1 x.tasks) (h3 : EnsAt w v3 x.log) (n0 : SmsCe x.cells) (n1 : SmsTa x.tasks) (n3 : SmsEn x.log) :
    Calls Tryz.prog 10 #[.agg #[v0, v1, .int .i64 x.clock, v3]] w fun r w' => ∃ u0 u1 u3, r = .returned (.agg #[u0, u1, .int .i64 x.clock, u3]) ∧ CesOn (fun b => w.heap.size ≤ b) w' u0 x.cells ∧ TasOn (fun b => w.heap.size ≤ b) w' u1 x.tasks ∧ EnsOn (fun b => w.heap.size ≤ b) w' u3 x.log ∧ Below w.heap.size w w' ∧ Fz w w' := by
  obtain ⟨a0, c0, rfl, hm0⟩ := h0.shape
  have H0 := (show Hid (CesAt _ _ _) from h0)
  clear h0
  obtain ⟨a1, c1, rfl, hm1⟩ := h1.shape
  have H1 := (show Hid (TasAt _ _ _) from h1)
  clear h1
  obtain ⟨a3, c3, rfl, hm3⟩ := h3.shape
  have H3 := (show Hid (EnsAt _ _ _) from h3)
  clear h3
  go_enter Tryz.func10, Tryz.ntmps10
  go_wp2_with fail
  refine (toCellS_th _ x.cells _ (by exact CesAt.mono H0.out (by repeat (first | with_reducible exact Below.refl _ _ | (with_reducible refine Below.setCell ?_ ?hs _; case hs => ((try simp); try omega)) | (with_reducible refine Below.alloc ?_ ?hs _; case hs => ((try simp); try omega)) | with_reducible refine Below.drew ?_))) n0).mono ?_
  rintro e w1 ⟨u0, rfl, hu0, hb1, hz1⟩
  obtain ⟨b0, d0, rfl, hmm0⟩ := hu0.shape
  obtain ⟨hc1, hf1⟩ := bcell hb1
  have s1 : w.heap.size + 1 + 1 < w1.heap.size := by have := hb1.size; (try simp at this); omega
  have s1a : w.heap.size < w1.heap.size := by omega
  have s1b : w.heap.size + 1 < w1.heap.size := by omega
  have HB1 : Hid (Below w.heap.size w w1) := below_then (by repeat (first | with_reducible exact Below.refl _ _ | (with_reducible refine Below.setCell ?_ ?hs _; case hs => ((try simp); try omega)) | (with_reducible refine Below.alloc ?_ ?hs _; case hs => ((try simp); try omega)) | with_reducible refine Below.drew ?_)) (by (try simp); try omega) hb1
  have HF1 : Hid (Fz w w1) := Fz.trans (by repeat (first | with_reducible exact Fz.refl _ | with_reducible refine Fz.set ?_ _ _ | with_reducible refine Fz.alloc ?_ _ _ | with_reducible refine Fz.drew ?_)) hz1
  have HU0_1 : Hid (CesOn (fun b => w.heap.size + 3 ≤ b) w1 _ _) := hu0.wide (fun b hb => by simp at hb; show w.heap.size + 3 ≤ b; omega)
  clear hu0 hb1 hz1 H0
  go_wp2_with fail
  refine (toTaskS_th _ x.tasks _ (by exact TasAt.mono H1.out (by repeat (first | with_reducible exact HB1.out | (with_reducible refine Below.setCell ?_ ?hs _; case hs => ((try simp); try omega)) | (with_reducible refine Below.alloc ?_ ?hs _; case hs => ((try simp); try omega)) | with_reducible refine Below.drew ?_))) n1).mono ?_
  rintro e w2 ⟨u1, rfl, hu1, hb2, hz2⟩
  obtain ⟨b1, d1, rfl, hmm1⟩ := hu1.shape
  obtain ⟨hc2, hf2⟩ := bcell hb2
  have s2 : w.heap.size + 1 + 1 < w2.heap.size := by have := hb2.size; (try simp at this); omega
  have s2a : w.heap.size < w2.heap.size := by omega
  have s2b : w.heap.size + 1 < w2.heap.size := by omega
  have HB2 : Hid (Below w.heap.size w w2) := below_then (by repeat (first | with_reducible exact HB1.out | (with_reducible refine Below.setCell ?_ ?hs _; case hs => ((try simp); try omega)) | (with_reducible refine Below.alloc ?_ ?hs _; case hs => ((try simp); try omega)) | with_reducible refine Below.drew ?_)) (by (try simp); try omega) hb2
  have HF2 : Hid (Fz w w2) := Fz.trans (by repeat (first | with_reducible exact HF1.out | with_reducible refine Fz.set ?_ _ _ | with_reducible refine Fz.alloc ?_ _ _ | with_reducible refine Fz.drew ?_)) hz2
  have HU1_2 : Hid (TasOn (fun b => w.heap.size + 3 ≤ b) w2 _ _) := hu1.wide (fun b hb => by simp at hb; show w.heap.size + 3 ≤ b; omega)
  have HU0_2 : Hid (CesOn (fun b => w.heap.size + 3 ≤ b) w2 _ _) := CesOn.kept HU0_1.out (Kept.trans (by repeat (first | with_reducible exact Kept.refl _ _ | (with_reducible refine Kept.trans ?_ (Kept.set _ _ _ _ ?hs); case hs => ((try simp); try omega)))) (Kept.below hb2))
  clear hu1 hb2 hz2 H1 HB1 HF1 HU0_1
  go_wp2_with fail
  refine (toEntryS_th _ x.log _ (by exact EnsAt.mono H3.out (by repeat (first | with_reducible exact HB2.out | (with_reducible refine Below.setCell ?_ ?hs _; case hs => ((try simp); try omega)) | (with_reducible refine Below.alloc ?_ ?hs _; case hs => ((try simp); try omega)) | with_reducible refine Below.drew ?_))) n3).mono ?_
  rintro e w3 ⟨u3, rfl, hu3, hb3, hz3⟩
  obtain ⟨b3, d3, rfl, hmm3⟩ := hu3.shape
  obtain ⟨hc3, hf3⟩ := bcell hb3
  have s3 : w.heap.size + 1 + 1 < w3.heap.size := by have := hb3.size; (try simp at this); omega
  have s3a : w.heap.size < w3.heap.size := by omega
  have s3b : w.heap.size + 1 < w3.heap.size := by omega
  have HB3 : Hid (Below w.heap.size w w3) := below_then (by repeat (first | with_reducible exact HB2.out | (with_reducible refine Below.setCell ?_ ?hs _; case hs => ((try simp); try omega)) | (with_reducible refine Below.alloc ?_ ?hs _; case hs => ((try simp); try omega)) | with_reducible refine Below.drew ?_)) (by (try simp); try omega) hb3
  have HF3 : Hid (Fz w w3) := Fz.trans (by repeat (first | with_reducible exact HF2.out | with_reducible refine Fz.set ?_ _ _ | with_reducible refine Fz.alloc ?_ _ _ | with_reducible refine Fz.drew ?_)) hz3
  have HU3_3 : Hid (EnsOn (fun b => w.heap.size + 3 ≤ b) w3 _ _) := hu3.wide (fun b hb => by simp at hb; show w.heap.size + 3 ≤ b; omega)
  have HU0_3 : Hid (CesOn (fun b => w.heap.size + 3 ≤ b) w3 _ _) := CesOn.kept HU0_2.out (Kept.trans (by repeat (first | with_reducible exact Kept.refl _ _ | (with_reducible refine Kept.trans ?_ (Kept.set _ _ _ _ ?hs); case hs => ((try simp); try omega)))) (Kept.below hb3))
  have HU1_3 : Hid (TasOn (fun b => w.heap.size + 3 ≤ b) w3 _ _) := TasOn.kept HU1_2.out (Kept.trans (by repeat (first | with_reducible exact Kept.refl _ _ | (with_reducible refine Kept.trans ?_ (Kept.set _ _ _ _ ?hs); case hs => ((try simp); try omega)))) (Kept.below hb3))
  clear hu3 hb3 hz3 H3 HB2 HF2 HU0_2 HU1_2
  go_wp2_with fail
  refine bodyPost_ret (v := .agg #[.slice b0 x.cells.length d0, .slice b1 x.tasks.length d1, .int .i64 x.clock, .slice b3 x.log.length d3]) (by simp [results, Tryz.results10, go_sem, hc1, hc2, hc3, s1, s1a, s1b, s2, s2a, s2b, s3, s3a, s3b]) rfl ⟨_, _, _, rfl, ?_, ?_, ?_, ?_, ?_⟩
  · exact CesOn.wide (fun b hb => by show w.heap.size ≤ b; have : w.heap.size + 3 ≤ b := hb; omega) (CesOn.kept HU0_3.out (by repeat (first | with_reducible exact Kept.refl _ _ | (with_reducible refine Kept.trans ?_ (Kept.set _ _ _ _ ?hs); case hs => ((try simp); try omega)))))
  · exact TasOn.wide (fun b hb => by show w.heap.size ≤ b; have : w.heap.size + 3 ≤ b := hb; omega) (TasOn.kept HU1_3.out (by repeat (first | with_reducible exact Kept.refl _ _ | (with_reducible refine Kept.trans ?_ (Kept.set _ _ _ _ ?hs); case hs => ((try simp); try omega)))))
  · exact EnsOn.wide (fun b hb => by show w.heap.size ≤ b; have : w.heap.size + 3 ≤ b := hb; omega) (EnsOn.kept HU3_3.out (by repeat (first | with_reducible exact Kept.refl _ _ | (with_reducible refine Kept.trans ?_ (Kept.set _ _ _ _ ?hs); case hs => ((try simp); try omega)))))
  · exact (by repeat (first | with_reducible exact HB3.out | (with_reducible refine Below.setCell ?_ ?hs _; case hs => ((try simp); try omega)) | (with_reducible refine Below.alloc ?_ ?hs _; case hs => ((try simp); try omega)) | with_reducible refine Below.drew ?_))
  · exact (by repeat (first | with_reducible exact HF3.out | with_reducible refine Fz.set ?_ _ _ | with_reducible refine Fz.alloc ?_ _ _ | with_reducible refine Fz.drew ?_))

end Go.Proofs.YtdgihncobihbgaaGreat
