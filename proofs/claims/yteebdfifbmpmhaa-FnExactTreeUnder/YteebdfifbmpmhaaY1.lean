/-
  Copies of systems (by mky.py).
-/
import Derived.Test.YteebdfifbmpmhaaV1
namespace Go.Proofs.Yteebdfifbmpmhaa
open Go.RowKit
set_option linter.unusedSimpArgs false
set_option linter.unusedVariables false
set_option maxRecDepth 20000
/-- values are laid one behind the other -/
def setL (w : World) (g i : Nat) : List Value → World
  | [] => w
  | v :: vs => setL (w.setCell ⟨g, i, none⟩ v) g (i + 1) vs
theorem setL_out (w : World) (g i o : Nat) (vs : List Value) (h : o < i ∨ i + vs.length ≤ o) : (setL w g i vs).cell? ⟨g, o, none⟩ = w.cell? ⟨g, o, none⟩ := by
  induction vs generalizing w i with
  | nil => rfl
  | cons v vs ih =>
    simp only [List.length_cons] at h
    rw [setL, ih _ _ (by omega), cell_set_other _ _ _ _ _ (by intro e; injection e; omega)]
theorem setL_blk {w : World} {g n i : Nat} {vs : List Value} (h : Blk w g n) : Blk (setL w g i vs) g n := by
  induction vs generalizing w i with
  | nil => exact h
  | cons v vs ih => exact ih (h.set i v)
theorem setL_in {w : World} {g n i : Nat} {vs : List Value} (h : Blk w g n) (hn : i + vs.length ≤ n) (j : Nat) (hj : j < vs.length) : (setL w g i vs).cell? ⟨g, i + j, none⟩ = some vs[j] := by
  induction vs generalizing w i j with
  | nil => simp at hj
  | cons v vs ih =>
    simp only [List.length_cons] at hn hj
    cases j with
    | zero => rw [setL, setL_out _ _ _ _ _ (by omega)]; exact cell_set_same h i (by omega) v
    | succ j =>
      have := ih (i := i + 1) (h.set i v) (by omega) j (by omega)
      rw [show i + (j + 1) = i + 1 + j by omega]
      exact this
theorem setL_below {B : Nat} {w w' : World} {g i : Nat} {vs : List Value} (h : Below B w w') (hg : B ≤ g) : Below B w (setL w' g i vs) := by
  induction vs generalizing w' i with
  | nil => exact h
  | cons v vs ih => exact ih (h.setCell hg v)
theorem setL_kept {S : Nat → Prop} {w : World} {g i : Nat} {vs : List Value} (hg : ¬ S g) : Kept S w (setL w g i vs) := by
  induction vs generalizing w i with
  | nil => exact Kept.refl _ _
  | cons v vs ih => exact (Kept.set w g i v hg).trans ih

/-- nothing was frozen, or let go -/
def Fz (w w' : World) : Prop := ∀ a, w'.frozen? a = w.frozen? a
theorem Fz.refl (w : World) : Fz w w := fun _ => rfl
theorem Fz.trans {w w' w'' : World} (h : Fz w w') (h' : Fz w' w'') : Fz w w'' := fun a => (h' a).trans (h a)
theorem Fz.alloc {w w' : World} (h : Fz w w') (M : Array Value) (t : TypeId) : Fz w (w'.alloc (.cells M t)) := fun a => (Go.RowKit.frozen?_alloc_cells w' M t a).trans (h a)
theorem Fz.set {w w' : World} (h : Fz w w') (p : Addr) (v : Value) : Fz w (w'.setCell p v) := fun a => (World.frozen?_setCell w' p a v).trans (h a)
theorem Fz.drew {w w' : World} (h : Fz w w') : Fz w w'.drew := h
theorem Fz.new {w w' : World} (h : Fz w w') {b : Nat} (hb : w.heap.size ≤ b) (o : Nat) : w'.frozen? ⟨b, o, none⟩ = false := by
  rw [h]; simp [World.frozen?, Array.getElem?_eq_none hb]
theorem setL_fz {w w' : World} {g i : Nat} {vs : List Value} (h : Fz w w') : Fz w (setL w' g i vs) := by
  induction vs generalizing w' i with
  | nil => exact h
  | cons v vs ih => exact ih (h.set _ v)

set_option maxHeartbeats 400000 in
theorem toIntS_th (v : Value) (xs : List Int) (w : World) (h : IntsAt w v xs) (hn : xs.length ≤ 1048576) :
    Calls Try.prog 34 #[v] w fun r w' => ∃ v', r = .returned v' ∧ IntsOn (fun b => w.heap.size ≤ b) w' v' xs ∧ Below w.heap.size w w' ∧ Fz w w' := by
  obtain ⟨a, cap, rfl, hm, hc⟩ := h
  obtain ⟨M, hM, hmk⟩ := make_any (P := Try.prog) 22 3 _ 1 8 Try.underlying22 Try.info_int xs.length (by omega) (by omega)
  go_enter Try.func34, Try.ntmps34
  go_wp2_with fail
  go_loopw [4] (fun q w' => ∃ k : Nat, k ≤ xs.length ∧ q = .int .i64 k ∧ Below w.heap.size w w' ∧ Fz w w' ∧ Blk w' w.heap.size xs.length ∧ (∀ j, j < k → w'.cell? ⟨w.heap.size, j, none⟩ = some (.int .i64 (nth 0 xs j)))) (fun q _ => xs.length - (intOf q).toNat)
  case atStart =>
    have hB := Blk.new w M 3
    rw [hM, Nat.mul_one] at hB
    exact ⟨0, Nat.zero_le _, rfl, (Below.refl _ _).alloc (Nat.le_refl _) _, (Fz.refl _).alloc _ _, hB, fun j hj => absurd hj (Nat.not_lt_zero _)⟩
  clear hmk hM
  case round =>
    obtain ⟨k, hk, rfl, hb, hfz, hB, hall⟩ := hrel
    by_cases hlt : k < xs.length
    · obtain ⟨b, off, rfl, hbw, c0⟩ := hc k hlt
      rw [← hb.cell (p := ⟨b, _, none⟩) hbw] at c0
      obtain ⟨⟨u, f0⟩, f1⟩ := hB.2 k hlt
      have HB : Hid (Blk wr w.heap.size xs.length) := hB
      have HA : Hid (∀ j, j < k → wr.cell? ⟨w.heap.size, j, none⟩ = some (.int .i64 (nth 0 xs j))) := hall
      have HW := (show Hid (Below _ _ _) from hb)
      have HF := (show Hid (Fz _ _) from hfz)
      clear hc hB hall hb hfz
      go_wp2_with fail
      go_roundw
      case rel =>
        refine ⟨k + 1, by omega, by go_num, HW.out.setCell (by simp) _, HF.out.set _ _, HB.out.set _ _, so_far (fun j hj => ?_) ?_⟩
        · rw [cell_set_other _ _ _ _ _ (by intro e; injection e; omega)]; exact HA.out j hj
        · exact cell_set_same HB.out k hlt _
      case measure => simp [intOf]; omega
    · have HI : Hid (IntsOn (fun b => w.heap.size ≤ b) wr (.slice (some ⟨w.heap.size, 0, none⟩) xs.length xs.length) xs) :=
        ⟨_, _, rfl, by omega, fun i hi => ⟨_, 0, rfl, Nat.le_refl _, hB.1, by rw [Nat.zero_add]; exact hall i (by omega)⟩⟩
      clear hc hB hall
      go_wp2_with fail
      go_ret
      exact ⟨_, rfl, HI.out, hb, hfz⟩

def SmsPu (xs : List Pu) : Prop := xs.length ≤ 1048576
def SmsCe (xs : List Ce) : Prop := xs.length ≤ 1048576
def SmTa (x : Ta) : Prop := x.regs.length ≤ 1048576 ∧ x.old.length ≤ 1048576 ∧ x.reads.length ≤ 1048576 ∧ x.puts.length ≤ 1048576
def SmsTa (xs : List Ta) : Prop := xs.length ≤ 1048576 ∧ ∀ j, j < xs.length → SmTa (nth Ta.z xs j)
def SmEn (x : En) : Prop := x.reads.length ≤ 1048576 ∧ x.puts.length ≤ 1048576
def SmsEn (xs : List En) : Prop := xs.length ≤ 1048576 ∧ ∀ j, j < xs.length → SmEn (nth En.z xs j)
set_option maxHeartbeats 400000 in
theorem toPut_th (x : Pu) (w : World) :
    Calls Try.prog 111 #[.agg #[.int .i64 x.c, .int .i64 x.n]] w fun r w' => r = .returned (.agg #[.int .i64 x.c, .int .i64 x.n]) ∧ Below w.heap.size w w' ∧ Fz w w' := by
  go_enter Try.func111, Try.ntmps111
  go_wp2_with fail
  refine bodyPost_ret (v := .agg #[.int .i64 x.c, .int .i64 x.n]) (by simp [results, Try.results111, go_sem]) rfl ⟨rfl, (by repeat (first | exact Below.refl _ _ | refine Below.alloc ?_ (by simp; try omega) _ | refine Below.drew ?_ | refine Below.setCell ?_ (by simp; try omega) _)), (by repeat (first | with_reducible exact Fz.refl _ | with_reducible refine Fz.set ?_ _ _ | with_reducible refine Fz.alloc ?_ _ _ | with_reducible refine Fz.drew ?_))⟩

set_option maxHeartbeats 1000000 in
theorem toPutS_th (v : Value) (xs : List Pu) (w : World) (h : PusAt w v xs) (hsm : SmsPu xs) :
    Calls Try.prog 99 #[v] w fun r w' => ∃ v', r = .returned v' ∧ PusOn (fun b => w.heap.size ≤ b) w' v' xs ∧ Below w.heap.size w w' ∧ Fz w w' := by
  obtain ⟨a, cap, rfl, hm, hc⟩ := h
  have hn : xs.length ≤ 1048576 := hsm
  have info : (Try.prog.info? 141).map (fun i => (i.zero, i.size, i.bytes)) = some (some (.agg #[.int .i64 0, .int .i64 0]), 2, 16) := by kernel_rfl
  obtain ⟨M, hM, hmk⟩ := make_any (P := Try.prog) 59 141 _ 2 16 Try.underlying59 info xs.length (by omega) (by omega)
  clear info
  go_enter Try.func99, Try.ntmps99
  go_wp2_with fail
  go_loopw [4] (fun q w' => ∃ k : Nat, k ≤ xs.length ∧ q = .int .i64 k ∧ Below w.heap.size w w' ∧ Fz w w' ∧ Blk w' w.heap.size (xs.length * 2) ∧ (∀ j, j < k → w'.cell? ⟨w.heap.size, j * 2, none⟩ = some (.int .i64 (nth Pu.z xs j).c) ∧ w'.cell? ⟨w.heap.size, j * 2 + 1, none⟩ = some (.int .i64 (nth Pu.z xs j).n))) (fun q _ => xs.length - (intOf q).toNat)
  case atStart =>
    have hB := Blk.new w M 141
    rw [hM] at hB
    exact ⟨0, Nat.zero_le _, rfl, (Below.refl _ _).alloc (Nat.le_refl _) _, (Fz.refl _).alloc _ _, hB, fun j hj => absurd hj (Nat.not_lt_zero _)⟩
  clear hmk hM
  case round =>
    obtain ⟨k, hk, rfl, hb, hfz, hB, hall⟩ := hrel
    by_cases hlt : k < xs.length
    · obtain ⟨b, off, rfl, hbw, c0, c1⟩ := hc k hlt
      rw [← hb.cell (p := ⟨b, _, none⟩) hbw] at c0 c1
      clear hc
      go_wp2_with fail
      refine (toPut_th (nth Pu.z xs k) _).mono ?_
      rintro e w1 ⟨rfl, hb1, hz1⟩
      have hB1 := hB.below hb1
      have HW : Hid (Below w.heap.size w w1) := hb.trans (hb1.mono hb.size)
      have HF : Hid (Fz w w1) := hfz.trans hz1
      have HA : Hid (∀ j, j < k → w1.cell? ⟨w.heap.size, j * 2, none⟩ = some (.int .i64 (nth Pu.z xs j).c) ∧ w1.cell? ⟨w.heap.size, j * 2 + 1, none⟩ = some (.int .i64 (nth Pu.z xs j).n)) := fun j hj => by
        obtain ⟨q0, q1⟩ := hall j hj
        rw [← hb1.cell (p := ⟨w.heap.size, _, none⟩) hB.1] at q0 q1
        exact ⟨q0, q1⟩
      obtain ⟨⟨x0, y0⟩, z0⟩ := hB1.2 (k * 2) (by omega)
      obtain ⟨⟨x1, y1⟩, z1⟩ := hB1.2 (k * 2 + 1) (by omega)
      have HB : Hid (Blk w1 w.heap.size (xs.length * 2)) := hB1
      clear hB hall hb hb1 hz1 hfz hB1 c0 c1 
      go_wp2_with fail
      go_roundw
      case rel =>
        have hng : ¬ (fun b => w.heap.size + 1 ≤ b) w.heap.size := by show ¬ (w.heap.size + 1 ≤ w.heap.size); omega
        refine ⟨k + 1, by omega, by go_num, setL_below (i := k * 2) (vs := [.int .i64 (nth Pu.z xs k).c, .int .i64 (nth Pu.z xs k).n]) HW.out (Nat.le_refl _), setL_fz (i := k * 2) (vs := [.int .i64 (nth Pu.z xs k).c, .int .i64 (nth Pu.z xs k).n]) HF.out, setL_blk (i := k * 2) (vs := [.int .i64 (nth Pu.z xs k).c, .int .i64 (nth Pu.z xs k).n]) HB.out, so_far (fun j hj => ?_) ?_⟩
        · have O : ∀ o, o < k * 2 → (setL w1 w.heap.size (k * 2) [.int .i64 (nth Pu.z xs k).c, .int .i64 (nth Pu.z xs k).n]).cell? ⟨w.heap.size, o, none⟩ = w1.cell? ⟨w.heap.size, o, none⟩ := fun o ho => setL_out _ _ _ _ _ (.inl ho)
          have K : Kept (fun b => w.heap.size + 1 ≤ b) w1 (setL w1 w.heap.size (k * 2) [.int .i64 (nth Pu.z xs k).c, .int .i64 (nth Pu.z xs k).n]) := setL_kept hng
          obtain ⟨q0, q1⟩ := HA.out j hj
          rw [← O _ (by omega)] at q0
          rw [← O _ (by omega)] at q1
          exact ⟨q0, q1⟩
        · have I := fun j hj => setL_in (w := w1) (g := w.heap.size) (i := k * 2) (vs := [.int .i64 (nth Pu.z xs k).c, .int .i64 (nth Pu.z xs k).n]) HB.out (by simp; omega) j hj
          exact ⟨I 0 (by simp), I 1 (by simp)⟩
      case measure => simp [intOf]; omega
    · have HI : Hid (PusOn (fun b => w.heap.size ≤ b) wr (.slice (some ⟨w.heap.size, 0, none⟩) xs.length xs.length) xs) := by
        refine ⟨_, _, rfl, by omega, fun i hi => ?_⟩
        obtain ⟨q0, q1⟩ := hall i (by omega)
        refine ⟨_, 0, rfl, Nat.le_refl _, hB.1, ?_⟩
        simp only [Nat.zero_add]
        exact ⟨q0, q1⟩
      clear hc hB hall
      go_wp2_with fail
      go_ret
      exact ⟨_, rfl, HI.out, hb, hfz⟩

set_option maxHeartbeats 400000 in
theorem toCell_th (x : Ce) (w : World) :
    Calls Try.prog 82 #[.agg #[.int .i64 x.num, .int .i64 x.time, .int .i64 x.lock]] w fun r w' => r = .returned (.agg #[.int .i64 x.num, .int .i64 x.time, .int .i64 x.lock]) ∧ Below w.heap.size w w' ∧ Fz w w' := by
  go_enter Try.func82, Try.ntmps82
  go_wp2_with fail
  refine bodyPost_ret (v := .agg #[.int .i64 x.num, .int .i64 x.time, .int .i64 x.lock]) (by simp [results, Try.results82, go_sem]) rfl ⟨rfl, (by repeat (first | exact Below.refl _ _ | refine Below.alloc ?_ (by simp; try omega) _ | refine Below.drew ?_ | refine Below.setCell ?_ (by simp; try omega) _)), (by repeat (first | with_reducible exact Fz.refl _ | with_reducible refine Fz.set ?_ _ _ | with_reducible refine Fz.alloc ?_ _ _ | with_reducible refine Fz.drew ?_))⟩

set_option maxHeartbeats 1000000 in
theorem toCellS_th (v : Value) (xs : List Ce) (w : World) (h : CesAt w v xs) (hsm : SmsCe xs) :
    Calls Try.prog 53 #[v] w fun r w' => ∃ v', r = .returned v' ∧ CesOn (fun b => w.heap.size ≤ b) w' v' xs ∧ Below w.heap.size w w' ∧ Fz w w' := by
  obtain ⟨a, cap, rfl, hm, hc⟩ := h
  have hn : xs.length ≤ 1048576 := hsm
  have info : (Try.prog.info? 64).map (fun i => (i.zero, i.size, i.bytes)) = some (some (.agg #[.int .i64 0, .int .i64 0, .int .i64 0]), 3, 24) := by kernel_rfl
  obtain ⟨M, hM, hmk⟩ := make_any (P := Try.prog) 27 64 _ 3 24 Try.underlying27 info xs.length (by omega) (by omega)
  clear info
  go_enter Try.func53, Try.ntmps53
  go_wp2_with fail
  go_loopw [4] (fun q w' => ∃ k : Nat, k ≤ xs.length ∧ q = .int .i64 k ∧ Below w.heap.size w w' ∧ Fz w w' ∧ Blk w' w.heap.size (xs.length * 3) ∧ (∀ j, j < k → w'.cell? ⟨w.heap.size, j * 3, none⟩ = some (.int .i64 (nth Ce.z xs j).num) ∧ w'.cell? ⟨w.heap.size, j * 3 + 1, none⟩ = some (.int .i64 (nth Ce.z xs j).time) ∧ w'.cell? ⟨w.heap.size, j * 3 + 2, none⟩ = some (.int .i64 (nth Ce.z xs j).lock))) (fun q _ => xs.length - (intOf q).toNat)
  case atStart =>
    have hB := Blk.new w M 64
    rw [hM] at hB
    exact ⟨0, Nat.zero_le _, rfl, (Below.refl _ _).alloc (Nat.le_refl _) _, (Fz.refl _).alloc _ _, hB, fun j hj => absurd hj (Nat.not_lt_zero _)⟩
  clear hmk hM
  case round =>
    obtain ⟨k, hk, rfl, hb, hfz, hB, hall⟩ := hrel
    by_cases hlt : k < xs.length
    · obtain ⟨b, off, rfl, hbw, c0, c1, c2⟩ := hc k hlt
      rw [← hb.cell (p := ⟨b, _, none⟩) hbw] at c0 c1 c2
      clear hc
      go_wp2_with fail
      refine (toCell_th (nth Ce.z xs k) _).mono ?_
      rintro e w1 ⟨rfl, hb1, hz1⟩
      have hB1 := hB.below hb1
      have HW : Hid (Below w.heap.size w w1) := hb.trans (hb1.mono hb.size)
      have HF : Hid (Fz w w1) := hfz.trans hz1
      have HA : Hid (∀ j, j < k → w1.cell? ⟨w.heap.size, j * 3, none⟩ = some (.int .i64 (nth Ce.z xs j).num) ∧ w1.cell? ⟨w.heap.size, j * 3 + 1, none⟩ = some (.int .i64 (nth Ce.z xs j).time) ∧ w1.cell? ⟨w.heap.size, j * 3 + 2, none⟩ = some (.int .i64 (nth Ce.z xs j).lock)) := fun j hj => by
        obtain ⟨q0, q1, q2⟩ := hall j hj
        rw [← hb1.cell (p := ⟨w.heap.size, _, none⟩) hB.1] at q0 q1 q2
        exact ⟨q0, q1, q2⟩
      obtain ⟨⟨x0, y0⟩, z0⟩ := hB1.2 (k * 3) (by omega)
      obtain ⟨⟨x1, y1⟩, z1⟩ := hB1.2 (k * 3 + 1) (by omega)
      obtain ⟨⟨x2, y2⟩, z2⟩ := hB1.2 (k * 3 + 2) (by omega)
      have HB : Hid (Blk w1 w.heap.size (xs.length * 3)) := hB1
      clear hB hall hb hb1 hz1 hfz hB1 c0 c1 c2 
      go_wp2_with fail
      go_roundw
      case rel =>
        have hng : ¬ (fun b => w.heap.size + 1 ≤ b) w.heap.size := by show ¬ (w.heap.size + 1 ≤ w.heap.size); omega
        refine ⟨k + 1, by omega, by go_num, setL_below (i := k * 3) (vs := [.int .i64 (nth Ce.z xs k).num, .int .i64 (nth Ce.z xs k).time, .int .i64 (nth Ce.z xs k).lock]) HW.out (Nat.le_refl _), setL_fz (i := k * 3) (vs := [.int .i64 (nth Ce.z xs k).num, .int .i64 (nth Ce.z xs k).time, .int .i64 (nth Ce.z xs k).lock]) HF.out, setL_blk (i := k * 3) (vs := [.int .i64 (nth Ce.z xs k).num, .int .i64 (nth Ce.z xs k).time, .int .i64 (nth Ce.z xs k).lock]) HB.out, so_far (fun j hj => ?_) ?_⟩
        · have O : ∀ o, o < k * 3 → (setL w1 w.heap.size (k * 3) [.int .i64 (nth Ce.z xs k).num, .int .i64 (nth Ce.z xs k).time, .int .i64 (nth Ce.z xs k).lock]).cell? ⟨w.heap.size, o, none⟩ = w1.cell? ⟨w.heap.size, o, none⟩ := fun o ho => setL_out _ _ _ _ _ (.inl ho)
          have K : Kept (fun b => w.heap.size + 1 ≤ b) w1 (setL w1 w.heap.size (k * 3) [.int .i64 (nth Ce.z xs k).num, .int .i64 (nth Ce.z xs k).time, .int .i64 (nth Ce.z xs k).lock]) := setL_kept hng
          obtain ⟨q0, q1, q2⟩ := HA.out j hj
          rw [← O _ (by omega)] at q0
          rw [← O _ (by omega)] at q1
          rw [← O _ (by omega)] at q2
          exact ⟨q0, q1, q2⟩
        · have I := fun j hj => setL_in (w := w1) (g := w.heap.size) (i := k * 3) (vs := [.int .i64 (nth Ce.z xs k).num, .int .i64 (nth Ce.z xs k).time, .int .i64 (nth Ce.z xs k).lock]) HB.out (by simp; omega) j hj
          exact ⟨I 0 (by simp), I 1 (by simp), I 2 (by simp)⟩
      case measure => simp [intOf]; omega
    · have HI : Hid (CesOn (fun b => w.heap.size ≤ b) wr (.slice (some ⟨w.heap.size, 0, none⟩) xs.length xs.length) xs) := by
        refine ⟨_, _, rfl, by omega, fun i hi => ?_⟩
        obtain ⟨q0, q1, q2⟩ := hall i (by omega)
        refine ⟨_, 0, rfl, Nat.le_refl _, hB.1, ?_⟩
        simp only [Nat.zero_add]
        exact ⟨q0, q1, q2⟩
      clear hc hB hall
      go_wp2_with fail
      go_ret
      exact ⟨_, rfl, HI.out, hb, hfz⟩

end Go.Proofs.Yteebdfifbmpmhaa
