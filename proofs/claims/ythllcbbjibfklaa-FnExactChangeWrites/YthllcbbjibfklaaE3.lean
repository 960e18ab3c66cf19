/-
  Own memory is marked, and looked at.
-/
import Derived.Test.YthllcbbjibfklaaX5
import Derived.Test.YthllcbbjibfklaaC2
namespace Go.Proofs.Ythllcbbjibfklaa
open Go.RowKit
set_option linter.unusedSimpArgs false
set_option linter.unusedVariables false

def marks (k : Int) (n : Nat) : List Int := (List.range n).map fun i : Nat => k + (i : Int)
theorem marks_len (k : Int) (n : Nat) : (marks k n).length = n := by simp [marks]
theorem marks_nth (k : Int) (n i : Nat) (h : i < n) : nth 0 (marks k n) i = k + i := by
  rw [nth_eq 0 _ i (by rw [marks_len]; exact h)]; simp [marks]
/-- a block is of one type still, and as great -/
def SameRow (g : Nat) (w w' : World) : Prop := ∀ cur t, w.heap[g]? = some (Obj.cells cur t (0, 0)) → ∃ cur', w'.heap[g]? = some (Obj.cells cur' t (0, 0)) ∧ cur'.size = cur.size
theorem SameRow.refl (g : Nat) (w : World) : SameRow g w w := fun cur t h => ⟨cur, h, rfl⟩
theorem SameRow.set {g : Nat} {w w' : World} (h : SameRow g w w') (i : Nat) (u : Value) : SameRow g w (w'.setCell ⟨g, i, none⟩ u) := fun cur t hc => by
  obtain ⟨cur', h1, h2⟩ := h cur t hc
  exact ⟨_, heap_setCell_same w' g i cur' t u h1, by simpa using h2⟩

set_option maxHeartbeats 400000 in
theorem markIntS_at (g n cap : Nat) (k : Int) (w : World) (hB : Blk w g n) (hk0 : 0 ≤ k) (hk : k + n ≤ 4611686018427387904) :
    Calls Try.prog 27 #[.slice (some ⟨g, 0, none⟩) n cap, .int .i64 k] w fun e w' => e = .returned (.int .i64 (k + n)) ∧ (∀ j : Nat, j < n → w'.cell? ⟨g, j, none⟩ = some (.int .i64 (k + j))) ∧ FrS (fun b => b = g) w w' ∧ SameRow g w w' := by
  go_enter Try.func27, Try.ntmps27
  go_wp2_with fail
  go_loopw [1, 5] (fun t i w' => ∃ j : Nat, j ≤ n ∧ i = .int .i64 j ∧ t = .int .i64 (k + j) ∧ Blk w' g n ∧ (∀ i : Nat, i < j → w'.cell? ⟨g, i, none⟩ = some (.int .i64 (k + i))) ∧ FrS (fun b => b = g) w w' ∧ SameRow g w w') (fun _ i _ => n - (intOf i).toNat)
  case atStart => exact ⟨0, Nat.zero_le _, rfl, by simp, hB, fun j hj => absurd hj (Nat.not_lt_zero _), FrS.refl _ _, SameRow.refl _ _⟩
  case round =>
    obtain ⟨j, hj, rfl, rfl, hb, hall, hf, hs⟩ := hrel
    by_cases hlt : j < n
    · obtain ⟨⟨u, f0⟩, f1⟩ := hb.2 j hlt
      have HB := (show Hid (Blk _ _ _) from hb)
      have HA := (show Hid (∀ i : Nat, i < j → _) from hall)
      have HF := (show Hid (FrS _ _ _) from hf)
      have HS := (show Hid (SameRow _ _ _) from hs)
      clear hb hall hf hs hB
      go_wp2_with fail
      go_roundw
      case rel =>
        refine ⟨j + 1, by omega, by go_num, by go_num, HB.out.set _ _, so_far (fun i hi => ?_) ?_, HF.out.setCell rfl _, HS.out.set _ _⟩
        · rw [cell_set_other _ _ _ _ _ (by intro e; injection e; omega)]; exact HA.out i hi
        · exact cell_set_same HB.out j hlt _
      case measure => simp [intOf]; omega
    · have he : j = n := by omega
      subst he
      have HF := (show Hid (FrS _ _ _) from hf)
      have HS := (show Hid (SameRow _ _ _) from hs)
      have HA := (show Hid (∀ i : Nat, i < j → _) from hall)
      clear hb hall hf hs hB
      go_wp2_with fail
      go_ret
      exact ⟨rfl, HA.out, HF.out, HS.out⟩
set_option maxHeartbeats 400000 in
theorem markIntS_nil (a : Option Addr) (cap : Nat) (k : Int) (w : World) :
    Calls Try.prog 27 #[.slice a 0 cap, .int .i64 k] w fun e w' => e = .returned (.int .i64 k) ∧ w' = w := by
  go_enter Try.func27, Try.ntmps27
  go_wp2_with fail
  go_loop [1, 5] (fun t i => i = .int .i64 0 ∧ t = .int .i64 k) (fun _ _ => 0)
  case atStart => exact ⟨rfl, rfl⟩
  case round =>
    obtain ⟨rfl, rfl⟩ := hrel
    go_wp2_with fail
    go_ret
    exact ⟨rfl, rfl⟩
theorem markOwn (B : Nat) (v : Value) (xs : List Int) (k : Int) (w : World) (h : OwnInt B w v xs) (hk0 : 0 ≤ k) (hk : k + xs.length ≤ 4611686018427387904) :
    Calls Try.prog 27 #[v, .int .i64 k] w fun e w' => e = .returned (.int .i64 (k + xs.length)) ∧ OwnInt B w' v (marks k xs.length) ∧ FrS (fun b => v.ownBlock = some b) w w' := by
  rcases h.2 with ⟨rfl, h0⟩ | ⟨g, cap, cur, rfl, hb, hg, h1, h2, h3, h4⟩
  · refine (markIntS_nil _ _ k w).mono ?_
    rintro e w' ⟨rfl, rfl⟩
    rw [h0]
    exact ⟨by simp, World.ownsRow_nil _ _ _ _, FrS.refl _ _⟩
  · have hB : Blk w g xs.length := ⟨(Array.getElem?_eq_some_iff.1 hg).1, fun j hj => by
      obtain ⟨g', c', e, _, _, _, _, hc⟩ := OwnInt.get h j hj
      injection e with e1
      injection e1 with e2
      injection e2 with e3
      subst e3
      exact ⟨⟨_, (hc j hj).1⟩, (hc j hj).2⟩⟩
    refine (markIntS_at g xs.length cap k w hB hk0 hk).mono ?_
    rintro e w' ⟨rfl, hc, hf, hs⟩
    obtain ⟨cur', hg', hsz⟩ := hs cur _ hg
    refine ⟨rfl, ⟨by simp [marks], .inr ⟨g, cap, cur', by rw [marks_len], hb, hg', by rw [marks_len]; exact h1, h2, by rw [hsz]; exact h3, ?_⟩⟩, ?_⟩
    · apply List.ext_getElem?
      intro i
      rw [List.getElem?_take]
      by_cases hi : i < xs.length
      · have := hc i hi
        rw [cell_of_row w' g i cur' _ (0, 0) hg'] at this
        rw [if_pos (by rw [marks_len]; omega)]
        simp only [Array.getElem?_toList]
        rw [this]
        simp [marks, hi]
      · rw [if_neg (by rw [marks_len]; omega), List.getElem?_eq_none (by simp [marks]; omega)]
    · exact ⟨hf.os, hf.tape, hf.output, hf.size, fun b hb' hS => hf.block b hb' (fun e => hS (by rw [e]; rfl))⟩

set_option maxHeartbeats 400000 in
theorem heldIntS_any (v : Value) (k : Int) (n : Nat) (w : World) (h : IntsAt w v (marks k n)) (hk0 : 0 ≤ k) (hk : k + n ≤ 4611686018427387904) :
    Calls Try.prog 28 #[v, .int .i64 k] w fun e w' => e = .returned (.int .i64 (k + n)) ∧ w' = w := by
  obtain ⟨a, cap, rfl, hm, hc⟩ := h
  rw [marks_len] at hm hc ⊢
  go_enter Try.func28, Try.ntmps28
  go_wp2_with fail
  go_loop [1, 5] (fun t i => ∃ j : Nat, j ≤ n ∧ i = .int .i64 j ∧ t = .int .i64 (k + j)) (fun _ i => n - (intOf i).toNat)
  case atStart => exact ⟨0, Nat.zero_le _, rfl, by simp⟩
  case round =>
    obtain ⟨j, hj, rfl, rfl⟩ := hrel
    by_cases hlt : j < n
    · obtain ⟨b, off, rfl, hbw, c0⟩ := hc j hlt
      rw [marks_nth k n j hlt] at c0
      clear hc
      go_wp2_with fail
      go_round
      case rel => exact ⟨j + 1, by omega, by go_num, by go_num⟩
      case measure => simp [intOf]; omega
    · have he : j = n := by omega
      subst he
      clear hc
      go_wp2_with fail
      go_ret
      exact ⟨rfl, rfl⟩

set_option maxHeartbeats 1000000 in
theorem markDeedS_at (g n cap : Nat) (k : Int) (w : World) (hB : Blk w g (n * 3)) (hk0 : 0 ≤ k) (hk : k + 3 * n ≤ 4611686018427387904) :
    Calls Try.prog 26 #[.slice (some ⟨g, 0, none⟩) n cap, .int .i64 k] w fun e w' => e = .returned (.int .i64 (k + 3 * n)) ∧ FrS (fun b => b = g) w w' := by
  go_enter Try.func26, Try.ntmps26
  go_wp2_with fail
  go_loopw [1, 5] (fun t i w' => ∃ j : Nat, j ≤ n ∧ i = .int .i64 j ∧ t = .int .i64 (k + 3 * j) ∧ Blk w' g (n * 3) ∧ FrS (fun b => b = g) w w') (fun _ i _ => n - (intOf i).toNat)
  case atStart => exact ⟨0, Nat.zero_le _, rfl, by simp, hB, FrS.refl _ _⟩
  case round =>
    obtain ⟨j, hj, rfl, rfl, hb, hf⟩ := hrel
    by_cases hlt : j < n
    · obtain ⟨⟨u0, f0⟩, g0⟩ := hb.2 (j * 3) (by omega)
      obtain ⟨⟨u1, f1⟩, g1⟩ := hb.2 (j * 3 + 1) (by omega)
      obtain ⟨⟨u2, f2⟩, g2⟩ := hb.2 (j * 3 + 2) (by omega)
      have HB := (show Hid (Blk _ _ _) from hb)
      have HF := (show Hid (FrS _ _ _) from hf)
      clear hb hf hB
      go_wp2_with fail
      go_roundw
      case rel => exact ⟨j + 1, by omega, by go_num, by congr 1; omega, ((HB.out.set _ _).set _ _).set _ _, ((HF.out.setCell rfl _).setCell rfl _).setCell rfl _⟩
      case measure => simp [intOf]; omega
    · have he : j = n := by omega
      subst he
      have HF := (show Hid (FrS _ _ _) from hf)
      clear hb hf hB
      go_wp2_with fail
      go_ret
      exact ⟨rfl, HF.out⟩

/-! ### copies whose blocks are known -/
set_option maxHeartbeats 400000 in
theorem toDeedS_blk (v : Value) (xs : List De) (w : World) (h : DeedsAt w v xs) (hn : xs.length ≤ 1048576) :
    Calls Try.prog 23 #[v] w fun r w' => r = .returned (.slice (some ⟨w.heap.size, 0, none⟩) xs.length xs.length) ∧ DeedsAt w' (.slice (some ⟨w.heap.size, 0, none⟩) xs.length xs.length) xs ∧ Blk w' w.heap.size (xs.length * 3) ∧ Below w.heap.size w w' := by
  obtain ⟨a, cap, rfl, hm, hc⟩ := h
  obtain ⟨M, hM, hmk⟩ := make_any (P := Try.prog) 24 35 _ 3 24 Try.underlying24 Try.info_deed xs.length (by omega) (by omega)
  go_enter Try.func23, Try.ntmps23
  go_wp2_with fail
  go_loopw [4] (fun q w' => ∃ k : Nat, k ≤ xs.length ∧ q = .int .i64 k ∧ Below w.heap.size w w' ∧ Blk w' w.heap.size (xs.length * 3) ∧ (∀ j, j < k → w'.cell? ⟨w.heap.size, j * 3, none⟩ = some (.int .i64 (nth De.z xs j).k) ∧ w'.cell? ⟨w.heap.size, j * 3 + 1, none⟩ = some (.int .i64 (nth De.z xs j).a) ∧ w'.cell? ⟨w.heap.size, j * 3 + 2, none⟩ = some (.int .i64 (nth De.z xs j).b))) (fun q _ => xs.length - (intOf q).toNat)
  case atStart =>
    have hB := Blk.new w M 35
    rw [hM] at hB
    exact ⟨0, Nat.zero_le _, rfl, (Below.refl _ _).alloc (Nat.le_refl _) _, hB, fun j hj => absurd hj (Nat.not_lt_zero _)⟩
  clear hmk hM
  case round =>
    obtain ⟨k, hk, rfl, hb, hB, hall⟩ := hrel
    by_cases hlt : k < xs.length
    · obtain ⟨b, off, rfl, hbw, c0, c1, c2⟩ := hc k hlt
      rw [← hb.cell (p := ⟨b, _, none⟩) hbw] at c0 c1 c2
      clear hc
      go_wp2_with fail
      refine (toDeed_any (nth De.z xs k) _).mono ?_
      rintro e w1 ⟨rfl, hb1⟩
      have hB1 := hB.below hb1
      have HW : Hid (Below w.heap.size w w1) := hb.trans (hb1.mono hb.size)
      have HA : Hid (∀ j, j < k → w1.cell? ⟨w.heap.size, j * 3, none⟩ = some (.int .i64 (nth De.z xs j).k) ∧ w1.cell? ⟨w.heap.size, j * 3 + 1, none⟩ = some (.int .i64 (nth De.z xs j).a) ∧ w1.cell? ⟨w.heap.size, j * 3 + 2, none⟩ = some (.int .i64 (nth De.z xs j).b)) := fun j hj => by
        rw [hb1.cell (p := ⟨w.heap.size, _, none⟩) hB.1, hb1.cell (p := ⟨w.heap.size, _, none⟩) hB.1, hb1.cell (p := ⟨w.heap.size, _, none⟩) hB.1]; exact hall j hj
      obtain ⟨⟨u0, f0⟩, g0⟩ := hB1.2 (k * 3) (by omega)
      obtain ⟨⟨u1, f1⟩, g1⟩ := hB1.2 (k * 3 + 1) (by omega)
      obtain ⟨⟨u2, f2⟩, g2⟩ := hB1.2 (k * 3 + 2) (by omega)
      have HB : Hid (Blk w1 w.heap.size (xs.length * 3)) := hB1
      clear hB hall hb hb1 hB1 c0 c1 c2
      go_wp2_with fail
      go_roundw
      case rel =>
        refine ⟨k + 1, by omega, by go_num, ((HW.out.setCell (by simp) _).setCell (by simp) _).setCell (by simp) _, ((HB.out.set _ _).set _ _).set _ _, so_far (fun j hj => ?_) ?_⟩
        · rw [set3_out _ _ _ _ _ _ _ (by omega), set3_out _ _ _ _ _ _ _ (by omega), set3_out _ _ _ _ _ _ _ (by omega)]; exact HA.out j hj
        · exact set3_in HB.out (k * 3) (by omega) _ _ _
      case measure => simp [intOf]; omega
    · have HBK := (show Hid (Blk _ _ _) from hB)
      have HI : Hid (DeedsAt wr (.slice (some ⟨w.heap.size, 0, none⟩) xs.length xs.length) xs) :=
        ⟨_, _, rfl, by omega, fun i hi => ⟨_, 0, rfl, hB.1, by rw [Nat.zero_add]; exact hall i (by omega)⟩⟩
      clear hc hB hall
      go_wp2_with fail
      go_ret
      exact ⟨rfl, HI.out, HBK.out, hb⟩

theorem OwnInt.frS {S : Nat → Prop} {B : Nat} {w w' : World} {v : Value} {xs : List Int} (h : OwnInt B w v xs) (hf : FrS S w w') (hS : ∀ g, v.ownBlock = some g → ¬ S g) : OwnInt B w' v xs :=
  own_heap h fun g hg => hf.block g (h.lt g hg).2 (hS g hg)
theorem Blk.frS {S : Nat → Prop} {w w' : World} {g n : Nat} (h : Blk w g n) (hf : FrS S w w') (hS : ¬ S g) : Blk w' g n :=
  ⟨Nat.lt_of_lt_of_le h.1 hf.size, fun j hj => ⟨by rw [hf.cell h.1 hS]; exact (h.2 j hj).1, by rw [World.frozen?_of_block (w := w) (hf.block g h.1 hS)]; exact (h.2 j hj).2⟩⟩

end Go.Proofs.Ythllcbbjibfklaa
