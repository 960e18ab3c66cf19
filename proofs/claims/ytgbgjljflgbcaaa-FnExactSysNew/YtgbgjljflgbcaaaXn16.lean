import Derived.Test.YtgbgjljflgbcaaaXn15
import Derived.Test.YtgbgjljflgbcaaaXn14
namespace Go.Proofs.Ytgbgjljflgbcaaa
open Go.RowKit
set_option linter.unusedSimpArgs false
set_option linter.unusedVariables false
def acts (p : Pr) (t : Ta) : List Ac := nth [] p.bodies t.body.toNat
end Go.Proofs.Ytgbgjljflgbcaaa

namespace Go.Proofs.Ytgbgjljflgbcaaa
open Go.RowKit
set_option linter.unusedSimpArgs false
set_option linter.unusedVariables false
set_option maxRecDepth 20000
def setL (w : World) (g i : Nat) : List Value → World
  | [] => w
  | v :: vs => setL (w.setCell ⟨g, i, none⟩ v) g (i + 1) vs
theorem setL_out (w : World) (g i o : Nat) (vs : List Value) (h : o < i ∨ i + vs.length ≤ o) : (setL w g i vs).cell? ⟨g, o, none⟩ = w.cell? ⟨g, o, none⟩ := by
  induction vs generalizing w i with
  | nil => rfl
  | cons v vs ih =>
    simp only [List.length_cons] at h
    rw [setL, ih _ _ (by omega), cell_set_other _ _ _ _ _ (by intro e; injection e; omega)]
theorem setL_blk {w : World} {g n i : Nat} {vs : List Value} (h : Blk w g n) : Blk (setL w g i vs) g n := by
  induction vs generalizing w i with
  | nil => exact h
  | cons v vs ih => exact ih (h.set i v)
theorem setL_in {w : World} {g n i : Nat} {vs : List Value} (h : Blk w g n) (hn : i + vs.length ≤ n) (j : Nat) (hj : j < vs.length) : (setL w g i vs).cell? ⟨g, i + j, none⟩ = some vs[j] := by
  induction vs generalizing w i j with
  | nil => simp at hj
  | cons v vs ih =>
    simp only [List.length_cons] at hn hj
    cases j with
    | zero => rw [setL, setL_out _ _ _ _ _ (by omega)]; exact cell_set_same h i (by omega) v
    | succ j =>
      have := ih (i := i + 1) (h.set i v) (by omega) j (by omega)
      rw [show i + (j + 1) = i + 1 + j by omega]
      exact this
theorem setL_below {B : Nat} {w w' : World} {g i : Nat} {vs : List Value} (h : Below B w w') (hg : B ≤ g) : Below B w (setL w' g i vs) := by
  induction vs generalizing w' i with
  | nil => exact h
  | cons v vs ih => exact ih (h.setCell hg v)
theorem setL_kept {S : Nat → Prop} {w : World} {g i : Nat} {vs : List Value} (hg : ¬ S g) : Kept S w (setL w g i vs) := by
  induction vs generalizing w i with
  | nil => exact Kept.refl _ _
  | cons v vs ih => exact (Kept.set w g i v hg).trans ih
def Fz (w w' : World) : Prop := ∀ a, w'.frozen? a = w.frozen? a
theorem Fz.refl (w : World) : Fz w w := fun _ => rfl
theorem Fz.trans {w w' w'' : World} (h : Fz w w') (h' : Fz w' w'') : Fz w w'' := fun a => (h' a).trans (h a)
theorem Fz.alloc {w w' : World} (h : Fz w w') (M : Array Value) (t : TypeId) : Fz w (w'.alloc (.cells M t)) := fun a => (Go.RowKit.frozen?_alloc_cells w' M t a).trans (h a)
theorem Fz.set {w w' : World} (h : Fz w w') (p : Addr) (v : Value) : Fz w (w'.setCell p v) := fun a => (World.frozen?_setCell w' p a v).trans (h a)
theorem Fz.drew {w w' : World} (h : Fz w w') : Fz w w'.drew := h
theorem Fz.new {w w' : World} (h : Fz w w') {b : Nat} (hb : w.heap.size ≤ b) (o : Nat) : w'.frozen? ⟨b, o, none⟩ = false := by
  rw [h]; simp [World.frozen?, Array.getElem?_eq_none hb]
theorem setL_fz {w w' : World} {g i : Nat} {vs : List Value} (h : Fz w w') : Fz w (setL w' g i vs) := by
  induction vs generalizing w' i with
  | nil => exact h
  | cons v vs ih => exact ih (h.set _ v)
set_option maxHeartbeats 400000 in
theorem toIntS_th (v : Value) (xs : List Int) (w : World) (h : IntsAt w v xs) (hn : xs.length ≤ 1048576) :
    Calls Try.prog 65 #[v] w fun r w' => ∃ v', r = .returned v' ∧ IntsOn (fun b => w.heap.size ≤ b) w' v' xs ∧ Below w.heap.size w w' ∧ Fz w w' := by
  obtain ⟨a, cap, rfl, hm, hc⟩ := h
  obtain ⟨M, hM, hmk⟩ := make_any (P := Try.prog) 23 3 _ 1 8 Try.underlying23 Try.info_int xs.length (by omega) (by omega)
  go_enter Try.func65, Try.ntmps65
  go_wp2_with fail
  go_loopw [4] (fun q w' => ∃ k : Nat, k ≤ xs.length ∧ q = .int .i64 k ∧ Below w.heap.size w w' ∧ Fz w w' ∧ Blk w' w.heap.size xs.length ∧ (∀ j, j < k → w'.cell? ⟨w.heap.size, j, none⟩ = some (.int .i64 (nth 0 xs j)))) (fun q _ => xs.length - (intOf q).toNat)
  case atStart =>
    have hB := Blk.new w M 3
    rw [hM, Nat.mul_one] at hB
    exact ⟨0, Nat.zero_le _, rfl, (Below.refl _ _).alloc (Nat.le_refl _) _, (Fz.refl _).alloc _ _, hB, fun j hj => absurd hj (Nat.not_lt_zero _)⟩
  clear hmk hM
  case round =>
    obtain ⟨k, hk, rfl, hb, hfz, hB, hall⟩ := hrel
    by_cases hlt : k < xs.length
    · obtain ⟨b, off, rfl, hbw, c0⟩ := hc k hlt
      rw [← hb.cell (p := ⟨b, _, none⟩) hbw] at c0
      obtain ⟨⟨u, f0⟩, f1⟩ := hB.2 k hlt
      have HB : Hid (Blk wr w.heap.size xs.length) := hB
      have HA : Hid (∀ j, j < k → wr.cell? ⟨w.heap.size, j, none⟩ = some (.int .i64 (nth 0 xs j))) := hall
      have HW := (show Hid (Below _ _ _) from hb)
      have HF := (show Hid (Fz _ _) from hfz)
      clear hc hB hall hb hfz
      go_wp2_with fail
      go_roundw
      case rel =>
        refine ⟨k + 1, by omega, by go_num, HW.out.setCell (by simp) _, HF.out.set _ _, HB.out.set _ _, so_far (fun j hj => ?_) ?_⟩
        · rw [cell_set_other _ _ _ _ _ (by intro e; injection e; omega)]; exact HA.out j hj
        · exact cell_set_same HB.out k hlt _
      case measure => simp [intOf]; omega
    · have HI : Hid (IntsOn (fun b => w.heap.size ≤ b) wr (.slice (some ⟨w.heap.size, 0, none⟩) xs.length xs.length) xs) :=
        ⟨_, _, rfl, by omega, fun i hi => ⟨_, 0, rfl, Nat.le_refl _, hB.1, by rw [Nat.zero_add]; exact hall i (by omega)⟩⟩
      clear hc hB hall
      go_wp2_with fail
      go_ret
      exact ⟨_, rfl, HI.out, hb, hfz⟩
end Go.Proofs.Ytgbgjljflgbcaaa

namespace Go.Proofs.Ytgbgjljflgbcaaa
open Go.RowKit
def PrAt (w : World) (cv bv : Value) (p : Pr) : Prop := IntsAt w cv p.cells ∧ BodiesAt w bv p.bodies
theorem PrAt.mono {w w' : World} {cv bv : Value} {p : Pr} (h : PrAt w cv bv p) (hb : Below w.heap.size w w') : PrAt w' cv bv p := ⟨h.1.mono hb, h.2.mono hb⟩
end Go.Proofs.Ytgbgjljflgbcaaa

namespace Go.Proofs.Ytgbgjljflgbcaaa
open Go.RowKit
set_option linter.unusedSimpArgs false
set_option linter.unusedVariables false
def Small (a : Ac) : Prop := a.ds.length ≤ 1048576 ∧ a.ks.length ≤ 1048576
def SmallB (acts : List Ac) : Prop := acts.length ≤ 1048576 ∧ ∀ j, j < acts.length → Small (nth Ac.z acts j)
def SmallP (p : Pr) : Prop := p.cells.length ≤ 1048576 ∧ p.bodies.length ≤ 1048576 ∧ ∀ j, j < p.bodies.length → SmallB (nth [] p.bodies j)
end Go.Proofs.Ytgbgjljflgbcaaa
