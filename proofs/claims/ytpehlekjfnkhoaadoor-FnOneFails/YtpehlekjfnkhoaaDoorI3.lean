/-
  One by one, of the program: a change, a body.
-/
import Derived.Test.YtpehlekjfnkhoaaDoorI1
import Derived.Test.YtpehlekjfnkhoaaDoorI2
import Derived.Test.YtpehlekjfnkhoaaDoorC3
import Derived.Handy
namespace Go.Proofs.YtpehlekjfnkhoaaDoor
open Go.RowKit
set_option linter.unusedSimpArgs false
set_option linter.unusedVariables false
set_option maxRecDepth 20000

/-- what is done one by one, in memory: its box is the block X -/
structure WkAt (B X : Nat) (w : World) (v0 v1 cv : Value) (c : List Int) : Prop where
  base : B ≤ X
  lt : X < w.heap.size
  c0 : w.cell? ⟨X, 0, none⟩ = some v0
  c1 : w.cell? ⟨X, 1, none⟩ = some v1
  c2 : w.cell? ⟨X, 2, none⟩ = some cv
  own : OwnInt B w cv c
  ne : cv.ownBlock ≠ some X
  frz : w.frozen? ⟨X, 2, none⟩ = false
theorem WkAt.below {B X : Nat} {w w' : World} {v0 v1 cv : Value} {c : List Int} (h : WkAt B X w v0 v1 cv c) (hb : Below w.heap.size w w') : WkAt B X w' v0 v1 cv c :=
  ⟨h.base, Nat.lt_of_lt_of_le h.lt hb.size, by rw [hb.cell (p := ⟨X, 0, none⟩) h.lt]; exact h.c0, by rw [hb.cell (p := ⟨X, 1, none⟩) h.lt]; exact h.c1, by rw [hb.cell (p := ⟨X, 2, none⟩) h.lt]; exact h.c2, h.own.below hb (Nat.le_refl _), h.ne, by rw [hb.frozen (p := ⟨X, 2, none⟩) h.lt]; exact h.frz⟩
theorem WkAt.put {B X : Nat} {w : World} {v0 v1 cv : Value} {c : List Int} (h : WkAt B X w v0 v1 cv c) {x : Value} {C : List Int} {D : Nat} (hx : OwnInt D w x C) (hD : X < D) : WkAt B X (w.setCell ⟨X, 2, none⟩ x) v0 v1 x C := by
  have hne : x.ownBlock ≠ some X := fun e => by have := (hx.lt X e).1; omega
  refine ⟨h.base, by simpa using h.lt, ?_, ?_, ?_, OwnInt.set_other (own_base hx (by have := h.base; omega)) hne _, hne, by rw [World.frozen?_setCell]; exact h.frz⟩
  · rw [cell_set_other _ _ _ _ _ (by intro e; injection e with e1 e2; omega)]; exact h.c0
  · rw [cell_set_other _ _ _ _ _ (by intro e; injection e with e1 e2; omega)]; exact h.c1
  · exact World.cell?_setCell_same' _ _ _ (by rw [h.c2]; rfl)
/-- what the two errors are -/
structure ErrGl (w : World) (aN aF : Addr) : Prop where
  n : w.cell? ⟨0, 0, none⟩ = some (erV aN)
  f : w.cell? ⟨1, 0, none⟩ = some (erV aF)
  ne : aN ≠ aF
  rn : ∃ c t, w.heap[aN.block]? = some (.cells c t (0, 0))
  rf : ∃ c t, w.heap[aF.block]? = some (.cells c t (0, 0))
theorem ErrGl.mono {w w' : World} {aN aF : Addr} (h : ErrGl w aN aF) (hb : Below w.heap.size w w') : ErrGl w' aN aF := by
  obtain ⟨h1, h2, h3, ⟨c, t, h4⟩, ⟨c', t', h5⟩⟩ := h
  exact ⟨by rw [hb.cell (p := ⟨_, 0, none⟩) (World.block_lt_of_cell? w _ h1)]; exact h1, by rw [hb.cell (p := ⟨_, 0, none⟩) (World.block_lt_of_cell? w _ h2)]; exact h2, h3,
    ⟨c, t, (hb.block _ (Array.getElem?_eq_some_iff.1 h4).1).trans h4⟩, ⟨c', t', (hb.block _ (Array.getElem?_eq_some_iff.1 h5).1).trans h5⟩⟩
/-- how a body came out, as an error -/
def errV (aN aF : Addr) (o : Nat) : Value := if o = 0 then .nilIface else if o = 1 then erV aF else erV aN
theorem mk3i (W : World) : Sem.run Tryd.prog (Instr.makeSlice 23 (.int .i64 3) (.int .i64 3)) W = .ok (.slice (some ⟨W.heap.size, 0, none⟩) 3 3) (W.alloc (.cells #[.int .i64 0, .int .i64 0, .int .i64 0] 3)) := by
  first | kernel_rfl | rfl
theorem own_zero (w : World) : OwnInt w.heap.size (w.alloc (.cells #[.int .i64 0, .int .i64 0, .int .i64 0] 3)) (.slice (some ⟨w.heap.size, 0, none⟩) 3 3) [0, 0, 0] := by
  refine ⟨rfl, .inr ⟨w.heap.size, 3, #[.int .i64 0, .int .i64 0, .int .i64 0], rfl, Nat.le_refl _, ?_, ?_⟩⟩
  · show (w.heap.push _)[w.heap.size]? = _
    simp
  · simp [maxLen]

set_option maxHeartbeats 1000000 in
theorem doChange_yes (B X : Nat) (v0 v1 cv rv dv : Value) (c r : List Int) (ds : List De) (w : World) (h : WkAt B X w v0 v1 cv c) (hr : IntsAt w rv r) (hd : DeedsAt w dv ds) {C R : List Int} (hx : chX c r ds = (C, R, true)) :
    Calls Tryd.prog 40 #[.pointer (some ⟨X, 0, none⟩), rv, dv] w fun e w' => ∃ x y, e = .returned (.tuple #[y, .nilIface]) ∧ WkAt B X w' v0 v1 x C ∧ OwnInt w.heap.size w' y R ∧ FrS (fun b => b = X) w w' := by
  have HW := (show Hid (WkAt _ _ _ _ _ _ _) from h)
  have HR := (show Hid (IntsAt _ _ _) from hr)
  have HD := (show Hid (DeedsAt _ _ _) from hd)
  have HX := (show Hid (_ = _) from hx)
  have c2 := h.c2
  have hlt := h.lt
  clear h hr hd hx
  go_enter Tryd.func40, Tryd.ntmps40
  go_wp2_with fail
  refine (changeDo_any c r ds _ _ _ _ HW.out.own.at HR.out HD.out).mono ?_
  rw [HX.out]
  rintro e w1 ⟨x, y, rfl, ht, hb1⟩
  have HW1 := (show Hid (WkAt _ _ _ _ _ _ _) from HW.out.below hb1)
  have HT := (show Hid (Two _ _ _ _ _ _) from ht)
  have HB1 := (show Hid (Below _ _ _) from hb1)
  have c21 := HW1.out.c2
  have f21 := HW1.out.frz
  have hlt1 := HW1.out.lt
  clear ht hb1 c2 HX
  obtain ⟨ax, kx, rfl, _⟩ := own_shape HT.out.1
  obtain ⟨ay, ky, rfl, _⟩ := own_shape HT.out.2.1
  go_wp2_with fail
  refine bodyPost_ret (v := .tuple #[.slice ay R.length ky, .nilIface]) (by simp [results, Tryd.results40, go_sem]) rfl ⟨_, _, rfl, HW1.out.put HT.out.1 hlt, HT.out.2.1.set_other (fun e => by have := (HT.out.2.1.lt X e).1; omega) _, FrS.setCell (S := fun b => b = X) (FrS.of_below HB1.out) (p := ⟨X, 2, none⟩) rfl _⟩

set_option maxHeartbeats 1000000 in
theorem doChange_no (B X : Nat) (v0 v1 cv rv dv : Value) (c r : List Int) (ds : List De) (aN aF : Addr) (w : World) (h : WkAt B X w v0 v1 cv c) (hr : IntsAt w rv r) (hd : DeedsAt w dv ds) (hx : (chX c r ds).2.2 = false) (hE : ErrGl w aN aF) :
    Calls Tryd.prog 40 #[.pointer (some ⟨X, 0, none⟩), rv, dv] w fun e w' => e = .returned (.tuple #[.slice none 0 0, erV aN]) ∧ Below w.heap.size w w' := by
  have HW := (show Hid (WkAt _ _ _ _ _ _ _) from h)
  have HR := (show Hid (IntsAt _ _ _) from hr)
  have HD := (show Hid (DeedsAt _ _ _) from hd)
  have HX := (show Hid (_ = false) from hx)
  have HE := (show Hid (ErrGl _ _ _) from hE)
  have c2 := h.c2
  have hlt := h.lt
  clear h hr hd hx hE
  go_enter Tryd.func40, Tryd.ntmps40
  go_wp2_with fail
  refine (changeDo_any c r ds _ _ _ _ HW.out.own.at HR.out HD.out).mono ?_
  rintro e w1 ⟨x, y, rfl, ht, hb1⟩
  rw [HX.out]
  have HB1 := (show Hid (Below _ _ _) from hb1)
  have g1 := (HE.out.mono hb1).n
  unfold erV at g1
  clear ht hb1 c2 HX
  go_wp2_with fail
  go_quiet (fail)
  go_wp2_with fail
  refine bodyPost_ret (v := .tuple #[.slice none 0 0, erV aN]) (by simp [results, Tryd.results40, go_sem, erV]) rfl ⟨rfl, below_drewN HB1.out _⟩

end Go.Proofs.YtpehlekjfnkhoaaDoor
