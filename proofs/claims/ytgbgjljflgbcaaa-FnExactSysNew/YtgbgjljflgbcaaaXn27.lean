import Derived.Test.YtgbgjljflgbcaaaXn14
namespace Go.Proofs.Ytgbgjljflgbcaaa
open Go.RowKit
set_option linter.unusedSimpArgs false
set_option linter.unusedVariables false
def ICell (w : World) (a : Addr) : Prop := (∃ z, w.cell? a = some (.int .i64 z)) ∧ w.frozen? a = false
structure IntSet (w w' : World) : Prop where
  size : w.heap.size ≤ w'.heap.size
  ints : ∀ a, ICell w a → ICell w' a
  rows : ∀ p a n c, w.cell? p = some (.slice a n c) → w'.cell? p = some (.slice a n c)
theorem IntSet.refl (w : World) : IntSet w w := ⟨Nat.le_refl _, fun _ h => h, fun _ _ _ _ h => h⟩
theorem IntSet.trans {w w' w'' : World} (h : IntSet w w') (h' : IntSet w' w'') : IntSet w w'' :=
  ⟨Nat.le_trans h.size h'.size, fun a x => h'.ints a (h.ints a x), fun p a n c x => h'.rows p a n c (h.rows p a n c x)⟩
theorem ICell.set {w : World} {a b : Addr} (h : ICell w a) (hb : ICell w b) (k : Int) : ICell (w.setCell b (.int .i64 k)) a := by
  refine ⟨?_, by simpa using h.2⟩
  by_cases e : b = a
  · subst e
    obtain ⟨z, hz⟩ := h.1
    exact ⟨k, World.cell?_setCell_same w b _ hz⟩
  · rw [World.cell?_setCell_other w b a _ e]; exact h.1
theorem IntSet.set {w : World} {b : Addr} (hb : ICell w b) (k : Int) : IntSet w (w.setCell b (.int .i64 k)) := by
  refine ⟨by simp, fun a h => h.set hb k, fun p a n c h => ?_⟩
  have e : b ≠ p := fun e => by
    subst e
    obtain ⟨z, hz⟩ := hb.1
    rw [hz] at h; cases h
  rw [World.cell?_setCell_other w b p _ e]; exact h
theorem cell_lt {w : World} {p : Addr} {v : Value} (h : w.cell? p = some v) : p.block < w.heap.size := by
  unfold World.cell? at h
  split at h
  · rename_i hb
    exact (Array.getElem?_eq_some_iff.1 hb).1
  · cases h
theorem IntSet.below {w w' : World} (hb : Below w.heap.size w w') : IntSet w w' :=
  ⟨hb.size, fun a h => ⟨by obtain ⟨z, hz⟩ := h.1; exact ⟨z, by rw [hb.cell (cell_lt hz)]; exact hz⟩, by obtain ⟨z, hz⟩ := h.1; rw [hb.frozen (cell_lt hz)]; exact h.2⟩, fun p a n c h => by rw [hb.cell (cell_lt h)]; exact h⟩
def wrT (w : World) : List Addr → Int → World
  | [], _ => w
  | a :: A, k => wrT (w.setCell a (.int .i64 k)) A (k + 1)
theorem wrT_app (w : World) (A B : List Addr) (k : Int) : wrT w (A ++ B) k = wrT (wrT w A k) B (k + A.length) := by
  induction A generalizing w k with
  | nil => simp [wrT]
  | cons a A ih => simp only [List.cons_append, wrT, ih, List.length_cons]; congr 1; push_cast; omega
theorem wrT_one (w : World) (A : List Addr) (a : Addr) (k : Int) : wrT w (A ++ [a]) k = (wrT w A k).setCell a (.int .i64 (k + A.length)) := by rw [wrT_app]; rfl
theorem wrT_set {w : World} {A : List Addr} (h : ∀ a, a ∈ A → ICell w a) (k : Int) : IntSet w (wrT w A k) := by
  induction A generalizing w k with
  | nil => exact IntSet.refl _
  | cons a A ih => exact (IntSet.set (h a (by simp)) k).trans (ih (fun b hb => (h b (by simp [hb])).set (h a (by simp)) k) (k + 1))
theorem wrT_other {w : World} {A : List Addr} {p : Addr} (h : p ∉ A) (k : Int) : (wrT w A k).cell? p = w.cell? p := by
  induction A generalizing w k with
  | nil => rfl
  | cons a A ih =>
    simp only [List.mem_cons, not_or] at h
    rw [wrT, ih h.2, World.cell?_setCell_other w a p _ (fun e => h.1 e.symm)]
theorem wrT_block {w : World} {A : List Addr} {b : Nat} (h : ∀ a, a ∈ A → a.block ≠ b) (k : Int) : (wrT w A k).heap[b]? = w.heap[b]? := by
  induction A generalizing w k with
  | nil => rfl
  | cons a A ih =>
    rw [wrT, ih (fun c hc => h c (by simp [hc]))]
    have := h a (by simp)
    simp only [World.setCell, Array.getElem?_modify, if_neg this]
theorem wrT_rest (w : World) (A : List Addr) (k : Int) : (wrT w A k).os = w.os ∧ (wrT w A k).tape = w.tape ∧ (wrT w A k).output = w.output ∧ (wrT w A k).heap.size = w.heap.size := by
  induction A generalizing w k with
  | nil => exact ⟨rfl, rfl, rfl, rfl⟩
  | cons a A ih =>
    obtain ⟨h1, h2, h3, h4⟩ := ih (w.setCell a (.int .i64 k)) (k + 1)
    exact ⟨h1.trans rfl, h2.trans rfl, h3.trans rfl, h4.trans (by simp)⟩
def HeldT (w : World) : List Addr → Int → Prop
  | [], _ => True
  | a :: A, k => w.cell? a = some (.int .i64 k) ∧ HeldT w A (k + 1)
theorem heldT_app (w : World) (A B : List Addr) (k : Int) : HeldT w (A ++ B) k ↔ HeldT w A k ∧ HeldT w B (k + A.length) := by
  induction A generalizing k with
  | nil => simp [HeldT]
  | cons a A ih =>
    simp only [List.cons_append, HeldT, ih, List.length_cons, and_assoc]
    rw [show k + 1 + (A.length : Int) = k + ((A.length + 1 : Nat) : Int) by push_cast; omega]
theorem heldT_same {w w' : World} {A : List Addr} {k : Int} (h : HeldT w A k) (hc : ∀ a, a ∈ A → w'.cell? a = w.cell? a) : HeldT w' A k := by
  induction A generalizing k with
  | nil => trivial
  | cons a A ih => exact ⟨(hc a (by simp)).trans h.1, ih h.2 (fun b hb => hc b (by simp [hb]))⟩
theorem HeldT.below {w w' : World} {A : List Addr} {k : Int} (h : HeldT w A k) (hA : ∀ a, a ∈ A → a.block < w.heap.size) (hb : Below w.heap.size w w') : HeldT w' A k :=
  heldT_same h fun a ha => hb.cell (hA a ha)
theorem wrT_held {w : World} {A : List Addr} (h : ∀ a, a ∈ A → ICell w a) (hn : A.Nodup) (k : Int) : HeldT (wrT w A k) A k := by
  induction A generalizing w k with
  | nil => trivial
  | cons a A ih =>
    obtain ⟨h1, h2⟩ := List.nodup_cons.1 hn
    refine ⟨?_, ih (fun b hb => (h b (by simp [hb])).set (h a (by simp)) k) h2 (k + 1)⟩
    rw [wrT, wrT_other h1]
    obtain ⟨z, hz⟩ := (h a (by simp)).1
    exact World.cell?_setCell_same w a _ hz
def rowT (b off : Nat) : Nat → List Addr
  | 0 => []
  | n + 1 => rowT b off n ++ [⟨b, off + n, none⟩]
theorem rowT_len (b off n : Nat) : (rowT b off n).length = n := by
  induction n with
  | zero => rfl
  | succ n ih => simp [rowT, ih]
theorem rowT_mem {b off n : Nat} {a : Addr} : a ∈ rowT b off n ↔ ∃ i, i < n ∧ a = ⟨b, off + i, none⟩ := by
  induction n with
  | zero => simp [rowT]
  | succ n ih =>
    simp only [rowT, List.mem_append, List.mem_singleton, ih]
    constructor
    · rintro (⟨i, hi, rfl⟩ | rfl)
      · exact ⟨i, by omega, rfl⟩
      · exact ⟨n, by omega, rfl⟩
    · rintro ⟨i, hi, rfl⟩
      by_cases e : i = n
      · subst e; exact .inr rfl
      · exact .inl ⟨i, by omega, rfl⟩
theorem rowT_nodup (b off n : Nat) : (rowT b off n).Nodup := by
  induction n with
  | zero => exact List.nodup_nil
  | succ n ih =>
    rw [rowT, List.nodup_append]
    refine ⟨ih, by simp, fun x hx y hy e => ?_⟩
    simp at hy; subst hy; subst e
    obtain ⟨i, hi, e⟩ := rowT_mem.1 hx
    injection e; omega
theorem rowT_held {w : World} {b off n : Nat} {k : Int} (h : HeldT w (rowT b off n) k) (i : Nat) (hi : i < n) : w.cell? ⟨b, off + i, none⟩ = some (.int .i64 (k + i)) := by
  induction n with
  | zero => omega
  | succ n ih =>
    rw [rowT, heldT_app] at h
    by_cases e : i = n
    · subst e
      have := h.2.1
      rw [rowT_len] at this
      exact this
    · exact ih h.1 (by omega)
theorem wrT_row3 (w : World) (b off n : Nat) (k : Int) : wrT w (rowT b off ((n + 1) * 3)) k = (((wrT w (rowT b off (n * 3)) k).setCell ⟨b, off + n * 3, none⟩ (.int .i64 (k + ((n * 3 : Nat) : Int)))).setCell ⟨b, off + n * 3 + 1, none⟩ (.int .i64 (k + ((n * 3 : Nat) : Int) + 1))).setCell ⟨b, off + n * 3 + 2, none⟩ (.int .i64 (k + ((n * 3 : Nat) : Int) + 1 + 1)) := by
  rw [show (n + 1) * 3 = n * 3 + 1 + 1 + 1 by omega]
  simp only [rowT, wrT_one, List.length_append, rowT_len, List.length_singleton]
  congr 1
  congr 1
  · congr 1; push_cast; omega
  · congr 1; push_cast; omega
def RowSh (m : Nat) (w : World) (v : Value) : Prop :=
  ∃ a n cap, v = .slice a n cap ∧ n ≤ 9223372036854775807 ∧ ∀ i, i < n → ∃ b off, a = some ⟨b, off, none⟩ ∧ b < w.heap.size ∧ ∀ j, j < n * m → ICell w ⟨b, off + j, none⟩
def trR (m : Nat) : Value → List Addr
  | .slice (some ⟨b, off, none⟩) n _ => rowT b off (n * m)
  | _ => []
theorem RowSh.set {m : Nat} {w w' : World} {v : Value} (h : RowSh m w v) (hs : IntSet w w') : RowSh m w' v := by
  obtain ⟨a, n, cap, rfl, hn, hc⟩ := h
  refine ⟨a, n, cap, rfl, hn, fun i hi => ?_⟩
  obtain ⟨b, off, e, hb, hj⟩ := hc i hi
  exact ⟨b, off, e, Nat.lt_of_lt_of_le hb hs.size, fun j h => hs.ints _ (hj j h)⟩
theorem RowSh.trail {m : Nat} {w : World} {v : Value} (h : RowSh m w v) : ∀ a, a ∈ trR m v → ICell w a ∧ a.block < w.heap.size := by
  obtain ⟨a, n, cap, rfl, hn, hc⟩ := h
  intro p hp
  rcases a with _ | ⟨b, off, _ | s⟩
  · simp [trR] at hp
  · simp only [trR] at hp
    obtain ⟨j, hj, rfl⟩ := rowT_mem.1 hp
    have h0 : 0 < n := by rcases Nat.eq_zero_or_pos n with h | h; · subst h; simp at hj
                          · exact h
    obtain ⟨b', off', e, hb, hall⟩ := hc 0 h0
    injection e with e; injection e with e1 e2; subst e1 e2
    exact ⟨hall j hj, hb⟩
  · simp [trR] at hp
end Go.Proofs.Ytgbgjljflgbcaaa
