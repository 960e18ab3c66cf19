import Derived.Test.YtgbgjljflgbcaaaXn15
import Derived.Test.YtgbgjljflgbcaaaXn21
import Derived.Deep.Upon
import Derived.Deep.Slices
import Derived.Test.YtgbgjljflgbcaaaXn16
import Derived.Deep.QuietTactic
import Derived.BigQuiet
import Derived.Deep.RegionWith
import Derived.Handy
import Derived.Test.YtgbgjljflgbcaaaXn08
namespace Go.Proofs.Ytgbgjljflgbcaaa
open Go.RowKit
set_option linter.unusedSimpArgs false
set_option linter.unusedVariables false
inductive Key where
  | c | t | l | z
  | r (i : Nat) | o (i : Nat) | d (i : Nat) | u (i : Nat)
  | ed (j : Nat) | eu (j : Nat)
def Row (f : Nat → Key) (κ : Key) (B : Nat) (w : World) (e : TypeId) (size : Nat) (v : Value) (n : Nat) (xs : List Value) : Prop :=
  w.ownsRow B e size v n xs ∧ ∀ g, v.ownBlock = some g → f g = κ
theorem row_heap {w w' : World} {B : Nat} {e : TypeId} {size : Nat} {v : Value} {n : Nat} {xs : List Value} (h : w.ownsRow B e size v n xs) (hk : ∀ g, v.ownBlock = some g → w'.heap[g]? = w.heap[g]?) : w'.ownsRow B e size v n xs := by
  refine ⟨h.1, ?_⟩
  rcases h.2 with hn | ⟨g, cap, cur, rfl, hb, hgg, rest⟩
  · exact .inl hn
  · exact .inr ⟨g, cap, cur, rfl, hb, by rw [hk g rfl]; exact hgg, rest⟩
theorem Row.move {f f' : Nat → Key} {κ κ' : Key} {B : Nat} {w w' : World} {e : TypeId} {size : Nat} {v : Value} {n : Nat} {xs : List Value} (h : Row f κ B w e size v n xs)
    (hf : ∀ g, B ≤ g → g < w.heap.size → f g = κ → f' g = κ') (hk : ∀ g, B ≤ g → g < w.heap.size → f g = κ → w'.heap[g]? = w.heap[g]?) : Row f' κ' B w' e size v n xs :=
  ⟨row_heap h.1 fun g hg => hk g (h.1.lt g hg).1 (h.1.lt g hg).2 (h.2 g hg), fun g hg => hf g (h.1.lt g hg).1 (h.1.lt g hg).2 (h.2 g hg)⟩
structure TV where
  r : Value
  o : Value
  d : Value
  u : Value
abbrev TT := Ta × TV
def TT.z : TT := (Ta.z, ⟨.slice none 0 0, .slice none 0 0, .slice none 0 0, .slice none 0 0⟩)
structure EV where
  d : Value
  u : Value
abbrev EE := En × EV
def EE.z : EE := (En.z, ⟨.slice none 0 0, .slice none 0 0⟩)
def taC (x : TT) : List Value := [.int .i64 x.1.body, .int .i64 x.1.pc, .int .i64 x.1.up, x.2.r, .int .i64 x.1.way, .int .i64 x.1.stage, .int .i64 x.1.at_, .int .i64 x.1.since, x.2.o, x.2.d, x.2.u, .int .i64 x.1.when_, .int .i64 x.1.from_]
def enC (x : EE) : List Value := [.int .i64 x.1.task, .int .i64 x.1.act, .int .i64 x.1.when_, x.2.d, x.2.u, .int .i64 x.1.from_]
def ceC (x : Ce) : List Value := [.int .i64 x.num, .int .i64 x.time, .int .i64 x.lock]
def puC (x : Pu) : List Value := [.int .i64 x.c, .int .i64 x.n]
def iR (f : Nat → Key) (κ : Key) (B : Nat) (w : World) (v : Value) (xs : List Int) : Prop := Row f κ B w 3 1 v xs.length (xs.map (Value.int .i64))
def pR (f : Nat → Key) (κ : Key) (B : Nat) (w : World) (v : Value) (xs : List Pu) : Prop := Row f κ B w 52 2 v xs.length (xs.flatMap puC)
structure TIn (f : Nat → Key) (B : Nat) (w : World) (i : Nat) (x : TT) : Prop where
  r : iR f (.r i) B w x.2.r x.1.regs
  o : iR f (.o i) B w x.2.o x.1.old
  d : pR f (.d i) B w x.2.d x.1.reads
  u : pR f (.u i) B w x.2.u x.1.puts
structure EIn (f : Nat → Key) (B : Nat) (w : World) (j : Nat) (x : EE) : Prop where
  d : pR f (.ed j) B w x.2.d x.1.reads
  u : pR f (.eu j) B w x.2.u x.1.puts
structure OwnSy (f : Nat → Key) (B : Nat) (w : World) (cv tv lv : Value) (cs : List Ce) (T : List TT) (L : List EE) : Prop where
  c : Row f .c B w 45 3 cv cs.length (cs.flatMap ceC)
  t : Row f .t B w 70 13 tv T.length (T.flatMap taC)
  l : Row f .l B w 55 6 lv L.length (L.flatMap enC)
  ti : ∀ i, i < T.length → TIn f B w i (nth TT.z T i)
  li : ∀ j, j < L.length → EIn f B w j (nth EE.z L j)
theorem TIn.move {f f' : Nat → Key} {B : Nat} {w w' : World} {i : Nat} {x : TT} (h : TIn f B w i x) (hf : ∀ g, B ≤ g → g < w.heap.size → f' g = f g)
    (hk : ∀ g, B ≤ g → g < w.heap.size → f g = .r i ∨ f g = .o i ∨ f g = .d i ∨ f g = .u i → w'.heap[g]? = w.heap[g]?) : TIn f' B w' i x :=
  ⟨h.r.move (fun g a b e => (hf g a b).trans e) (fun g a b e => hk g a b (.inl e)), h.o.move (fun g a b e => (hf g a b).trans e) (fun g a b e => hk g a b (.inr (.inl e))),
   h.d.move (fun g a b e => (hf g a b).trans e) (fun g a b e => hk g a b (.inr (.inr (.inl e)))), h.u.move (fun g a b e => (hf g a b).trans e) (fun g a b e => hk g a b (.inr (.inr (.inr e))))⟩
theorem EIn.move {f f' : Nat → Key} {B : Nat} {w w' : World} {i : Nat} {x : EE} (h : EIn f B w i x) (hf : ∀ g, B ≤ g → g < w.heap.size → f' g = f g)
    (hk : ∀ g, B ≤ g → g < w.heap.size → f g = .ed i ∨ f g = .eu i → w'.heap[g]? = w.heap[g]?) : EIn f' B w' i x :=
  ⟨h.d.move (fun g a b e => (hf g a b).trans e) (fun g a b e => hk g a b (.inl e)), h.u.move (fun g a b e => (hf g a b).trans e) (fun g a b e => hk g a b (.inr e))⟩
theorem OwnSy.ext {f f' : Nat → Key} {B : Nat} {w w' : World} {cv tv lv : Value} {cs : List Ce} {T : List TT} {L : List EE} (h : OwnSy f B w cv tv lv cs T L)
    (hf : ∀ g, B ≤ g → g < w.heap.size → f' g = f g) (hk : ∀ g, B ≤ g → g < w.heap.size → w'.heap[g]? = w.heap[g]?) : OwnSy f' B w' cv tv lv cs T L :=
  ⟨h.c.move (fun g a b e => (hf g a b).trans e) (fun g a b _ => hk g a b), h.t.move (fun g a b e => (hf g a b).trans e) (fun g a b _ => hk g a b), h.l.move (fun g a b e => (hf g a b).trans e) (fun g a b _ => hk g a b),
   fun i hi => (h.ti i hi).move hf (fun g a b _ => hk g a b), fun j hj => (h.li j hj).move hf (fun g a b _ => hk g a b)⟩
theorem heap_set_ne (w : World) (p : Addr) (v : Value) (g : Nat) (h : g ≠ p.block) : (w.setCell p v).heap[g]? = w.heap[g]? := Below.heap_setCell w p v g h
theorem flat_len {α : Type} (c : Nat) (f : α → List Value) (hf : ∀ x, (f x).length = c) (L : List α) : (L.flatMap f).length = L.length * c := by
  induction L with
  | nil => simp
  | cons x L ih => rw [List.flatMap_cons, List.length_append, hf, ih, List.length_cons, Nat.succ_mul]; omega
theorem flat_at {α : Type} (c : Nat) (f : α → List Value) (hf : ∀ x, (f x).length = c) (z : α) (j : Nat) (hj : j < c) (L : List α) (i : Nat) (hi : i < L.length) : (L.flatMap f)[i * c + j]? = (f (nth z L i))[j]? := by
  rw [nth_eq z L i hi]
  induction L generalizing i with
  | nil => simp at hi
  | cons x L ih =>
    rw [List.flatMap_cons]
    cases i with
    | zero => rw [Nat.zero_mul, Nat.zero_add, List.getElem?_append_left (by rw [hf]; exact hj)]; rfl
    | succ i =>
      rw [List.getElem?_append_right (by rw [hf, Nat.succ_mul]; omega), hf]
      have : (i + 1) * c + j - c = i * c + j := by rw [Nat.succ_mul]; omega
      rw [this]
      exact ih i (by simpa using hi)
theorem taC_len (x : TT) : (taC x).length = 13 := rfl
theorem enC_len (x : EE) : (enC x).length = 6 := rfl
theorem ceC_len (x : Ce) : (ceC x).length = 3 := rfl
theorem puC_len (x : Pu) : (puC x).length = 2 := rfl
theorem row_cells {f : Nat → Key} {κ : Key} {B : Nat} {w : World} {e : TypeId} {size : Nat} {v : Value} {n : Nat} {xs : List Value} (h : Row f κ B w e size v n xs) (hs : 0 < size) (h0 : 0 < n) :
    ∃ g cap, v = .slice (some ⟨g, 0, none⟩) n cap ∧ B ≤ g ∧ g < w.heap.size ∧ n ≤ cap ∧ cap ≤ 9223372036854775807 ∧ f g = κ ∧ (∀ j, j < xs.length → w.cell? ⟨g, j, none⟩ = xs[j]?) ∧ ∀ j, w.frozen? ⟨g, j, none⟩ = false := by
  have hl := h.1.1
  rcases h.1.2 with ⟨rfl, rfl⟩ | ⟨g, cap, cur, rfl, hb, hg, h1, h2, h3, h4⟩
  · omega
  · refine ⟨g, cap, rfl, hb, (Array.getElem?_eq_some_iff.1 hg).1, h1, by unfold maxLen at h2; omega, h.2 g rfl, fun j hj => ?_, fun j => frozen_of_row w g j cur _ hg⟩
    rw [cell_of_row w g j cur _ (0, 0) hg, ← h4, List.getElem?_take, if_pos (by omega)]
    simp
end Go.Proofs.Ytgbgjljflgbcaaa

namespace Go.Proofs.Ytgbgjljflgbcaaa
open Go.RowKit
set_option linter.unusedSimpArgs false
set_option linter.unusedVariables false
def rest (p : Pr) (t : Ta) : Nat := if t.way = 0 then trAs (tr p 4) ((acts p t).drop t.pc.toNat) else if t.way = 1 then trAs (tr p 4) ((acts p t).drop (t.pc.toNat + 1)) else 0
end Go.Proofs.Ytgbgjljflgbcaaa
