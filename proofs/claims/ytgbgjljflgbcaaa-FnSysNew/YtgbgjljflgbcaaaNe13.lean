import Derived.Test.YtgbgjljflgbcaaaNe12
import Derived.Deep.Upon
import Derived.Deep.Slices
import Derived.Test.YtgbgjljflgbcaaaNe05
import Derived.Test.YtgbgjljflgbcaaaNe08
import Derived.Test.YtgbgjljflgbcaaaNe02
import Derived.Test.YtgbgjljflgbcaaaNe06
import Derived.Handy
import Derived.Test.YtgbgjljflgbcaaaNe01
import Derived.WalkKit
import Derived.Deep.RegionHeld3
import Derived.Deep.AppendLies
namespace Go.Proofs.Ytgbgjljflgbcaaa
open Go.RowKit
set_option linter.unusedSimpArgs false
set_option linter.unusedVariables false
end Go.Proofs.Ytgbgjljflgbcaaa

namespace Go.Proofs.Ytgbgjljflgbcaaa
open Go.RowKit
set_option linter.unusedSimpArgs false
set_option linter.unusedVariables false
inductive Key where
  | c | t | l | z
  | r (i : Nat) | o (i : Nat) | d (i : Nat) | u (i : Nat)
  | ed (j : Nat) | eu (j : Nat)
def Row (f : Nat → Key) (κ : Key) (B : Nat) (w : World) (e : TypeId) (size : Nat) (v : Value) (n : Nat) (xs : List Value) : Prop :=
  w.ownsRow B e size v n xs ∧ ∀ g, v.ownBlock = some g → f g = κ
theorem row_heap {w w' : World} {B : Nat} {e : TypeId} {size : Nat} {v : Value} {n : Nat} {xs : List Value} (h : w.ownsRow B e size v n xs) (hk : ∀ g, v.ownBlock = some g → w'.heap[g]? = w.heap[g]?) : w'.ownsRow B e size v n xs := by
  refine ⟨h.1, ?_⟩
  rcases h.2 with hn | ⟨g, cap, cur, rfl, hb, hgg, rest⟩
  · exact .inl hn
  · exact .inr ⟨g, cap, cur, rfl, hb, by rw [hk g rfl]; exact hgg, rest⟩
theorem Row.move {f f' : Nat → Key} {κ κ' : Key} {B : Nat} {w w' : World} {e : TypeId} {size : Nat} {v : Value} {n : Nat} {xs : List Value} (h : Row f κ B w e size v n xs)
    (hf : ∀ g, B ≤ g → g < w.heap.size → f g = κ → f' g = κ') (hk : ∀ g, B ≤ g → g < w.heap.size → f g = κ → w'.heap[g]? = w.heap[g]?) : Row f' κ' B w' e size v n xs :=
  ⟨row_heap h.1 fun g hg => hk g (h.1.lt g hg).1 (h.1.lt g hg).2 (h.2 g hg), fun g hg => hf g (h.1.lt g hg).1 (h.1.lt g hg).2 (h.2 g hg)⟩
structure TV where
  r : Value
  o : Value
  d : Value
  u : Value
abbrev TT := Ta × TV
def TT.z : TT := (Ta.z, ⟨.slice none 0 0, .slice none 0 0, .slice none 0 0, .slice none 0 0⟩)
structure EV where
  d : Value
  u : Value
abbrev EE := En × EV
def EE.z : EE := (En.z, ⟨.slice none 0 0, .slice none 0 0⟩)
def taC (x : TT) : List Value := [.int .i64 x.1.body, .int .i64 x.1.pc, .int .i64 x.1.up, x.2.r, .int .i64 x.1.way, .int .i64 x.1.stage, .int .i64 x.1.at_, .int .i64 x.1.since, x.2.o, x.2.d, x.2.u, .int .i64 x.1.when_, .int .i64 x.1.from_]
def enC (x : EE) : List Value := [.int .i64 x.1.task, .int .i64 x.1.act, .int .i64 x.1.when_, x.2.d, x.2.u, .int .i64 x.1.from_]
def ceC (x : Ce) : List Value := [.int .i64 x.num, .int .i64 x.time, .int .i64 x.lock]
def puC (x : Pu) : List Value := [.int .i64 x.c, .int .i64 x.n]
def iR (f : Nat → Key) (κ : Key) (B : Nat) (w : World) (v : Value) (xs : List Int) : Prop := Row f κ B w 3 1 v xs.length (xs.map (Value.int .i64))
def pR (f : Nat → Key) (κ : Key) (B : Nat) (w : World) (v : Value) (xs : List Pu) : Prop := Row f κ B w 52 2 v xs.length (xs.flatMap puC)
structure TIn (f : Nat → Key) (B : Nat) (w : World) (i : Nat) (x : TT) : Prop where
  r : iR f (.r i) B w x.2.r x.1.regs
  o : iR f (.o i) B w x.2.o x.1.old
  d : pR f (.d i) B w x.2.d x.1.reads
  u : pR f (.u i) B w x.2.u x.1.puts
structure EIn (f : Nat → Key) (B : Nat) (w : World) (j : Nat) (x : EE) : Prop where
  d : pR f (.ed j) B w x.2.d x.1.reads
  u : pR f (.eu j) B w x.2.u x.1.puts
structure OwnSy (f : Nat → Key) (B : Nat) (w : World) (cv tv lv : Value) (cs : List Ce) (T : List TT) (L : List EE) : Prop where
  c : Row f .c B w 45 3 cv cs.length (cs.flatMap ceC)
  t : Row f .t B w 70 13 tv T.length (T.flatMap taC)
  l : Row f .l B w 55 6 lv L.length (L.flatMap enC)
  ti : ∀ i, i < T.length → TIn f B w i (nth TT.z T i)
  li : ∀ j, j < L.length → EIn f B w j (nth EE.z L j)
theorem TIn.move {f f' : Nat → Key} {B : Nat} {w w' : World} {i : Nat} {x : TT} (h : TIn f B w i x) (hf : ∀ g, B ≤ g → g < w.heap.size → f' g = f g)
    (hk : ∀ g, B ≤ g → g < w.heap.size → f g = .r i ∨ f g = .o i ∨ f g = .d i ∨ f g = .u i → w'.heap[g]? = w.heap[g]?) : TIn f' B w' i x :=
  ⟨h.r.move (fun g a b e => (hf g a b).trans e) (fun g a b e => hk g a b (.inl e)), h.o.move (fun g a b e => (hf g a b).trans e) (fun g a b e => hk g a b (.inr (.inl e))),
   h.d.move (fun g a b e => (hf g a b).trans e) (fun g a b e => hk g a b (.inr (.inr (.inl e)))), h.u.move (fun g a b e => (hf g a b).trans e) (fun g a b e => hk g a b (.inr (.inr (.inr e))))⟩
theorem EIn.move {f f' : Nat → Key} {B : Nat} {w w' : World} {i : Nat} {x : EE} (h : EIn f B w i x) (hf : ∀ g, B ≤ g → g < w.heap.size → f' g = f g)
    (hk : ∀ g, B ≤ g → g < w.heap.size → f g = .ed i ∨ f g = .eu i → w'.heap[g]? = w.heap[g]?) : EIn f' B w' i x :=
  ⟨h.d.move (fun g a b e => (hf g a b).trans e) (fun g a b e => hk g a b (.inl e)), h.u.move (fun g a b e => (hf g a b).trans e) (fun g a b e => hk g a b (.inr e))⟩
theorem OwnSy.ext {f f' : Nat → Key} {B : Nat} {w w' : World} {cv tv lv : Value} {cs : List Ce} {T : List TT} {L : List EE} (h : OwnSy f B w cv tv lv cs T L)
    (hf : ∀ g, B ≤ g → g < w.heap.size → f' g = f g) (hk : ∀ g, B ≤ g → g < w.heap.size → w'.heap[g]? = w.heap[g]?) : OwnSy f' B w' cv tv lv cs T L :=
  ⟨h.c.move (fun g a b e => (hf g a b).trans e) (fun g a b _ => hk g a b), h.t.move (fun g a b e => (hf g a b).trans e) (fun g a b _ => hk g a b), h.l.move (fun g a b e => (hf g a b).trans e) (fun g a b _ => hk g a b),
   fun i hi => (h.ti i hi).move hf (fun g a b _ => hk g a b), fun j hj => (h.li j hj).move hf (fun g a b _ => hk g a b)⟩
theorem heap_set_ne (w : World) (p : Addr) (v : Value) (g : Nat) (h : g ≠ p.block) : (w.setCell p v).heap[g]? = w.heap[g]? := Below.heap_setCell w p v g h
theorem flat_len {α : Type} (c : Nat) (f : α → List Value) (hf : ∀ x, (f x).length = c) (L : List α) : (L.flatMap f).length = L.length * c := by
  induction L with
  | nil => simp
  | cons x L ih => rw [List.flatMap_cons, List.length_append, hf, ih, List.length_cons, Nat.succ_mul]; omega
theorem flat_at {α : Type} (c : Nat) (f : α → List Value) (hf : ∀ x, (f x).length = c) (z : α) (j : Nat) (hj : j < c) (L : List α) (i : Nat) (hi : i < L.length) : (L.flatMap f)[i * c + j]? = (f (nth z L i))[j]? := by
  rw [nth_eq z L i hi]
  induction L generalizing i with
  | nil => simp at hi
  | cons x L ih =>
    rw [List.flatMap_cons]
    cases i with
    | zero => rw [Nat.zero_mul, Nat.zero_add, List.getElem?_append_left (by rw [hf]; exact hj)]; rfl
    | succ i =>
      rw [List.getElem?_append_right (by rw [hf, Nat.succ_mul]; omega), hf]
      have : (i + 1) * c + j - c = i * c + j := by rw [Nat.succ_mul]; omega
      rw [this]
      exact ih i (by simpa using hi)
theorem taC_len (x : TT) : (taC x).length = 13 := rfl
theorem enC_len (x : EE) : (enC x).length = 6 := rfl
theorem ceC_len (x : Ce) : (ceC x).length = 3 := rfl
theorem puC_len (x : Pu) : (puC x).length = 2 := rfl
theorem row_cells {f : Nat → Key} {κ : Key} {B : Nat} {w : World} {e : TypeId} {size : Nat} {v : Value} {n : Nat} {xs : List Value} (h : Row f κ B w e size v n xs) (hs : 0 < size) (h0 : 0 < n) :
    ∃ g cap, v = .slice (some ⟨g, 0, none⟩) n cap ∧ B ≤ g ∧ g < w.heap.size ∧ n ≤ cap ∧ cap ≤ 9223372036854775807 ∧ f g = κ ∧ (∀ j, j < xs.length → w.cell? ⟨g, j, none⟩ = xs[j]?) ∧ ∀ j, w.frozen? ⟨g, j, none⟩ = false := by
  have hl := h.1.1
  rcases h.1.2 with ⟨rfl, rfl⟩ | ⟨g, cap, cur, rfl, hb, hg, h1, h2, h3, h4⟩
  · omega
  · refine ⟨g, cap, rfl, hb, (Array.getElem?_eq_some_iff.1 hg).1, h1, by unfold maxLen at h2; omega, h.2 g rfl, fun j hj => ?_, fun j => frozen_of_row w g j cur _ hg⟩
    rw [cell_of_row w g j cur _ (0, 0) hg, ← h4, List.getElem?_take, if_pos (by omega)]
    simp
end Go.Proofs.Ytgbgjljflgbcaaa

namespace Go.Proofs.Ytgbgjljflgbcaaa
open Go.RowKit
set_option linter.unusedSimpArgs false
set_option linter.unusedVariables false
end Go.Proofs.Ytgbgjljflgbcaaa

namespace Go.Proofs.Ytgbgjljflgbcaaa
open Go.RowKit
set_option linter.unusedSimpArgs false
set_option linter.unusedVariables false
def rest (p : Pr) (t : Ta) : Nat := if t.way = 0 then trAs (tr p 4) ((acts p t).drop t.pc.toNat) else if t.way = 1 then trAs (tr p 4) ((acts p t).drop (t.pc.toNat + 1)) else 0
def bud (p : Pr) (s : Sy) : Nat := (s.tasks.map fun t => 1 + rest p t).sum
def pcs (s : Sy) : Nat := (s.tasks.map fun t => t.pc.toNat).sum
end Go.Proofs.Ytgbgjljflgbcaaa

namespace Go.Proofs.Ytgbgjljflgbcaaa
open Go.RowKit
set_option linter.unusedSimpArgs false
set_option linter.unusedVariables false
structure NvT (p : Pr) (t : Ta) : Prop where
  pc : t.way = 1 → t.pc < (acts p t).length
  st : t.way ≠ 0 → t.stage = 0
def Nv (p : Pr) (s : Sy) : Prop := ∀ i, i < s.tasks.length → NvT p (tkN s i)
structure Bd (p : Pr) (s : Sy) : Prop where
  b : bud p s ≤ 7
  l : s.log.length ≤ pcs s
structure Inv (p : Pr) (s : Sy) : Prop where
  np : Np p s
  nv : Nv p s
  bd : Bd p s
theorem Bd.n7 {p : Pr} {s : Sy} (h : Bd p s) : s.tasks.length ≤ 7 := by
  have : ∀ l : List Ta, l.length ≤ (l.map fun t => 1 + rest p t).sum := by
    intro l
    induction l with
    | nil => simp
    | cons a l ih => simp only [List.length_cons, List.map_cons, List.sum_cons]; omega
  exact Nat.le_trans (this _) h.b
theorem Np.l28 {p : Pr} {s : Sy} (h : Np p s) (hb : Bd p s) : s.log.length ≤ 28 := by
  have h7 := hb.n7
  have h4 : ∀ t, t ∈ s.tasks → t.pc.toNat ≤ 4 := by
    intro t ht
    obtain ⟨i, hi, e⟩ := List.getElem_of_mem ht
    have hT := h.t i hi
    have e' : tkN s i = t := by rw [← e]; exact nth_eq Ta.z s.tasks i hi
    rw [e'] at hT
    have h1 := hT.pc
    have h2 := hT.body
    have hf := h.ok
    simp only [okB, foB, Bool.and_eq_true, List.all_eq_true, List.mem_range] at hf
    have := hf.1.2 t.body.toNat (by omega)
    simp only [boB, Bool.and_eq_true, decide_eq_true_eq] at this
    unfold acts at h1
    omega
  have : ∀ l : List Ta, (∀ t, t ∈ l → t.pc.toNat ≤ 4) → (l.map fun t => t.pc.toNat).sum ≤ 4 * l.length := by
    intro l
    induction l with
    | nil => simp
    | cons a l ih =>
      intro h
      have h1 := h a (by simp)
      have h2 := ih (fun t ht => h t (by simp [ht]))
      simp only [List.length_cons, List.map_cons, List.sum_cons]; omega
  have := this _ h4
  have := hb.l
  unfold pcs at this
  omega
end Go.Proofs.Ytgbgjljflgbcaaa

namespace Go.Proofs.Ytgbgjljflgbcaaa
open Go.RowKit
set_option linter.unusedSimpArgs false
set_option linter.unusedVariables false
set_option maxRecDepth 20000
def newTa (body up : Int) : Ta := ⟨body, 0, up, [0, 0, 0], 0, 0, 0, 0, [0, 0, 0], [], [], 0, 0⟩
def newS (p : Pr) : Sy := if okB p then ⟨p.cells.map fun n => ⟨n, 0, -1⟩, [newTa 0 (-1)], 0, []⟩ else ⟨[], [], 0, []⟩
def Zero3 (w : World) (g : Nat) : Prop := w.heap[g]? = some (.cells #[.int .i64 0, .int .i64 0, .int .i64 0] 3)
theorem heap_top (w : World) (o : Obj) : (w.alloc o).heap[w.heap.size]? = some o := by
  show (w.heap.push o)[w.heap.size]? = some o
  simp
theorem zero_two (w : World) (A : Obj) : Zero3 (((w.alloc A).alloc (.cells #[.int .i64 0, .int .i64 0, .int .i64 0] 3)).alloc (.cells #[.int .i64 0, .int .i64 0, .int .i64 0] 3)).drew (w.heap.size + 1) ∧ Zero3 (((w.alloc A).alloc (.cells #[.int .i64 0, .int .i64 0, .int .i64 0] 3)).alloc (.cells #[.int .i64 0, .int .i64 0, .int .i64 0] 3)).drew (w.heap.size + 1 + 1) := by
  have e1 : (w.alloc A).heap.size = w.heap.size + 1 := by simp
  have e2 : ((w.alloc A).alloc (.cells #[.int .i64 0, .int .i64 0, .int .i64 0] 3)).heap.size = w.heap.size + 1 + 1 := by simp
  have h1 := heap_top (w.alloc A) (.cells #[.int .i64 0, .int .i64 0, .int .i64 0] 3)
  have h2 := heap_top ((w.alloc A).alloc (.cells #[.int .i64 0, .int .i64 0, .int .i64 0] 3)) (.cells #[.int .i64 0, .int .i64 0, .int .i64 0] 3)
  rw [e1] at h1
  rw [e2] at h2
  exact ⟨((((Below.refl (w.heap.size + 1 + 1) ((w.alloc A).alloc (.cells #[.int .i64 0, .int .i64 0, .int .i64 0] 3))).alloc (by simp) (.cells #[.int .i64 0, .int .i64 0, .int .i64 0] 3)).drew).block (w.heap.size + 1) (by omega)).trans h1, h2⟩
theorem mk3 (W : World) : Sem.run Try.prog (Instr.makeSlice 23 (.int .i64 3) (.int .i64 3)) W = .ok (.slice (some ⟨W.heap.size, 0, none⟩) 3 3) (W.alloc (.cells #[.int .i64 0, .int .i64 0, .int .i64 0] 3)) := by
  first | kernel_rfl | rfl
set_option maxHeartbeats 1000000 in
theorem newTask_any (body up : Int) (w : World) :
    Calls Try.prog 36 #[.int .i64 body, .int .i64 up] w fun r w' => ∃ g1 g2, r = .returned (.agg #[.int .i64 body, .int .i64 0, .int .i64 up, .slice (some ⟨g1, 0, none⟩) 3 3, .int .i64 0, .int .i64 0, .int .i64 0, .int .i64 0, .slice (some ⟨g2, 0, none⟩) 3 3, .slice none 0 0, .slice none 0 0, .int .i64 0, .int .i64 0]) ∧ w.heap.size ≤ g1 ∧ w.heap.size ≤ g2 ∧ g1 ≠ g2 ∧ Zero3 w' g1 ∧ Zero3 w' g2 ∧ Below w.heap.size w w' := by
  have hmk := mk3
  go_enter Try.func36, Try.ntmps36
  go_wp2_with fail
  go_region
  all_goals
    go_wp2_with fail
    first
      | (refine bodyPost_ret (v := .agg #[.int .i64 body, .int .i64 0, .int .i64 up, .slice (some ⟨w.heap.size + 1, 0, none⟩) 3 3, .int .i64 0, .int .i64 0, .int .i64 0, .int .i64 0, .slice (some ⟨w.heap.size + 1 + 1, 0, none⟩) 3 3, .slice none 0 0, .slice none 0 0, .int .i64 0, .int .i64 0]) ?hr rfl ⟨_, _, rfl, by omega, by omega, by omega, (zero_two w _).1, (zero_two w _).2, (by repeat (first | with_reducible exact Below.refl _ _ | (with_reducible refine Below.setCell ?_ ?hs _; case hs => ((try simp); try omega)) | (with_reducible refine Below.alloc ?_ ?hs _; case hs => ((try simp); try omega)) | with_reducible refine Below.drew ?_))⟩; case hr => (simp [results, Try.results36, go_sem]; done))
      | (refine bodyPost_ret (v := .agg #[.int .i64 body, .int .i64 0, .int .i64 up, .slice (some ⟨w.heap.size + 1 + 1, 0, none⟩) 3 3, .int .i64 0, .int .i64 0, .int .i64 0, .int .i64 0, .slice (some ⟨w.heap.size + 1, 0, none⟩) 3 3, .slice none 0 0, .slice none 0 0, .int .i64 0, .int .i64 0]) ?hr rfl ⟨_, _, rfl, by omega, by omega, by omega, (zero_two w _).2, (zero_two w _).1, (by repeat (first | with_reducible exact Below.refl _ _ | (with_reducible refine Below.setCell ?_ ?hs _; case hs => ((try simp); try omega)) | (with_reducible refine Below.alloc ?_ ?hs _; case hs => ((try simp); try omega)) | with_reducible refine Below.drew ?_))⟩; case hr => (simp [results, Try.results36, go_sem]; done))
end Go.Proofs.Ytgbgjljflgbcaaa

namespace Go.Proofs.Ytgbgjljflgbcaaa
open Go.RowKit
set_option linter.unusedSimpArgs false
set_option linter.unusedVariables false
section
variable {P : Program} {ops : Array Oper} {Q : Exit → Act → World → Prop} {md : Region.Mode} {S : World → Prop} {z : Nat}
def Shutdown (md : Region.Mode) (ops : Array Oper) (d : Array Bool) : Prop :=
  ∀ j oj, ops[j]? = some oj → d.getD j false = true → ∀ e, e ∈ oj.after → Region.binds md e = true → d.getD e.on false = true
def waitedFor (md : Region.Mode) (ops : Array Oper) (z : Nat) : Bool :=
  (List.range ops.size).all fun i => i == z || (List.range ops.size).any fun m => decide (i < m) && match ops[m]? with
    | some o => o.after.any fun e => Region.binds md e && e.on == i
    | none => false
def shutB (md : Region.Mode) (ops : Array Oper) (d : Array Bool) : Bool :=
  (List.range ops.size).all fun j => !(d.getD j false) || match ops[j]? with
    | some o => o.after.all fun e => !(Region.binds md e) || d.getD e.on false
    | none => true
theorem shutB_spec {d : Array Bool} (h : shutB md ops d = true) : Shutdown md ops d := fun j oj hj hd e he hb => by
  have hlt : j < ops.size := (Array.getElem?_eq_some_iff.1 hj).1
  have h1 := List.all_eq_true.1 h j (List.mem_range.2 hlt)
  rw [hj, hd] at h1
  simp only [Bool.not_true, Bool.false_or] at h1
  have h2 := Array.all_eq_true'.1 h1 e he
  simpa [hb] using h2
theorem getD_set_same {d : Array Bool} {i : Nat} (h : d.getD i true = false) (b : Bool) : (d.setIfInBounds i true).getD i b = true := by
  have hlt : i < d.size := by
    rcases Nat.lt_or_ge i d.size with h1 | h1
    · exact h1
    · rw [Array.getD_eq_getD_getElem?, Array.getElem?_eq_none h1] at h; cases h
  simp [hlt]
theorem Shutdown.set {d : Array Bool} {i : Nat} (h : Shutdown md ops d) (hi : i ∈ Region.ready md ops d) : Shutdown md ops (d.setIfInBounds i true) := fun j oj hj hd e he hb => by
  obtain ⟨h0, o, ho, hall⟩ := mem_ready.1 hi
  have up : d.getD e.on false = true → (d.setIfInBounds i true).getD e.on false = true := fun h1 => by
    by_cases hie : i = e.on
    · rw [← hie]; exact getD_set_same h0 _
    · rw [getD_set_ne false hie]; exact h1
  by_cases hij : i = j
  · subst hij
    rw [ho] at hj
    injection hj with hj
    subst hj
    exact up (hall e he hb)
  · rw [getD_set_ne false hij] at hd
    exact up (h j oj hj hd e he hb)
theorem last_of_ready {d : Array Bool} (hz : waitedFor md ops z = true) (hd : Shutdown md ops d) (hr : z ∈ Region.ready md ops d) : ∀ (n i : Nat), ops.size - i ≤ n → i < ops.size → i ≠ z → d.getD i false = true := by
  intro n
  induction n with
  | zero => intro i h1 h2; omega
  | succ n ih =>
    intro i h1 h2 hne
    have h3 := List.all_eq_true.1 hz i (List.mem_range.2 h2)
    have hb : (i == z) = false := by simpa using hne
    rw [hb, Bool.false_or] at h3
    obtain ⟨m, hm, h4⟩ := List.any_eq_true.1 h3
    have hml := List.mem_range.1 hm
    obtain ⟨om, hom⟩ : ∃ o, ops[m]? = some o := ⟨ops[m], by simp [hml]⟩
    rw [hom] at h4
    simp only [Bool.and_eq_true, decide_eq_true_eq] at h4
    obtain ⟨hlt, h5⟩ := h4
    obtain ⟨k, hk, h6⟩ := Array.any_eq_true.1 h5
    simp only [Bool.and_eq_true, beq_iff_eq] at h6
    have hmem : om.after[k] ∈ om.after := Array.getElem_mem hk
    by_cases hmz : m = z
    · subst hmz
      obtain ⟨_, o, ho, hall⟩ := mem_ready.1 hr
      rw [hom] at ho
      injection ho with ho
      subst ho
      have := hall _ hmem h6.1
      rwa [h6.2] at this
    · have hdm := ih m (by omega) hml hmz
      have := hd m om hom hdm _ hmem h6.1
      rwa [h6.2] at this
def AnyTill (P : Program) (md : Region.Mode) (ops : Array Oper) (Q : Exit → Act → World → Prop) (S : World → Prop) (z : Nat) : Nat → Array Bool → Act → World → Prop
  | 0, d, a, w => Region.ready md ops d = [] ∧ Q .normal a w
  | k + 1, d, a, w => (Region.ready md ops d = [] → Q .normal a w) ∧
    ∀ i, i ∈ Region.ready md ops d → wpOp P ops Q i (fun a' w' => (i ≠ z → S w') ∧ AnyTill P md ops Q S z k (d.setIfInBounds i true) a' w') a w
theorem AnyTill.any : ∀ (k : Nat) (d : Array Bool) (a : Act) (w : World), AnyTill P md ops Q S z k d a w → wpAny P md ops Q k d a w := by
  intro k
  induction k with
  | zero => exact fun d a w h => h
  | succ k ih => exact fun d a w h => ⟨h.1, fun i hi => wpOp_mono (fun a' w' h' => ih _ a' w' h'.2) (h.2 i hi)⟩
theorem AnyTill.ahead {i : Nat} {o : Oper} {v : Value} (hi : ops[i]? = some o) (hiz : i ≠ z) (hz : waitedFor md ops z = true) (hs : Region.noSelect ops = true) (hQ : ∀ c a w, Q (.panic c) (a.put o.dst v) w → Q (.panic c) a w) :
    ∀ (k : Nat) (d : Array Bool) (a : Act) (w : World), Shutdown md ops d → (∀ j oj, ops[j]? = some oj → j ≠ i → d.getD j true = false → (∀ e ∈ oj.after, Region.binds md e = true → e.on ≠ i) → o.apart ops oj = true) →
      i ∈ Region.ready md ops d → YieldsIf P ops S o v a → S w → AnyTill P md ops Q S z k (d.setIfInBounds i true) (a.put o.dst v) w → AnyTill P md ops Q S z (k + 1) d a w := by
  have hsel := Region.noSelect_spec hs
  have here : ∀ (k : Nat) (d : Array Bool) (a : Act) (w : World), YieldsIf P ops S o v a → S w → AnyTill P md ops Q S z k (d.setIfInBounds i true) (a.put o.dst v) w →
      wpOp P ops Q i (fun a' w' => (i ≠ z → S w') ∧ AnyTill P md ops Q S z k (d.setIfInBounds i true) a' w') a w := fun k d a w hy hS H => hy.wpOp hi hS ⟨fun _ => hS, H⟩
  intro k
  induction k with
  | zero =>
    intro d a w _ _ hr hy hS H
    refine ⟨fun h0 => absurd hr (by rw [h0]; exact List.not_mem_nil), fun j hj => ?_⟩
    rcases Decidable.em (j = i) with rfl | hji
    · exact here 0 d a w hy hS H
    · have hm := ready_mono hj hji
      rw [H.1] at hm
      exact absurd hm List.not_mem_nil
  | succ k ih =>
    intro d a w hsd hfree hr hy hS H
    refine ⟨fun h0 => absurd hr (by rw [h0]; exact List.not_mem_nil), fun j hj => ?_⟩
    rcases Decidable.em (j = i) with rfl | hji
    · exact here (k + 1) d a w hy hS H
    · obtain ⟨hdj, oj, hoj, hall⟩ := mem_ready.1 hj
      obtain ⟨hdi, oi', hoi', _⟩ := mem_ready.1 hr
      have hun : d.getD i false = true → False := fun h1 => by
        have hlt : i < d.size := by
          rcases Nat.lt_or_ge i d.size with h2 | h2
          · exact h2
          · rw [Array.getD_eq_getD_getElem?, Array.getElem?_eq_none h2] at h1; cases h1
        simp [hlt] at hdi h1
        rw [hdi] at h1; cases h1
      have hno : ∀ e ∈ oj.after, Region.binds md e = true → e.on ≠ i := fun e he hb heq => by
        have h1 := hall e he hb
        rw [heq] at h1
        exact hun h1
      have hjz : j ≠ z := fun e => by
        subst e
        exact hun (last_of_ready hz hsd hj ops.size i (by omega) (Array.getElem?_eq_some_iff.1 hi).1 hiz)
      have step := wpOp_putIf hoj (hfree j oj hoj hji hdj hno) (fun cs b => hsel i o cs b hi) (fun cs b => hsel j oj cs b hoj) hQ hy (H.2 j (ready_mono hj hji))
      have hri := ready_mono hr (Ne.symm hji)
      refine wpOp_mono (fun a' w' h3 => ?_) step
      obtain ⟨hy', hS', H'⟩ := h3
      rw [Array.setIfInBounds_comm _ _ (Ne.symm hji)] at H'
      refine ⟨hS', ih _ a' w' (hsd.set hj) (fun k' ok hk hki hun' hno' => ?_) hri hy' (hS' hjz) H'⟩
      refine hfree k' ok hk hki ?_ hno'
      rcases Decidable.em (j = k') with rfl | hjk
      · exact hdj
      · rw [getD_set_ne true hjk] at hun'; exact hun'
theorem till_begin {id : Nat} {a : Act} {w : World} (hm : P.follows .mixedOrders = true) (h : AnyTill P .any ops Q S z ops.size (Array.replicate ops.size false) a w.drew) : (Code.region id ops true).wp P Q a w :=
  wp_region_any hm (AnyTill.any _ _ _ _ h)
theorem till_take {i : Nat} {o : Oper} {v : Value} {k : Nat} {d : Array Bool} {a : Act} {w : World} (hi : ops[i]? = some o) (hiz : (i != z && waitedFor md ops z && Region.noSelect ops && shutB md ops d && Region.free md ops d i && (Region.ready md ops d).contains i) = true)
    (hQ : ∀ c a w, Q (.panic c) (a.put o.dst v) w → Q (.panic c) a w) (hw : Region.wanted o (yielded ops a.tmps) = true) (hy : ∀ w, S w → (execOp a.eval o).run P w = .ok (.value v) w) (hS : S w) (h : AnyTill P md ops Q S z k (d.setIfInBounds i true) (a.put o.dst v) w) : AnyTill P md ops Q S z (k + 1) d a w := by
  simp only [Bool.and_eq_true, bne_iff_ne, ne_eq] at hiz
  obtain ⟨⟨⟨⟨⟨h1, h2⟩, h3⟩, h4⟩, h5⟩, h6⟩ := hiz
  exact AnyTill.ahead hi h1 h2 h3 hQ k d a w (shutB_spec h4) (Region.free_spec hi h5) (by simpa using h6) (.inl ⟨hw, hy⟩) hS h
theorem till_step {i : Nat} {o : Oper} {k : Nat} {d : Array Bool} {a : Act} {w : World} (hi : ops[i]? = some o) (hr : Region.ready md ops d = [i]) 
    (h : ∀ K : Act → World → Prop, Hid (∀ a w, (i ≠ z → S w) → AnyTill P md ops Q S z k (d.setIfInBounds i true) a w → K a w) → if Region.wanted o (yielded ops a.tmps) = true then Oper.wp P o a w K Q else K (a.put o.dst undef) w) : AnyTill P md ops Q S z (k + 1) d a w := by
  refine ⟨fun h0 => (by rw [hr] at h0; cases h0), fun j hj => ?_⟩
  rw [hr] at hj
  rcases List.mem_singleton.1 hj with rfl
  exact wpOp_step hi fun K hK => h K (fun a w h1 h2 => hK a w ⟨h1, h2⟩)
theorem till_done {d : Array Bool} {a : Act} {w : World} (hr : Region.ready md ops d = []) (h : Q .normal a w) : ∀ k, AnyTill P md ops Q S z k d a w
  | 0 => ⟨hr, h⟩
  | _ + 1 => ⟨fun _ => h, by rw [hr]; simp⟩
theorem till_two {i j : Nat} {o o' : Oper} {k : Nat} {d : Array Bool} {a : Act} {w : World} (hi : ops[i]? = some o) (hj : ops[j]? = some o') (hr : Region.ready md ops d = [i, j])
    (h : ∀ K : Act → World → Prop, Hid (∀ a w, (i ≠ z → S w) → AnyTill P md ops Q S z k (d.setIfInBounds i true) a w → K a w) → if Region.wanted o (yielded ops a.tmps) = true then Oper.wp P o a w K Q else K (a.put o.dst undef) w)
    (h' : ∀ K : Act → World → Prop, Hid (∀ a w, (j ≠ z → S w) → AnyTill P md ops Q S z k (d.setIfInBounds j true) a w → K a w) → if Region.wanted o' (yielded ops a.tmps) = true then Oper.wp P o' a w K Q else K (a.put o'.dst undef) w) : AnyTill P md ops Q S z (k + 1) d a w := by
  refine ⟨fun h0 => (by rw [hr] at h0; cases h0), fun l hl => ?_⟩
  rw [hr] at hl
  simp only [List.mem_cons, List.not_mem_nil, or_false] at hl
  rcases hl with rfl | rfl
  · exact wpOp_step hi fun K hK => h K (fun a w h1 h2 => hK a w ⟨h1, h2⟩)
  · exact wpOp_step hj fun K hK => h' K (fun a w h1 h2 => hK a w ⟨h1, h2⟩)
end
end Go.Proofs.Ytgbgjljflgbcaaa
