import Derived.Test.YtgbgjljflgbcaaaXn22
import Derived.Test.YtgbgjljflgbcaaaXn23
import Derived.Test.YtgbgjljflgbcaaaXn24
namespace Go.Proofs.Ytgbgjljflgbcaaa
open Go.RowKit
set_option linter.unusedSimpArgs false
set_option linter.unusedVariables false
set_option maxRecDepth 20000
def taskAgg (x : TT) : Value := .agg (taC x).toArray
def fset (f : Nat → Key) (g : Nat) (κ : Key) : Nat → Key := fun k => if k = g then κ else f k
theorem fset_old {f : Nat → Key} {g k : Nat} {κ : Key} (h : k < g) : fset f g κ k = f k := by unfold fset; rw [if_neg (by omega)]
theorem fset_new (f : Nat → Key) (g : Nat) (κ : Key) : fset f g κ g = κ := by unfold fset; rw [if_pos rfl]
theorem Row.older {f f' : Nat → Key} {κ : Key} {B C : Nat} {w w' : World} {e : TypeId} {size : Nat} {v : Value} {n : Nat} {xs : List Value} (h : Row f κ B w e size v n xs) (hf : ∀ g, g < w.heap.size → f' g = f g) (hb : Below C w w') (hC : w.heap.size ≤ C) : Row f' κ B w' e size v n xs :=
  h.move (fun g _ a e => (hf g a).trans e) fun g _ a _ => hb.block g (by omega)
theorem iR_three (f : Nat → Key) (κ : Key) (B : Nat) (w : World) (hB : B ≤ w.heap.size) : iR (fset f w.heap.size κ) κ B (w.alloc (.cells #[.int .i64 0, .int .i64 0, .int .i64 0] 3)) (.slice (some ⟨w.heap.size, 0, none⟩) 3 3) [0, 0, 0] :=
  ⟨⟨rfl, .inr ⟨w.heap.size, 3, #[.int .i64 0, .int .i64 0, .int .i64 0], rfl, hB, heap_top w _, by simp, by unfold maxLen; omega, rfl, rfl⟩⟩, fun g hg => by
    injection hg with hg; subst hg; exact fset_new _ _ _⟩
theorem pR_none (f : Nat → Key) (κ : Key) (B : Nat) (w : World) (hB : B ≤ w.heap.size) : pR (fset f w.heap.size κ) κ B (w.alloc (.cells #[] 52)) (.slice (some ⟨w.heap.size, 0, none⟩) 0 0) [] :=
  ⟨⟨rfl, .inr ⟨w.heap.size, 0, #[], rfl, hB, heap_top w _, by simp, by unfold maxLen; omega, rfl, rfl⟩⟩, fun g hg => by
    injection hg with hg; subst hg; exact fset_new _ _ _⟩
theorem Row.base {f : Nat → Key} {κ : Key} {B B' : Nat} {w : World} {e : TypeId} {size : Nat} {v : Value} {n : Nat} {xs : List Value} (h : Row f κ B w e size v n xs) (hB : B' ≤ B) : Row f κ B' w e size v n xs := ⟨own_base h.1 hB, h.2⟩
theorem TIn.base {f : Nat → Key} {B B' : Nat} {w : World} {i : Nat} {x : TT} (h : TIn f B w i x) (hB : B' ≤ B) : TIn f B' w i x := ⟨Row.base h.r hB, Row.base h.o hB, Row.base h.d hB, Row.base h.u hB⟩
def tkOps : Array Oper := #[{ dst := some 5, op := Op.move (Operand.tmp 0), type := 3, pos := "l11_sys.go:13", after := #[], guard := none },
  { dst := some 6, op := Op.move (Operand.tmp 1), type := 3, pos := "l11_sys.go:13", after := #[], guard := none },
  { dst := some 7, op := Op.makeSlice 23 (Operand.const (Value.int IntKind.i64 3)) (Operand.const (Value.int IntKind.i64 3)), type := 23, pos := "l11_sys.go:13", after := #[], guard := none },
  { dst := some 8, op := Op.makeSlice 23 (Operand.const (Value.int IntKind.i64 3)) (Operand.const (Value.int IntKind.i64 3)), type := 23, pos := "l11_sys.go:13", after := #[], guard := none },
  { dst := some 9, op := Op.buildSlice 53 0 #[], type := 53, pos := "l11_sys.go:13", after := #[], guard := none },
  { dst := some 10, op := Op.buildSlice 53 0 #[], type := 53, pos := "l11_sys.go:13", after := #[], guard := none },
  { dst := some 11, op := Op.build 70 #[(0, Operand.tmp 5), (2, Operand.tmp 6), (3, Operand.tmp 7), (8, Operand.tmp 8), (9, Operand.tmp 9), (10, Operand.tmp 10)], type := 70, pos := "l11_sys.go:13",
    after := #[{ on := 0, ground := Ground.data }, { on := 1, ground := Ground.data }, { on := 2, ground := Ground.data }, { on := 3, ground := Ground.data }, { on := 4, ground := Ground.data }, { on := 5, ground := Ground.data }], guard := none },
  { dst := none, op := Op.store 70 (Operand.tmp 4) (Operand.tmp 11), type := 0, pos := "l11_sys.go:13",
    after := #[{ on := 6, ground := Ground.data }, { on := 0, ground := Ground.phase }, { on := 1, ground := Ground.phase }, { on := 2, ground := Ground.phase }, { on := 3, ground := Ground.phase }, { on := 4, ground := Ground.phase }, { on := 5, ground := Ground.phase }, { on := 6, ground := Ground.phase }], guard := none }]
def tkA (b u q x7 x8 x9 x10 : Value) : Act := { tmps := #[b, u, undef, undef, q, b, u, x7, x8, x9, x10, undef], defers := [] }
def tkD (b7 b8 b9 b10 : Bool) : Array Bool := #[true, true, b7, b8, b9, b10, false, false]
theorem tk_ready (b7 b8 b9 b10 : Bool) : Region.ready .any tkOps (tkD b7 b8 b9 b10) = (if b7 then [] else [2]) ++ (if b8 then [] else [3]) ++ (if b9 then [] else [4]) ++ (if b10 then [] else [5]) ++ (if b7 && b8 && b9 && b10 then [6] else []) := by
  cases b7 <;> cases b8 <;> cases b9 <;> cases b10 <;> kernel_rfl
def cnt4 (b7 b8 b9 b10 : Bool) : Nat := (if b7 then 0 else 1) + (if b8 then 0 else 1) + (if b9 then 0 else 1) + (if b10 then 0 else 1)
structure MI (f0 : Nat → Key) (w0 : World) (i B : Nat) (b7 b8 b9 b10 : Bool) (f : Nat → Key) (x7 x8 x9 x10 : Value) (w : World) : Prop where
  old : ∀ g, g < w0.heap.size → f g = f0 g
  m7 : b7 = true → iR f (.r i) B w x7 [0, 0, 0]
  m8 : b8 = true → iR f (.o i) B w x8 [0, 0, 0]
  m9 : b9 = true → pR f (.d i) B w x9 []
  m10 : b10 = true → pR f (.u i) B w x10 []
  n7 : b7 = false → x7 = undef
  n8 : b8 = false → x8 = undef
  n9 : b9 = false → x9 = undef
  n10 : b10 = false → x10 = undef
  bel : Below w0.heap.size w0 w
theorem MI.s7 {f0 : Nat → Key} {w0 : World} {i B : Nat} {b7 b8 b9 b10 : Bool} {f : Nat → Key} {x7 x8 x9 x10 : Value} {w : World} (h : MI f0 w0 i B b7 b8 b9 b10 f x7 x8 x9 x10 w) (hB : B ≤ w0.heap.size) : MI f0 w0 i B true b8 b9 b10 (fset f w.heap.size (.r i)) (.slice (some ⟨w.heap.size, 0, none⟩) 3 3) x8 x9 x10 (w.alloc (.cells #[.int .i64 0, .int .i64 0, .int .i64 0] 3)) := by
  have hs := h.bel.size
  have hb : Below w.heap.size w (w.alloc (.cells #[.int .i64 0, .int .i64 0, .int .i64 0] 3)) := (Below.refl _ _).alloc (Nat.le_refl _) _
  have ho : ∀ g, g < w.heap.size → fset f w.heap.size (.r i) g = f g := fun g hg => fset_old hg
  refine ⟨fun g hg => (ho g (by omega)).trans (h.old g hg), fun _ => iR_three f (.r i) B w (by omega), fun e => (h.m8 e).older ho hb (Nat.le_refl _), fun e => (h.m9 e).older ho hb (Nat.le_refl _), fun e => (h.m10 e).older ho hb (Nat.le_refl _), fun e => (by cases e), h.n8, h.n9, h.n10, h.bel.alloc hs _⟩
theorem MI.s8 {f0 : Nat → Key} {w0 : World} {i B : Nat} {b7 b8 b9 b10 : Bool} {f : Nat → Key} {x7 x8 x9 x10 : Value} {w : World} (h : MI f0 w0 i B b7 b8 b9 b10 f x7 x8 x9 x10 w) (hB : B ≤ w0.heap.size) : MI f0 w0 i B b7 true b9 b10 (fset f w.heap.size (.o i)) x7 (.slice (some ⟨w.heap.size, 0, none⟩) 3 3) x9 x10 (w.alloc (.cells #[.int .i64 0, .int .i64 0, .int .i64 0] 3)) := by
  have hs := h.bel.size
  have hb : Below w.heap.size w (w.alloc (.cells #[.int .i64 0, .int .i64 0, .int .i64 0] 3)) := (Below.refl _ _).alloc (Nat.le_refl _) _
  have ho : ∀ g, g < w.heap.size → fset f w.heap.size (.o i) g = f g := fun g hg => fset_old hg
  refine ⟨fun g hg => (ho g (by omega)).trans (h.old g hg), fun e => (h.m7 e).older ho hb (Nat.le_refl _), fun _ => iR_three f (.o i) B w (by omega), fun e => (h.m9 e).older ho hb (Nat.le_refl _), fun e => (h.m10 e).older ho hb (Nat.le_refl _), h.n7, fun e => (by cases e), h.n9, h.n10, h.bel.alloc hs _⟩
theorem MI.s9 {f0 : Nat → Key} {w0 : World} {i B : Nat} {b7 b8 b9 b10 : Bool} {f : Nat → Key} {x7 x8 x9 x10 : Value} {w : World} (h : MI f0 w0 i B b7 b8 b9 b10 f x7 x8 x9 x10 w) (hB : B ≤ w0.heap.size) : MI f0 w0 i B b7 b8 true b10 (fset f w.heap.size (.d i)) x7 x8 (.slice (some ⟨w.heap.size, 0, none⟩) 0 0) x10 (w.alloc (.cells #[] 52)) := by
  have hs := h.bel.size
  have hb : Below w.heap.size w (w.alloc (.cells #[] 52)) := (Below.refl _ _).alloc (Nat.le_refl _) _
  have ho : ∀ g, g < w.heap.size → fset f w.heap.size (.d i) g = f g := fun g hg => fset_old hg
  refine ⟨fun g hg => (ho g (by omega)).trans (h.old g hg), fun e => (h.m7 e).older ho hb (Nat.le_refl _), fun e => (h.m8 e).older ho hb (Nat.le_refl _), fun _ => pR_none f (.d i) B w (by omega), fun e => (h.m10 e).older ho hb (Nat.le_refl _), h.n7, h.n8, fun e => (by cases e), h.n10, h.bel.alloc hs _⟩
theorem MI.s10 {f0 : Nat → Key} {w0 : World} {i B : Nat} {b7 b8 b9 b10 : Bool} {f : Nat → Key} {x7 x8 x9 x10 : Value} {w : World} (h : MI f0 w0 i B b7 b8 b9 b10 f x7 x8 x9 x10 w) (hB : B ≤ w0.heap.size) : MI f0 w0 i B b7 b8 b9 true (fset f w.heap.size (.u i)) x7 x8 x9 (.slice (some ⟨w.heap.size, 0, none⟩) 0 0) (w.alloc (.cells #[] 52)) := by
  have hs := h.bel.size
  have hb : Below w.heap.size w (w.alloc (.cells #[] 52)) := (Below.refl _ _).alloc (Nat.le_refl _) _
  have ho : ∀ g, g < w.heap.size → fset f w.heap.size (.u i) g = f g := fun g hg => fset_old hg
  refine ⟨fun g hg => (ho g (by omega)).trans (h.old g hg), fun e => (h.m7 e).older ho hb (Nat.le_refl _), fun e => (h.m8 e).older ho hb (Nat.le_refl _), fun e => (h.m9 e).older ho hb (Nat.le_refl _), fun _ => pR_none f (.u i) B w (by omega), h.n7, h.n8, h.n9, fun e => (by cases e), h.bel.alloc hs _⟩
set_option maxHeartbeats 1000000 in
theorem mk4 (Q : Exit → Act → World → Prop) (vb vu vq : Value) (f0 : Nat → Key) (w0 : World) (i B : Nat) (hB : B ≤ w0.heap.size)
    (hQ : ∀ f x7 x8 x9 x10 w, MI f0 w0 i B true true true true f x7 x8 x9 x10 w → AnyTill Try.prog .any tkOps Q (fun _ => True) 7 2 (tkD true true true true) (tkA vb vu vq x7 x8 x9 x10) w) :
    ∀ n b7 b8 b9 b10, cnt4 b7 b8 b9 b10 = n → ∀ f x7 x8 x9 x10 w, MI f0 w0 i B b7 b8 b9 b10 f x7 x8 x9 x10 w → AnyTill Try.prog .any tkOps Q (fun _ => True) 7 (n + 2) (tkD b7 b8 b9 b10) (tkA vb vu vq x7 x8 x9 x10) w := by
  have hmk := mk3
  intro n
  induction n with
  | zero =>
    intro b7 b8 b9 b10 hc f x7 x8 x9 x10 w h
    have : b7 = true ∧ b8 = true ∧ b9 = true ∧ b10 = true := by revert hc; cases b7 <;> cases b8 <;> cases b9 <;> cases b10 <;> decide
    obtain ⟨rfl, rfl, rfl, rfl⟩ := this
    exact hQ f x7 x8 x9 x10 w h
  | succ n ih =>
    intro b7 b8 b9 b10 hc f x7 x8 x9 x10 w h
    have hr := tk_ready b7 b8 b9 b10
    have hall : (b7 && b8 && b9 && b10) = false := by revert hc; cases b7 <;> cases b8 <;> cases b9 <;> cases b10 <;> simp [cnt4]
    rw [hall] at hr
    simp only [Bool.false_eq_true, if_false, List.append_nil] at hr
    refine ⟨fun h0 => ?_, fun j hj => ?_⟩
    · exfalso
      rw [hr] at h0
      revert h0 hall; cases b7 <;> cases b8 <;> cases b9 <;> cases b10 <;> simp
    · have hw : (j = 2 ∧ b7 = false) ∨ (j = 3 ∧ b8 = false) ∨ (j = 4 ∧ b9 = false) ∨ (j = 5 ∧ b10 = false) := by
        rw [hr] at hj
        revert hj; cases b7 <;> cases b8 <;> cases b9 <;> cases b10 <;> simp <;> omega
      rcases hw with ⟨rfl, rfl⟩ | ⟨rfl, rfl⟩ | ⟨rfl, rfl⟩ | ⟨rfl, rfl⟩
      · have hc' : cnt4 true b8 b9 b10 = n := by simp [cnt4] at hc ⊢; omega
        have H := ih true b8 b9 b10 hc' _ _ _ _ _ _ (h.s7 hB)
        have e := h.n7 rfl
        subst e
        clear ih
        refine wpOp_step (show tkOps[2]? = some ({ dst := some 7, op := Op.makeSlice 23 (Operand.const (Value.int IntKind.i64 3)) (Operand.const (Value.int IntKind.i64 3)), type := 23, pos := "l11_sys.go:13", after := #[], guard := none }) from rfl) fun K hK => ?_
        go_simp
        exact hK _ _ ⟨fun _ => trivial, H⟩
      · have hc' : cnt4 b7 true b9 b10 = n := by simp [cnt4] at hc ⊢; omega
        have H := ih b7 true b9 b10 hc' _ _ _ _ _ _ (h.s8 hB)
        have e := h.n8 rfl
        subst e
        clear ih
        refine wpOp_step (show tkOps[3]? = some ({ dst := some 8, op := Op.makeSlice 23 (Operand.const (Value.int IntKind.i64 3)) (Operand.const (Value.int IntKind.i64 3)), type := 23, pos := "l11_sys.go:13", after := #[], guard := none }) from rfl) fun K hK => ?_
        go_simp
        exact hK _ _ ⟨fun _ => trivial, H⟩
      · have hc' : cnt4 b7 b8 true b10 = n := by simp [cnt4] at hc ⊢; omega
        have H := ih b7 b8 true b10 hc' _ _ _ _ _ _ (h.s9 hB)
        have e := h.n9 rfl
        subst e
        clear ih
        refine wpOp_step (show tkOps[4]? = some ({ dst := some 9, op := Op.buildSlice 53 0 #[], type := 53, pos := "l11_sys.go:13", after := #[], guard := none }) from rfl) fun K hK => ?_
        go_simp
        exact hK _ _ ⟨fun _ => trivial, H⟩
      · have hc' : cnt4 b7 b8 b9 true = n := by simp [cnt4] at hc ⊢; omega
        have H := ih b7 b8 b9 true hc' _ _ _ _ _ _ (h.s10 hB)
        have e := h.n10 rfl
        subst e
        clear ih
        refine wpOp_step (show tkOps[5]? = some ({ dst := some 10, op := Op.buildSlice 53 0 #[], type := 53, pos := "l11_sys.go:13", after := #[], guard := none }) from rfl) fun K hK => ?_
        go_simp
        exact hK _ _ ⟨fun _ => trivial, H⟩
set_option maxHeartbeats 2000000 in
theorem l11Task_any (f0 : Nat → Key) (i B : Nat) (body up : Int) (w : World) (hB : B ≤ w.heap.size) :
    Calls Try.prog 34 #[.int .i64 body, .int .i64 up] w fun r w' => ∃ f V, r = .returned (taskAgg (newTa body up, V)) ∧ (∀ g, g < w.heap.size → f g = f0 g) ∧ TIn f B w' i (newTa body up, V) ∧ Below w.heap.size w w' := by
  go_enter Try.func34, Try.ntmps34
  go_wp2_with fail
  refine till_begin (S := fun _ => True) (z := 7) (by kernel_rfl) ?_
  refine till_take (i := 0) (v := .int .i64 body) rfl (by kernel_rfl) (fun _ _ _ h => h) (by rfl) (fun w _ => by go_simp) trivial ?_
  refine till_take (i := 1) (v := .int .i64 up) rfl (by kernel_rfl) (fun _ _ _ h => h) (by rfl) (fun w _ => by go_simp) trivial ?_
  simp only [Act.put, List.setIfInBounds_toArray, List.set_cons_zero, List.set_cons_succ]
  refine mk4 _ (.int .i64 body) (.int .i64 up) (.pointer (some ⟨w.heap.size, 0, none⟩)) f0 (w.alloc (.cells #[.int .i64 0, .int .i64 0, .int .i64 0, .slice none 0 0, .int .i64 0, .int .i64 0, .int .i64 0, .int .i64 0, .slice none 0 0, .slice none 0 0, .slice none 0 0, .int .i64 0, .int .i64 0] 70)).drew i (w.heap.size + 1) (by simp) ?_ 4 false false false false rfl f0 _ _ _ _ _ ⟨fun _ _ => rfl, fun e => (by cases e), fun e => (by cases e), fun e => (by cases e), fun e => (by cases e), fun _ => rfl, fun _ => rfl, fun _ => rfl, fun _ => rfl, Below.refl _ _⟩
  intro f x7 x8 x9 x10 w1 h
  have h7 := h.m7 rfl
  have h8 := h.m8 rfl
  have h9 := h.m9 rfl
  have h10 := h.m10 rfl
  obtain ⟨a7, c7, e7, _⟩ := own_shape h7.1
  simp only [List.length_cons, List.length_nil, Nat.zero_add, Nat.reduceAdd] at e7
  subst e7
  obtain ⟨a8, c8, e8, _⟩ := own_shape h8.1
  simp only [List.length_cons, List.length_nil, Nat.zero_add, Nat.reduceAdd] at e8
  subst e8
  obtain ⟨a9, c9, e9, _⟩ := own_shape h9.1
  simp only [List.length_cons, List.length_nil, Nat.zero_add, Nat.reduceAdd] at e9
  subst e9
  obtain ⟨a10, c10, e10, _⟩ := own_shape h10.1
  simp only [List.length_cons, List.length_nil, Nat.zero_add, Nat.reduceAdd] at e10
  subst e10
  have HT : Hid (TIn f (w.heap.size + 1) w1 i (newTa body up, ⟨_, _, _, _⟩)) := ⟨h7, h8, h9, h10⟩
  have HO : Hid (∀ g, g < w.heap.size → f g = f0 g) := fun g hg => h.old g (by simp; omega)
  have HB : Hid (Below w.heap.size w w1) := (((Below.refl _ _).alloc (Nat.le_refl _) _).drew).trans (h.bel.mono (by simp))
  have hbc : ∀ o, w1.cell? ⟨w.heap.size, o, none⟩ = (w.alloc (.cells #[.int .i64 0, .int .i64 0, .int .i64 0, .slice none 0 0, .int .i64 0, .int .i64 0, .int .i64 0, .int .i64 0, .slice none 0 0, .slice none 0 0, .slice none 0 0, .int .i64 0, .int .i64 0] 70)).cell? ⟨w.heap.size, o, none⟩ := fun o => h.bel.cell (p := ⟨w.heap.size, o, none⟩) (by simp)
  have e0 : w1.cell? ⟨w.heap.size, 0, none⟩ = some (.int .i64 0) := by rw [hbc]; simp
  have e1 : w1.cell? ⟨w.heap.size, 1, none⟩ = some (.int .i64 0) := by rw [hbc]; simp
  have e2 : w1.cell? ⟨w.heap.size, 2, none⟩ = some (.int .i64 0) := by rw [hbc]; simp
  have e3 : w1.cell? ⟨w.heap.size, 3, none⟩ = some (.slice none 0 0) := by rw [hbc]; simp
  have e4 : w1.cell? ⟨w.heap.size, 4, none⟩ = some (.int .i64 0) := by rw [hbc]; simp
  have e5 : w1.cell? ⟨w.heap.size, 5, none⟩ = some (.int .i64 0) := by rw [hbc]; simp
  have e6 : w1.cell? ⟨w.heap.size, 6, none⟩ = some (.int .i64 0) := by rw [hbc]; simp
  have e7 : w1.cell? ⟨w.heap.size, 7, none⟩ = some (.int .i64 0) := by rw [hbc]; simp
  have e8 : w1.cell? ⟨w.heap.size, 8, none⟩ = some (.slice none 0 0) := by rw [hbc]; simp
  have e9 : w1.cell? ⟨w.heap.size, 9, none⟩ = some (.slice none 0 0) := by rw [hbc]; simp
  have e10 : w1.cell? ⟨w.heap.size, 10, none⟩ = some (.slice none 0 0) := by rw [hbc]; simp
  have e11 : w1.cell? ⟨w.heap.size, 11, none⟩ = some (.int .i64 0) := by rw [hbc]; simp
  have e12 : w1.cell? ⟨w.heap.size, 12, none⟩ = some (.int .i64 0) := by rw [hbc]; simp
  clear hbc
  have hfz : ∀ o, w1.frozen? ⟨w.heap.size, o, none⟩ = false := fun o => by rw [h.bel.frozen (p := ⟨w.heap.size, o, none⟩) (by simp)]; simp
  have hlt : w.heap.size < w1.heap.size := by have := h.bel.size; simp at this; omega
  clear h h7 h8 h9 h10
  refine till_step (i := 6) (show tkOps[6]? = some ({ dst := some 11, op := Op.build 70 #[(0, Operand.tmp 5), (2, Operand.tmp 6), (3, Operand.tmp 7), (8, Operand.tmp 8), (9, Operand.tmp 9), (10, Operand.tmp 10)], type := 70, pos := "l11_sys.go:13", after := #[{ on := 0, ground := Ground.data }, { on := 1, ground := Ground.data }, { on := 2, ground := Ground.data }, { on := 3, ground := Ground.data }, { on := 4, ground := Ground.data }, { on := 5, ground := Ground.data }], guard := none }) from rfl) (by kernel_rfl) (fun K hK => ?_)
  unfold tkA
  go_simp
  refine hK.out _ _ (fun _ => trivial) ?_
  clear hK
  refine till_step (i := 7) (show tkOps[7]? = some ({ dst := none, op := Op.store 70 (Operand.tmp 4) (Operand.tmp 11), type := 0, pos := "l11_sys.go:13", after := #[{ on := 6, ground := Ground.data }, { on := 0, ground := Ground.phase }, { on := 1, ground := Ground.phase }, { on := 2, ground := Ground.phase }, { on := 3, ground := Ground.phase }, { on := 4, ground := Ground.phase }, { on := 5, ground := Ground.phase }, { on := 6, ground := Ground.phase }], guard := none }) from rfl) (by kernel_rfl) (fun K hK => ?_)
  go_simp
  refine hK.out _ _ (fun h => trivial) ?_
  clear hK
  refine till_done (by kernel_rfl) ?_ _
  go_wp2_with fail
  refine bodyPost_ret (v := taskAgg (newTa body up, ⟨.slice a7 3 c7, .slice a8 3 c8, .slice a9 0 c9, .slice a10 0 c10⟩)) (by simp [results, Try.results34, go_sem, taskAgg, taC, newTa, e0, e1, e2, e3, e4, e5, e6, e7, e8, e9, e10, e11, e12]) rfl ⟨f, ⟨.slice a7 3 c7, .slice a8 3 c8, .slice a9 0 c9, .slice a10 0 c10⟩, rfl, HO.out, ?_, ?_⟩
  · refine (HT.out.move (fun _ _ _ => rfl) (fun g hg1 hg2 hk => ?_)).base (by omega)
    repeat rw [heap_set_ne _ _ _ _ (by simp; omega)]
  · exact (by repeat (first | with_reducible exact HB.out | (with_reducible refine Below.setCell ?_ ?hs _; case hs => ((try simp); try omega)) | (with_reducible refine Below.alloc ?_ ?hs _; case hs => ((try simp); try omega)) | with_reducible refine Below.drew ?_ | with_reducible refine below_drewN ?_ _))
end Go.Proofs.Ytgbgjljflgbcaaa
