import Derived.Test.YtpncmjlaijojlaaE3
import Derived.Test.YtpncmjlaijojlaaC4
namespace Go.Proofs.Ytpncmjlaijojlaa
open Go.RowKit
set_option linter.unusedSimpArgs false
set_option linter.unusedVariables false

theorem chX_len (c r : List Int) (ds : List De) : (chX c r ds).1.length ≤ 3 ∧ (chX c r ds).2.1.length ≤ 3 := by
  unfold chX chDo
  by_cases h : goB c r ds = true
  · rw [if_pos h]
    obtain ⟨hF, h3, hd⟩ := goB_inF h
    cases hx : doDs c r ds with
    | none => simp
    | some x =>
      obtain ⟨c', r'⟩ := x
      have := doDs_inF ds c r c' r' (dsB_all hd).2 hF hx
      exact ⟨by simp [this.cl, h3], by simp [this.rl]⟩
  · rw [if_neg h]; simp
theorem changeDo_eq {c r C R : List Int} {ds : List De} {ok : Bool} (hX : chX c r ds = (C, R, ok)) (cv rv dv : Value) (w : World) (hc : IntsAt w cv c) (hr : IntsAt w rv r) (hd : DeedsAt w dv ds) :
    Calls Try.prog 15 #[cv, rv, dv] w fun e w' => ∃ x y, e = .returned (.tuple #[x, y, .bool ok]) ∧ Two w.heap.size w' x y C R ∧ Below w.heap.size w w' := by
  have := changeDo_any c r ds cv rv dv w hc hr hd
  rw [hX] at this
  exact this
theorem sChangeDo_eq {c r C R : List Int} {ds : List De} {ok : Bool} (hX : chX c r ds = (C, R, ok)) (cv rv dv : Value) (w : World) (hc : IntsAt w cv c) (hr : IntsAt w rv r) (hd : DeedsAt w dv ds) :
    Calls Try.prog 14 #[cv, rv, dv] w fun e w' => ∃ x y, e = .returned (.tuple #[x, y, .bool ok]) ∧ Two w.heap.size w' x y C R ∧ Below w.heap.size w w' := by
  have := sChangeDo_any c r ds cv rv dv w hc hr hd
  rw [hX] at this
  exact this

/-- what is kept up to the calls: the arguments, the model's answer -/
structure Ph1 (w x : World) (cv rv dv w0 w1 : Value) (c r C R : List Int) (ds : List De) : Prop where
  bel : Below w.heap.size w x
  c : IntsAt x cv c
  r : IntsAt x rv r
  d : DeedsAt x dv ds
  t : Two w.heap.size x w0 w1 C R
theorem Ph1.below {w x y : World} {cv rv dv w0 w1 : Value} {c r C R : List Int} {ds : List De} (h : Ph1 w x cv rv dv w0 w1 c r C R ds) (hb : Below x.heap.size x y) : Ph1 w y cv rv dv w0 w1 c r C R ds :=
  ⟨below_then h.bel h.bel.size hb, h.c.mono hb, h.r.mono hb, h.d.mono hb, h.t.below hb (Nat.le_refl _)⟩
/-- .. the three copies -/
structure Ph2 (w x : World) (cv rv dv w0 w1 : Value) (g0 g1 g2 : Nat) (c r C R : List Int) (ds : List De) : Prop where
  p : Ph1 w x cv rv dv w0 w1 c r C R ds
  x0 : IntsAt x (.slice (some ⟨g0, 0, none⟩) c.length c.length) c
  x1 : IntsAt x (.slice (some ⟨g1, 0, none⟩) r.length r.length) r
  x2 : DeedsAt x (.slice (some ⟨g2, 0, none⟩) ds.length ds.length) ds
  b0 : Blk x g0 c.length
  b1 : Blk x g1 r.length
  b2 : Blk x g2 (ds.length * 3)
  lo : w.heap.size ≤ g0
  w0 : ∀ k, ownS w0 w1 k → k < g0
  l1 : g0 < g1
  l2 : g1 < g2
theorem Ph2.below {w x y : World} {cv rv dv w0 w1 : Value} {g0 g1 g2 : Nat} {c r C R : List Int} {ds : List De} (h : Ph2 w x cv rv dv w0 w1 g0 g1 g2 c r C R ds) (hb : Below x.heap.size x y) : Ph2 w y cv rv dv w0 w1 g0 g1 g2 c r C R ds :=
  ⟨h.p.below hb, h.x0.mono hb, h.x1.mono hb, h.x2.mono hb, h.b0.below hb, h.b1.below hb, h.b2.below hb, h.lo, h.w0, h.l1, h.l2⟩
/-- .. the program's answer, the copies no more -/
structure Ph3 (w x : World) (cv rv dv w0 w1 y0 y1 : Value) (c r C R C' R' : List Int) (ds : List De) : Prop where
  bel : Below w.heap.size w x
  t : Two w.heap.size x w0 w1 C R
  u : Two w.heap.size x y0 y1 C' R'
  ap : ∀ k, ownS w0 w1 k → ¬ ownS y0 y1 k
theorem Ph3.below {w x y : World} {cv rv dv w0 w1 y0 y1 : Value} {c r C R C' R' : List Int} {ds : List De} (h : Ph3 w x cv rv dv w0 w1 y0 y1 c r C R C' R' ds) (hb : Below x.heap.size x y) : Ph3 w y cv rv dv w0 w1 y0 y1 c r C R C' R' ds :=
  ⟨below_then h.bel h.bel.size hb, h.t.below hb (Nat.le_refl _), h.u.below hb (Nat.le_refl _), h.ap⟩
theorem Two.frS {S : Nat → Prop} {B : Nat} {w w' : World} {cv rv : Value} {c r : List Int} (h : Two B w cv rv c r) (hf : FrS S w w') (hS : ∀ k, ownS cv rv k → ¬ S k) : Two B w' cv rv c r :=
  ⟨h.1.frS hf (fun g hg => hS g (.inl hg)), h.2.1.frS hf (fun g hg => hS g (.inr hg)), h.2.2⟩
/-- a copy is marked -/
theorem Ph3.frS {S : Nat → Prop} {w x y : World} {cv rv dv w0 w1 y0 y1 : Value} {c r C R C' R' : List Int} {ds : List De} (h : Ph3 w x cv rv dv w0 w1 y0 y1 c r C R C' R' ds) (hf : FrS S x y) (h1 : ∀ k, S k → w.heap.size ≤ k) (h2 : ∀ k, ownS w0 w1 k → ¬ S k) (h3 : ∀ k, ownS y0 y1 k → ¬ S k) : Ph3 w y cv rv dv w0 w1 y0 y1 c r C R C' R' ds :=
  ⟨h.bel.trans (hf.below h1 h.bel.size), h.t.frS hf h2, h.u.frS hf h3, h.ap⟩

end Go.Proofs.Ytpncmjlaijojlaa
