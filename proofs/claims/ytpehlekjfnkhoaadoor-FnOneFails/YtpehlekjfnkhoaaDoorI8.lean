/-
  Programs as arguments of exact laws, where there are no systems: bundles.
-/
import Derived.Test.YtpehlekjfnkhoaaDoorY1e
import Derived.Test.YtpehlekjfnkhoaaDoorZ7
import Derived.Test.YtpehlekjfnkhoaaDoorW1
import Derived.Test.YtpehlekjfnkhoaaDoorX4
import Derived.Test.YtpehlekjfnkhoaaDoorX5
namespace Go.Proofs.YtpehlekjfnkhoaaDoor
open Go.RowKit
set_option linter.unusedSimpArgs false
set_option linter.unusedVariables false

def PrAt (w : World) (cv bv : Value) (p : Pr) : Prop := IntsAt w cv p.cells ∧ BodiesAt w bv p.bodies
theorem PrAt.mono {w w' : World} {cv bv : Value} {p : Pr} (h : PrAt w cv bv p) (hb : Below w.heap.size w w') : PrAt w' cv bv p := ⟨h.1.mono hb, h.2.mono hb⟩
def PrOn (S : Nat → Prop) (w : World) (cv bv : Value) (p : Pr) : Prop := IntsOn S w cv p.cells ∧ BodiesOn S w bv p.bodies
theorem PrOn.at {S : Nat → Prop} {w : World} {cv bv : Value} {p : Pr} (h : PrOn S w cv bv p) : PrAt w cv bv p := ⟨h.1.at, h.2.at⟩
theorem toProg_th' (p : Pr) (cv bv : Value) (w : World) (h : PrAt w cv bv p) (hs : SmallP p) :
    Calls Tryd.prog 10 #[.agg #[cv, bv]] w fun r w' => ∃ cv' bv', r = .returned (.agg #[cv', bv']) ∧ PrOn (fun b => w.heap.size ≤ b) w' cv' bv' p ∧ Below w.heap.size w w' ∧ Fz w w' := by
  refine (toProg_th p cv bv w h.1 h.2 hs.1 ⟨hs.2.1, hs.2.2⟩).mono ?_
  rintro r w' ⟨a, b, e, h1, h2, h3, h4⟩
  exact ⟨a, b, e, ⟨h1, h2⟩, h3, h4⟩
theorem eqProg_same' (p : Pr) (cv bv cv' bv' : Value) (w : World) (h : PrAt w cv bv p) (h' : PrAt w cv' bv' p) :
    Calls Tryd.prog 12 #[.agg #[cv, bv], .agg #[cv', bv']] w fun r w' => r = .returned (.bool true) ∧ Below w.heap.size w w' :=
  eqProg_same p cv bv cv' bv' w h.1 h.2 h'.1 h'.2
theorem prSh_of {w w' : World} {cv bv : Value} {p : Pr} (h : PrOn (fun b => w.heap.size ≤ b) w' cv bv p) (hz : Fz w w') (hs : SmallP p) :
    ∃ M, RowSh 1 w' cv ∧ BodiesSh w' bv M ∧ (∀ a, a ∈ mtP cv M → w.heap.size ≤ a.block) ∧ (mtP cv M).length ≤ 4611688217451692032 := by
  have hf : ∀ b o, w.heap.size ≤ b → w'.frozen? ⟨b, o, none⟩ = false := fun b o hb => hz.new hb o
  obtain ⟨k1, k2, k3⟩ := h.1.sh hf
  obtain ⟨M, l1, l2, l3⟩ := h.2.sh hf ⟨hs.2.1, hs.2.2⟩
  refine ⟨M, k1, l1, fun a ha => ?_, ?_⟩
  · rcases List.mem_append.1 ha with h | h
    · exact k2 a h
    · exact l2 a h
  · have h1 := hs.1
    have h2 := hs.2.1
    have h4 : p.bodies.length * (1048576 * 4194306) ≤ 1048576 * (1048576 * 4194306) := Nat.mul_le_mul_right _ h2
    simp only [mtP, List.length_append]
    omega
theorem prSh_ic {w : World} {cv bv : Value} {M : List (Value × List (Value × Value))} (h1 : RowSh 1 w cv) (h2 : BodiesSh w bv M) : ∀ a, a ∈ mtP cv M → ICell w a := fun a ha => by
  rcases List.mem_append.1 ha with h | h
  · exact (h1.trail a h).1
  · exact (h2.part (Nat.le_refl _) a h).1
theorem prSh_lt {w : World} {cv bv : Value} {M : List (Value × List (Value × Value))} (h1 : RowSh 1 w cv) (h2 : BodiesSh w bv M) : ∀ a, a ∈ mtP cv M → a.block < w.heap.size := fun a ha => by
  rcases List.mem_append.1 ha with h | h
  · exact (h1.trail a h).2
  · exact (h2.part (Nat.le_refl _) a h).2
theorem wrT_below {B : Nat} {w w' : World} (h : Below B w w') {A : List Addr} (hA : ∀ a, a ∈ A → B ≤ a.block) (k : Int) : Below B w (wrT w' A k) := by
  induction A generalizing w' k with
  | nil => exact h
  | cons a A ih => exact ih (h.setCell (hA a (by simp)) _) (fun b hb => hA b (by simp [hb])) (k + 1)

end Go.Proofs.YtpehlekjfnkhoaaDoor
