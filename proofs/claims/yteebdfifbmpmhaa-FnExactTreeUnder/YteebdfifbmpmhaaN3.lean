/-
  Systems and programs as arguments of exact laws: bundles.
-/
import Derived.Test.YteebdfifbmpmhaaY1d
import Derived.Test.YteebdfifbmpmhaaY2
import Derived.Test.YteebdfifbmpmhaaY3
import Derived.Test.YteebdfifbmpmhaaZ4
import Derived.Test.YteebdfifbmpmhaaW1
namespace Go.Proofs.Yteebdfifbmpmhaa
open Go.RowKit
set_option linter.unusedSimpArgs false
set_option linter.unusedVariables false

def SyAt (w : World) (cv tv lv : Value) (s : Sy) : Prop := CesAt w cv s.cells ∧ TasAt w tv s.tasks ∧ EnsAt w lv s.log
def SyOn (S : Nat → Prop) (w : World) (cv tv lv : Value) (s : Sy) : Prop := CesOn S w cv s.cells ∧ TasOn S w tv s.tasks ∧ EnsOn S w lv s.log
theorem SyAt.mono {w w' : World} {cv tv lv : Value} {s : Sy} (h : SyAt w cv tv lv s) (hb : Below w.heap.size w w') : SyAt w' cv tv lv s := ⟨h.1.mono hb, h.2.1.mono hb, h.2.2.mono hb⟩
theorem SyOn.at {S : Nat → Prop} {w : World} {cv tv lv : Value} {s : Sy} (h : SyOn S w cv tv lv s) : SyAt w cv tv lv s := ⟨h.1.at, h.2.1.at, h.2.2.at⟩
theorem toSys_th' (s : Sy) (cv tv lv : Value) (w : World) (h : SyAt w cv tv lv s) (hs : SmSy s) :
    Calls Try.prog 19 #[.agg #[cv, tv, .int .i64 s.clock, lv]] w fun r w' => ∃ cv' tv' lv', r = .returned (.agg #[cv', tv', .int .i64 s.clock, lv']) ∧ SyOn (fun b => w.heap.size ≤ b) w' cv' tv' lv' s ∧ Below w.heap.size w w' ∧ Fz w w' := by
  refine (toSys_th s cv tv lv w h.1 h.2.1 h.2.2 hs.1 hs.2.1 hs.2.2).mono ?_
  rintro r w' ⟨a, b, c, e, h1, h2, h3, h4, h5⟩
  exact ⟨a, b, c, e, ⟨h1, h2, h3⟩, h4, h5⟩
theorem eqSys_same' (s : Sy) (cv tv lv cv' tv' lv' : Value) (w : World) (h : SyAt w cv tv lv s) (h' : SyAt w cv' tv' lv' s) :
    Calls Try.prog 12 #[.agg #[cv, tv, .int .i64 s.clock, lv], .agg #[cv', tv', .int .i64 s.clock, lv']] w fun r w' => r = .returned (.bool true) ∧ Below w.heap.size w w' :=
  eqSys_same s cv tv lv cv' tv' lv' w h.1 h.2.1 h.2.2 h'.1 h'.2.1 h'.2.2
theorem sySh_of {w w' : World} {cv tv lv : Value} {s : Sy} (h : SyOn (fun b => w.heap.size ≤ b) w' cv tv lv s) (hz : Fz w w') (hs : SmSy s) :
    ∃ T E, RowSh 3 w' cv ∧ TasSh w' tv T ∧ EnsSh w' lv E ∧ (∀ a, a ∈ mtSy cv tv lv T E → w.heap.size ≤ a.block) ∧ (mtSy cv tv lv T E).length ≤ 1152921504606846976 := by
  have hf : ∀ b o, w.heap.size ≤ b → w'.frozen? ⟨b, o, none⟩ = false := fun b o hb => hz.new hb o
  obtain ⟨k1, k2, k3⟩ := h.1.sh hf
  obtain ⟨T, l1, l2, l3⟩ := h.2.1.sh hf hs.2.1
  obtain ⟨E, n1, n2, n3⟩ := h.2.2.sh hf hs.2.2
  refine ⟨T, E, k1, l1, n1, fun a ha => ?_, ?_⟩
  · rcases List.mem_append.1 ha with h | h
    · exact k2 a h
    · rcases List.mem_append.1 h with h | h
      · exact l2 a h
      · exact n2 a h
  · have h1 := hs.1
    have h2 := hs.2.1.1
    have h3 := hs.2.2.1
    have h4 : s.tasks.length * 6291465 ≤ 1048576 * 6291465 := Nat.mul_le_mul_right _ h2
    have h5 : s.log.length * 4194308 ≤ 1048576 * 4194308 := Nat.mul_le_mul_right _ h3
    simp only [mtSy, List.length_append]
    omega
theorem sySh_lt {w : World} {cv tv lv : Value} {T : List (Value × Value × Value × Value)} {E : List (Value × Value)} (h1 : RowSh 3 w cv) (h2 : TasSh w tv T) (h3 : EnsSh w lv E) : ∀ a, a ∈ mtSy cv tv lv T E → a.block < w.heap.size := fun a ha => by
  rcases List.mem_append.1 ha with h | h
  · exact (h1.trail a h).2
  · rcases List.mem_append.1 h with h | h
    · exact (h2.trail a h).2
    · exact (h3.trail a h).2
theorem sySh_ic {w : World} {cv tv lv : Value} {T : List (Value × Value × Value × Value)} {E : List (Value × Value)} (h1 : RowSh 3 w cv) (h2 : TasSh w tv T) (h3 : EnsSh w lv E) : ∀ a, a ∈ mtSy cv tv lv T E → ICell w a := fun a ha => by
  rcases List.mem_append.1 ha with h | h
  · exact (h1.trail a h).1
  · rcases List.mem_append.1 h with h | h
    · exact (h2.trail a h).1
    · exact (h3.trail a h).1
theorem wrT_below {B : Nat} {w w' : World} (h : Below B w w') {A : List Addr} (hA : ∀ a, a ∈ A → B ≤ a.block) (k : Int) : Below B w (wrT w' A k) := by
  induction A generalizing w' k with
  | nil => exact h
  | cons a A ih => exact ih (h.setCell (hA a (by simp)) _) (fun b hb => hA b (by simp [hb])) (k + 1)

end Go.Proofs.Yteebdfifbmpmhaa
