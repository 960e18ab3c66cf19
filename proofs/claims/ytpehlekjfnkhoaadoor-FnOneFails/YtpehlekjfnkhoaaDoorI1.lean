/-
  One by one, in plain words.
-/
import Derived.Test.YtpehlekjfnkhoaaDoorC2
namespace Go.Proofs.YtpehlekjfnkhoaaDoor
open Go.RowKit
set_option linter.unusedSimpArgs false
set_option linter.unusedVariables false

/-- how it comes out (0: done, 1: failed, 2: what must be there is not), and what cells have -/
def kidsD (f : Nat → List Int → Nat × List Int) : List Int → List Int → Nat × List Int
  | [], c => (0, c)
  | k :: ks, c => if (f k.toNat c).1 = 0 then kidsD f ks (f k.toNat c).2 else f k.toNat c
def actsD (f : Nat → List Int → Nat × List Int) : List Ac → List Int → List Int → Nat × List Int
  | [], c, _ => (0, c)
  | a :: rest, c, r =>
    if a.k = 1 then (if (chX c r a.ds).2.2 = true then actsD f rest (chX c r a.ds).1 (chX c r a.ds).2.1 else (2, c))
    else if a.k = 2 then (if (kidsD f a.ks c).1 = 0 then actsD f rest (kidsD f a.ks c).2 r else kidsD f a.ks c)
    else if a.k = 3 then (1, c)
    else if nth 0 r a.r.toNat = 0 then actsD f rest c r else (1, c)
def bodyD (bs : List (List Ac)) : Nat → Nat → List Int → Nat × List Int
  | 0, _, c => (0, c)
  | n + 1, b, c => actsD (bodyD bs n) (nth [] bs b) c [0, 0, 0]
def oneX (p : Pr) : List Int × Bool × Bool :=
  if okB p = true then (if (bodyD p.bodies 4 0 p.cells).1 = 0 then ((bodyD p.bodies 4 0 p.cells).2, false, true) else if (bodyD p.bodies 4 0 p.cells).1 = 1 then ((bodyD p.bodies 4 0 p.cells).2, true, true) else ([], false, false))
  else ([], false, false)

theorem chX_rl {c r : List Int} {ds : List De} (h : (chX c r ds).2.2 = true) : (chX c r ds).2.1.length = 3 := by
  unfold chX chDo at *
  split at h
  case h_2 => cases h
  case h_1 x hx =>
    split at hx
    case isFalse => cases hx
    case isTrue hg =>
      obtain ⟨h1, h2, h3⟩ := goB_inF hg
      obtain ⟨c', r'⟩ := x
      have := doDs_inF ds c r c' r' (dsB_all h3).2 h1 hx
      exact this.rl
theorem drop_nth {α : Type} (z : α) (l : List α) (k : Nat) (h : k < l.length) : l.drop k = nth z l k :: l.drop (k + 1) := by
  rw [nth_eq z l k h]
  exact List.drop_eq_getElem_cons h
/-- acts one behind the other: what is still to be done -/
theorem actsD_try {f : Nat → List Int → Nat × List Int} {acts : List Ac} {k : Nat} {c r : List Int} (hk : k < acts.length) (h1 : (nth Ac.z acts k).k = 1) :
    actsD f (acts.drop k) c r = if (chX c r (nth Ac.z acts k).ds).2.2 = true then actsD f (acts.drop (k + 1)) (chX c r (nth Ac.z acts k).ds).1 (chX c r (nth Ac.z acts k).ds).2.1 else (2, c) := by
  rw [drop_nth Ac.z acts k hk]; simp only [actsD, if_pos h1]
theorem actsD_fork {f : Nat → List Int → Nat × List Int} {acts : List Ac} {k : Nat} {c r : List Int} (hk : k < acts.length) (h2 : (nth Ac.z acts k).k = 2) :
    actsD f (acts.drop k) c r = if (kidsD f (nth Ac.z acts k).ks c).1 = 0 then actsD f (acts.drop (k + 1)) (kidsD f (nth Ac.z acts k).ks c).2 r else kidsD f (nth Ac.z acts k).ks c := by
  rw [drop_nth Ac.z acts k hk]; simp only [actsD, h2]; simp
theorem actsD_fail {f : Nat → List Int → Nat × List Int} {acts : List Ac} {k : Nat} {c r : List Int} (hk : k < acts.length) (h3 : (nth Ac.z acts k).k = 3) :
    actsD f (acts.drop k) c r = (1, c) := by
  rw [drop_nth Ac.z acts k hk]; simp only [actsD, h3]; simp
theorem actsD_if {f : Nat → List Int → Nat × List Int} {acts : List Ac} {k : Nat} {c r : List Int} (hk : k < acts.length) (h4 : (nth Ac.z acts k).k = 4) :
    actsD f (acts.drop k) c r = if nth 0 r (nth Ac.z acts k).r.toNat = 0 then actsD f (acts.drop (k + 1)) c r else (1, c) := by
  rw [drop_nth Ac.z acts k hk]; simp only [actsD, h4]; simp
theorem actsD_end {f : Nat → List Int → Nat × List Int} {acts : List Ac} {k : Nat} {c r : List Int} (hk : ¬ k < acts.length) : actsD f (acts.drop k) c r = (0, c) := by
  rw [List.drop_eq_nil_of_le (by omega)]; rfl
theorem kidsD_step {f : Nat → List Int → Nat × List Int} {ks : List Int} {k m : Nat} {c : List Int} (hk : k < ks.length) (hm : nth 0 ks k = (m : Int)) :
    kidsD f (ks.drop k) c = if (f m c).1 = 0 then kidsD f (ks.drop (k + 1)) (f m c).2 else f m c := by
  rw [drop_nth 0 ks k hk]; simp only [kidsD, hm, Int.toNat_natCast]
theorem kidsD_end {f : Nat → List Int → Nat × List Int} {ks : List Int} {k : Nat} {c : List Int} (hk : ¬ k < ks.length) : kidsD f (ks.drop k) c = (0, c) := by
  rw [List.drop_eq_nil_of_le (by omega)]; rfl
theorem acB_cases {a : Ac} {nc body nb : Int} (h : acB a nc body nb = true) :
    (a.k = 1 ∧ a.ks.length = 0 ∧ a.r = 0) ∨ (a.k = 2 ∧ a.ds.length = 0 ∧ a.r = 0 ∧ ∀ k, k ∈ a.ks → body + 1 ≤ k ∧ k ≤ nb - 1) ∨
    (a.k = 3 ∧ a.ds.length = 0 ∧ a.ks.length = 0 ∧ a.r = 0) ∨ (a.k = 4 ∧ a.ds.length = 0 ∧ a.ks.length = 0 ∧ 0 ≤ a.r ∧ a.r < 3) := by
  unfold acB at h
  split at h
  · rename_i e; simp only [Bool.and_eq_true, decide_eq_true_eq] at h; exact .inl ⟨e, h.1.1, h.1.2⟩
  · split at h
    · rename_i e
      simp only [Bool.and_eq_true, decide_eq_true_eq] at h
      refine .inr (.inl ⟨e, h.1.1, h.1.2, fun k hk => ?_⟩)
      have h2 := h.2
      unfold ksB at h2
      simp only [Bool.and_eq_true, List.all_eq_true] at h2
      simpa [kidB, inB] using h2.2 k hk
    · split at h
      · rename_i e; simp only [Bool.and_eq_true, decide_eq_true_eq] at h; exact .inr (.inr (.inl ⟨e, h.1.1, h.1.2, h.2⟩))
      · split at h
        · rename_i e; simp only [Bool.and_eq_true, decide_eq_true_eq, plB_iff] at h; exact .inr (.inr (.inr ⟨e, h.1.1, h.1.2, h.2⟩))
        · cases h

end Go.Proofs.YtpehlekjfnkhoaaDoor
