/-
  One by one: a first body that fails at its end.
-/
import Derived.Test.YtpehlekjfnkhoaaDoorI1
namespace Go.Proofs.YtpehlekjfnkhoaaDoor
open Go.RowKit
set_option linter.unusedSimpArgs false
set_option linter.unusedVariables false

def failA : Ac := ⟨3, [], [], 0⟩
/-- the same program, whose first body fails at its end -/
def failP (p : Pr) : Pr := ⟨p.cells, p.bodies.set 0 (nth [] p.bodies 0 ++ [failA])⟩
theorem failP_len (p : Pr) : (failP p).bodies.length = p.bodies.length := by simp [failP]
theorem failP_zero {p : Pr} (h : 0 < p.bodies.length) : nth [] (failP p).bodies 0 = nth [] p.bodies 0 ++ [failA] := by
  unfold failP nth
  simp [List.getElem?_set, h]
theorem failP_other (p : Pr) {i : Nat} (h : i ≠ 0) : nth [] (failP p).bodies i = nth [] p.bodies i := by
  unfold failP nth
  simp only [List.getD_eq_getElem?_getD]
  rw [List.getElem?_set_ne (by omega)]
theorem actsD_snoc (f : Nat → List Int → Nat × List Int) (l : List Ac) : ∀ (c r : List Int), actsD f (l ++ [failA]) c r = if (actsD f l c r).1 = 0 then (1, (actsD f l c r).2) else actsD f l c r := by
  induction l with
  | nil => intro c r; simp [actsD, failA]
  | cons a l ih =>
    intro c r
    rw [List.cons_append]
    simp only [actsD]
    split
    · split
      · exact ih _ _
      · simp
    · split
      · split
        · exact ih _ _
        · rfl
      · split
        · simp
        · split
          · exact ih _ _
          · simp
theorem kidsD_same {f g : Nat → List Int → Nat × List Int} {ks : List Int} (h : ∀ k, k ∈ ks → ∀ c, f k.toNat c = g k.toNat c) : ∀ c, kidsD f ks c = kidsD g ks c := by
  induction ks with
  | nil => intro c; rfl
  | cons k ks ih =>
    intro c
    have h1 := h k (by simp) c
    have h2 := ih (fun k' hk => h k' (by simp [hk]))
    simp only [kidsD, h1]
    split
    · exact h2 _
    · rfl
theorem actsD_same {f g : Nat → List Int → Nat × List Int} {l : List Ac} (h : ∀ a, a ∈ l → a.k = 2 → ∀ k, k ∈ a.ks → ∀ c, f k.toNat c = g k.toNat c) : ∀ c r, actsD f l c r = actsD g l c r := by
  induction l with
  | nil => intro c r; rfl
  | cons a l ih =>
    intro c r
    have h2 := ih (fun a' ha => h a' (by simp [ha]))
    simp only [actsD]
    split
    · split
      · exact h2 _ _
      · rfl
    · split
      · rename_i e
        rw [kidsD_same (h a (by simp) e)]
        split
        · exact h2 _ _
        · rfl
      · split
        · rfl
        · split
          · exact h2 _ _
          · rfl
theorem ok_kids {p : Pr} (h : okB p = true) {b : Nat} (hb : b < p.bodies.length) {a : Ac} (ha : a ∈ nth [] p.bodies b) (h2 : a.k = 2) : ∀ k, k ∈ a.ks → (b : Int) + 1 ≤ k ∧ k ≤ (p.bodies.length : Int) - 1 := by
  simp only [okB, foB, Bool.and_eq_true, List.all_eq_true, List.mem_range] at h
  have h3 := h.1.2 b hb
  simp only [boB, Bool.and_eq_true, List.all_eq_true] at h3
  rcases acB_cases (h3.2 a ha) with q | q | q | q
  · omega
  · exact q.2.2.2
  · omega
  · omega
theorem bodyD_same {p : Pr} (h : okB p = true) (n : Nat) : ∀ b, 0 < b → b < p.bodies.length → ∀ c, bodyD (failP p).bodies n b c = bodyD p.bodies n b c := by
  induction n with
  | zero => intro b _ _ c; rfl
  | succ n ih =>
    intro b h0 hb c
    unfold bodyD
    rw [failP_other p (by omega)]
    refine actsD_same (fun a ha h2 k hk c' => ?_) _ _
    have := ok_kids h hb ha h2 k hk
    exact ih k.toNat (by omega) (by omega) c'
theorem bodyD_fail {p : Pr} (h : okB p = true) (h0 : 0 < p.bodies.length) (n : Nat) (c : List Int) : bodyD (failP p).bodies (n + 1) 0 c = if (bodyD p.bodies (n + 1) 0 c).1 = 0 then (1, (bodyD p.bodies (n + 1) 0 c).2) else bodyD p.bodies (n + 1) 0 c := by
  have e : ∀ c r, actsD (bodyD (failP p).bodies n) (nth [] p.bodies 0) c r = actsD (bodyD p.bodies n) (nth [] p.bodies 0) c r := actsD_same (fun a ha h2 k hk c' => by
    have := ok_kids h h0 ha h2 k hk
    exact bodyD_same h n k.toNat (by omega) (by omega) c')
  simp only [bodyD]
  rw [failP_zero h0, actsD_snoc, e]
  rfl
theorem trAs_same {f g : Nat → Nat} {l : List Ac} (h : ∀ a, a ∈ l → trKs f a.ks = trKs g a.ks) : trAs f l = trAs g l := by
  unfold trAs
  rw [List.map_congr_left h]
theorem ks_in {p : Pr} (h : okB p = true) {b : Nat} (hb : b < p.bodies.length) {a : Ac} (ha : a ∈ nth [] p.bodies b) : ∀ k, k ∈ a.ks → (b : Int) + 1 ≤ k ∧ k ≤ (p.bodies.length : Int) - 1 := by
  have h' := h
  simp only [okB, foB, Bool.and_eq_true, List.all_eq_true, List.mem_range] at h'
  have h3 := h'.1.2 b hb
  simp only [boB, Bool.and_eq_true, List.all_eq_true] at h3
  have nil : a.ks.length = 0 → ∀ k, k ∈ a.ks → (b : Int) + 1 ≤ k ∧ k ≤ (p.bodies.length : Int) - 1 := fun e k hk => by
    rw [List.length_eq_zero_iff.1 e] at hk; simp at hk
  rcases acB_cases (h3.2 a ha) with q | q | q | q
  · exact nil q.2.1
  · exact q.2.2.2
  · exact nil q.2.2.1
  · exact nil q.2.2.1
theorem trKs_same {f g : Nat → Nat} {ks : List Int} (h : ∀ k, k ∈ ks → f k.toNat = g k.toNat) : trKs f ks = trKs g ks := by
  unfold trKs
  rw [List.map_congr_left h]
theorem tr_same {p : Pr} (h : okB p = true) (n : Nat) : ∀ b, 0 < b → b < p.bodies.length → tr (failP p) n b = tr p n b := by
  induction n with
  | zero => intro b _ _; rfl
  | succ n ih =>
    intro b h0 hb
    unfold tr
    rw [failP_other p (by omega), trAs_same (fun a ha => trKs_same (fun k hk => ?_))]
    have := ks_in h hb ha k hk
    exact ih k.toNat (by omega) (by omega)
theorem tr_fail {p : Pr} (h : okB p = true) (h0 : 0 < p.bodies.length) (n : Nat) : tr (failP p) (n + 1) 0 = tr p (n + 1) 0 := by
  simp only [tr]
  rw [failP_zero h0]
  have e : trAs (tr (failP p) n) (nth [] p.bodies 0 ++ [failA]) = trAs (tr (failP p) n) (nth [] p.bodies 0) := by
    unfold trAs
    simp [failA, trKs]
  rw [e, trAs_same (fun a ha => trKs_same (fun k hk => ?_))]
  have := ks_in h h0 ha k hk
  exact tr_same h n k.toNat (by omega) (by omega)
theorem ok_fail {p : Pr} (h : okB p = true) (hl : (nth [] p.bodies 0).length < 4) : okB (failP p) = true := by
  have h0 : 0 < p.bodies.length := by
    have := h
    simp [okB, foB, inB] at this
    omega
  have e := tr_fail h h0 3
  have h' := h
  simp only [okB, foB, Bool.and_eq_true, List.all_eq_true, List.mem_range, decide_eq_true_eq] at h' ⊢
  obtain ⟨⟨⟨h1, h2⟩, h3⟩, h4⟩ := h'
  rw [failP_len]
  refine ⟨⟨⟨h1, h2⟩, fun i hi => ?_⟩, by rw [e]; exact h4⟩
  have h5 := h3 i hi
  unfold boB at h5 ⊢
  rw [failP_len]
  by_cases q : i = 0
  · subst q
    rw [failP_zero h0]
    simp only [Bool.and_eq_true, decide_eq_true_eq, List.all_eq_true] at h5 ⊢
    refine ⟨by simp; omega, fun a ha => ?_⟩
    rcases List.mem_append.1 ha with q | q
    · exact h5.2 a q
    · simp at q
      subst q
      simp [acB, failA]
  · rw [failP_other p q]
    exact h5
/-- with an act that fails at the end of the first body it fails, and leaves the same -/
theorem oneX_fail {p : Pr} (h : okB p = true) (hl : (nth [] p.bodies 0).length < 4) (h2 : (bodyD p.bodies 4 0 p.cells).1 = 0 ∨ (bodyD p.bodies 4 0 p.cells).1 = 1) : oneX (failP p) = ((bodyD p.bodies 4 0 p.cells).2, true, true) ∧ (oneX p).1 = (bodyD p.bodies 4 0 p.cells).2 ∧ (oneX p).2.2 = true := by
  have h0 : 0 < p.bodies.length := by
    have := h
    simp [okB, foB, inB] at this
    omega
  have e := bodyD_fail h h0 3 p.cells
  have hc : (failP p).cells = p.cells := rfl
  have e4 : bodyD (failP p).bodies 4 0 p.cells = if (bodyD p.bodies 4 0 p.cells).1 = 0 then (1, (bodyD p.bodies 4 0 p.cells).2) else bodyD p.bodies 4 0 p.cells := e
  unfold oneX
  rw [if_pos h, if_pos (ok_fail h hl), hc, e4]
  clear e e4
  revert h2
  generalize bodyD p.bodies 4 0 p.cells = x
  obtain ⟨o, c⟩ := x
  intro h2
  rcases h2 with q | q
  · simp only at q
    subst q
    simp
  · simp only at q
    subst q
    simp
theorem oneX_told {p : Pr} (h : (oneX p).2.2 = true) : okB p = true ∧ ((bodyD p.bodies 4 0 p.cells).1 = 0 ∨ (bodyD p.bodies 4 0 p.cells).1 = 1) := by
  unfold oneX at h
  split at h
  · rename_i h1
    refine ⟨h1, ?_⟩
    split at h
    · rename_i q; exact .inl q
    · split at h
      · rename_i q; exact .inr q
      · cases h
  · cases h

end Go.Proofs.YtpehlekjfnkhoaaDoor
