import Derived.Test.YtpehlekjfnkhoaaDoorD12
namespace Go.Proofs.YtpehlekjfnkhoaaDoor
open Go.RowKit
set_option linter.unusedSimpArgs false
set_option linter.unusedVariables false

theorem nth_snoc_nil (bs : List (List Ac)) (i : Nat) : nth [] (bs ++ [[]]) i = nth [] bs i := by
  unfold nth
  simp only [List.getD_eq_getElem?_getD]
  rcases Nat.lt_trichotomy i bs.length with h | h | h
  · rw [List.getElem?_append_left h]
  · subst h; simp
  · rw [List.getElem?_eq_none (by simp; omega), List.getElem?_eq_none (by omega)]
theorem tr_snoc (p : Pr) : ∀ f i, tr ⟨p.cells, p.bodies ++ [[]]⟩ f i = tr p f i := by
  intro f
  induction f with
  | zero => intro i; rfl
  | succ f ih =>
    intro i
    simp only [tr, nth_snoc_nil]
    rw [show tr ⟨p.cells, p.bodies ++ [[]]⟩ f = tr p f from funext ih]
theorem ksB_more {ks : List Int} {body nb : Int} (h : ksB ks body nb = true) : ksB ks body (nb + 1) = true := by
  unfold ksB at *
  simp only [Bool.and_eq_true, List.all_eq_true] at *
  refine ⟨h.1, fun k hk => ?_⟩
  have := h.2 k hk
  unfold kidB inB at *
  simp only [decide_eq_true_eq] at *
  omega
theorem acB_more {a : Ac} {nc body nb : Int} (h : acB a nc body nb = true) : acB a nc body (nb + 1) = true := by
  unfold acB at *
  split
  · rename_i h1; rw [if_pos h1] at h; exact h
  · rename_i h1
    rw [if_neg h1] at h
    split
    · rename_i h2
      rw [if_pos h2] at h
      simp only [Bool.and_eq_true] at h ⊢
      exact ⟨h.1, ksB_more h.2⟩
    · rename_i h2; rw [if_neg h2] at h; exact h
/-- with a body of nothing more it is a program just if there is room -/
theorem okB_more {p : Pr} (h : okB p = true) : okB ⟨p.cells, p.bodies ++ [[]]⟩ = decide (p.bodies.length < 4) := by
  unfold okB foB at *
  simp only [Bool.and_eq_true, decide_eq_true_eq, List.all_eq_true, List.mem_range] at h
  obtain ⟨⟨⟨h1, h2⟩, h3⟩, h4⟩ := h
  by_cases hl : p.bodies.length < 4
  · simp only [hl, decide_true, Bool.and_eq_true, decide_eq_true_eq, List.all_eq_true, List.mem_range, tr_snoc]
    refine ⟨⟨⟨h1, by unfold inB; simp; omega⟩, fun i hi => ?_⟩, h4⟩
    unfold boB
    simp only [nth_snoc_nil, Bool.and_eq_true, decide_eq_true_eq, List.all_eq_true]
    by_cases hi' : i < p.bodies.length
    · obtain ⟨b1, b2⟩ := boB_acts (h3 i hi')
      refine ⟨b1, fun a ha => ?_⟩
      have := acB_more (b2 a ha)
      simpa using this
    · have : nth [] p.bodies i = [] := by unfold nth; simp [List.getD_eq_getElem?_getD, List.getElem?_eq_none (Nat.le_of_not_lt hi')]
      rw [this]
      exact ⟨by simp, fun a ha => by simp at ha⟩
  · have : inB ((p.bodies ++ [[]]).length : Nat) 1 4 = false := by unfold inB; simp; omega
    rw [this]
    simp [hl]
theorem okB_none (cs : List Int) : okB ⟨cs, []⟩ = false := by
  unfold okB foB
  have : inB (([] : List (List Ac)).length : Nat) 1 4 = false := by decide
  rw [this]
  simp

/-- the headers of bodies, to be copied -/
theorem bodies_src {w : World} {v : Value} {bs : List (List Ac)} (h : BodiesAt w v bs) (h0 : 0 < bs.length) :
    ∃ (N : List Value) (b off cap : Nat), N.length = bs.length ∧ v = .slice (some ⟨b, off, none⟩) bs.length cap ∧ b < w.heap.size ∧ (∀ u, u ∈ N → u.oneCell' = true) ∧ (∀ j u, N[j]? = some u → w.cell? ((⟨b, off, none⟩ : Addr).add j) = some u) ∧ ∀ i, (hi : i < N.length) → ActsAt w N[i] (nth [] bs i) := by
  obtain ⟨ao, cap, rfl, hm, hc⟩ := h
  obtain ⟨f, hf⟩ := @Go.Deep.choose_lt Value ⟨.slice none 0 0⟩ bs.length (fun i av => ∃ b off, ao = some ⟨b, off, none⟩ ∧ b < w.heap.size ∧ w.cell? ⟨b, off + i, none⟩ = some av ∧ ActsAt w av (nth [] bs i)) (fun i hi => by
      obtain ⟨b, off, av, e1, e2, e3, e4⟩ := hc i hi
      exact ⟨av, b, off, e1, e2, e3, e4⟩)
  obtain ⟨b, off, e, hb, _⟩ := hf 0 h0
  subst e
  refine ⟨(List.range bs.length).map f, b, off, cap, by simp, rfl, hb, ?_, ?_, ?_⟩
  · intro u hu
    obtain ⟨i, hi, rfl⟩ := List.mem_map.1 hu
    obtain ⟨_, _, _, _, _, ha⟩ := hf i (List.mem_range.1 hi)
    obtain ⟨_, _, hv, _⟩ := ha
    rw [hv]; rfl
  · intro j u hj
    have hjl : j < bs.length := by
      rcases Nat.lt_or_ge j bs.length with h | h
      · exact h
      · rw [List.getElem?_eq_none (by simpa using h)] at hj; cases hj
    obtain ⟨b', off', e', _, hcell, _⟩ := hf j hjl
    injection e' with e2
    injection e2 with e3 e4
    subst e3 e4
    rw [Go.WideShapes.add_plain, hcell]
    simpa [hjl] using hj
  · intro i hi
    have hi' : i < bs.length := by simpa using hi
    obtain ⟨_, _, _, _, _, ha⟩ := hf i hi'
    simpa using ha
/-- copied, with a body of nothing behind them -/
theorem bodies_more {B : Nat} {V w : World} {v : Value} {bs : List (List Ac)} {N : List Value} (hr : w.ownsRow B 31 1 v (bs.length + 1) (N ++ [.slice none 0 0])) (hN : N.length = bs.length) (hin : ∀ i, (hi : i < N.length) → ActsAt V N[i] (nth [] bs i)) (hb : Below V.heap.size V w) : BodiesAt w v (bs ++ [[]]) := by
  obtain ⟨a, cap, rfl, h1, h2⟩ := own_shape hr
  refine ⟨a, cap, by simp, by simp; omega, fun i hi => ?_⟩
  have hi' : i < bs.length + 1 := by simpa using hi
  obtain ⟨g, c, hv, hg, _, hc⟩ := own_cell hr i (by simp; omega)
  injection hv with e1
  have hx : w.cell? ⟨g, i, none⟩ = (N ++ [Value.slice none 0 0])[i]? := by
    rcases hc i with h3 | h3
    · exact h3
    · simp at h3; omega
  rw [nth_snoc_nil]
  by_cases hlt : i < bs.length
  · refine ⟨g, 0, N[i]'(by omega), e1, hg, ?_, (hin i (by omega)).mono hb⟩
    rw [Nat.zero_add, hx, List.getElem?_append_left (by omega)]
    simp [hN, hlt]
  · have hie : i = bs.length := by omega
    refine ⟨g, 0, .slice none 0 0, e1, hg, ?_, ?_⟩
    · rw [Nat.zero_add, hx, hie, ← hN]; simp
    · have : nth [] bs i = [] := by unfold nth; simp [List.getD_eq_getElem?_getD, List.getElem?_eq_none (Nat.le_of_not_lt hlt)]
      rw [this]
      exact ⟨none, 0, rfl, by simp, fun j hj => absurd hj (by simp)⟩
theorem own_empty {w : World} {B b : Nat} {e : TypeId} (h : w.heap[b]? = some (.cells #[] e (0, 0))) (hB : B ≤ b) : w.ownsRow B e 1 (.slice (some ⟨b, 0, none⟩) 0 0) 0 [] :=
  ⟨by simp, .inr ⟨b, 0, #[], rfl, hB, h, by simp, by unfold maxLen; omega, by simp, by simp⟩⟩
theorem one_src {w : World} {g : Nat} (h : w.cell? ⟨g, 0, none⟩ = some (.slice none 0 0)) : ∀ j u, [Value.slice none 0 0][j]? = some u → w.cell? ((⟨g, 0, none⟩ : Addr).add j) = some u := by
  intro j u hj
  rcases j with _ | j
  · simp at hj; subst hj; rw [Go.WideShapes.add_plain]; exact h
  · simp at hj

end Go.Proofs.YtpehlekjfnkhoaaDoor
