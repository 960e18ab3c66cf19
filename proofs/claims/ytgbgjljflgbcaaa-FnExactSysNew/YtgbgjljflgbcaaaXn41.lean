import Derived.Test.YtgbgjljflgbcaaaXn33
import Derived.Test.YtgbgjljflgbcaaaXn40
import Derived.Test.YtgbgjljflgbcaaaXn17
namespace Go.Proofs.Ytgbgjljflgbcaaa
open Go.RowKit
set_option linter.unusedSimpArgs false
set_option linter.unusedVariables false
set_option maxRecDepth 20000
theorem DeedsOn.sh {S : Nat → Prop} {w : World} {v : Value} {xs : List De} (h : DeedsOn S w v xs) (hf : ∀ b o, S b → w.frozen? ⟨b, o, none⟩ = false) :
    RowSh 3 w v ∧ (∀ p, p ∈ trR 3 v → S p.block) ∧ (trR 3 v).length ≤ xs.length * 3 := by
  obtain ⟨a, cap, rfl, hm, hc⟩ := h
  refine ⟨⟨a, xs.length, cap, rfl, by omega, fun i hi => ?_⟩, ?_, ?_⟩
  · obtain ⟨b, off, e, hS, hbw, _⟩ := hc i hi
    refine ⟨b, off, e, hbw, fun j hj => ?_⟩
    have hjd : j = j / 3 * 3 + j % 3 := by omega
    have hq : j / 3 < xs.length := by omega
    obtain ⟨b2, off2, e2, _, _, c0, c1, c2⟩ := hc (j / 3) hq
    rw [e] at e2; injection e2 with e2; injection e2 with e3 e4; subst e3 e4
    refine ⟨?_, hf _ _ hS⟩
    have hr : j = j / 3 * 3 ∨ j = j / 3 * 3 + 1 ∨ j = j / 3 * 3 + 2 := by omega
    rcases hr with hr | hr | hr
    · rw [hr]; exact ⟨_, c0⟩
    · rw [hr, ← Nat.add_assoc]; exact ⟨_, c1⟩
    · rw [hr, ← Nat.add_assoc]; exact ⟨_, c2⟩
  · intro p hp
    rcases a with _ | ⟨b, off, _ | s⟩
    · simp [trR] at hp
    · simp only [trR] at hp
      obtain ⟨j, hj, rfl⟩ := rowT_mem.1 hp
      have h0 : 0 < xs.length := by rcases Nat.eq_zero_or_pos xs.length with h | h; · rw [h] at hj; simp at hj
                                    · exact h
      obtain ⟨b2, off2, e2, hS, _⟩ := hc 0 h0
      injection e2 with e2; injection e2 with e3 e4; subst e3 e4
      exact hS
    · simp [trR] at hp
  · rcases a with _ | ⟨b, off, _ | s⟩
    · simp [trR]
    · simp [trR, rowT_len]
    · simp [trR]
theorem mtAs_len_le {b off : Nat} {L : List (Value × Value)} {n C : Nat} (h : ∀ i, i < n → (mtA b (off + i * 4) (nth (.slice none 0 0, .slice none 0 0) L i)).length ≤ C) : (mtAs b off L n).length ≤ n * C := by
  induction n with
  | zero => simp [mtAs]
  | succ n ih =>
    have h1 := ih (fun i hi => h i (by omega))
    have h2 := h n (by omega)
    rw [mtAs, List.length_append, Nat.succ_mul]; omega
theorem ActsOn.sh {S : Nat → Prop} {w : World} {v : Value} {xs : List Ac} (h : ActsOn S w v xs) (hf : ∀ b o, S b → w.frozen? ⟨b, o, none⟩ = false) (hsm : SmallB xs) :
    ∃ L : List (Value × Value), ActsSh w v L ∧ (∀ p, p ∈ mtActs L v → S p.block) ∧ (mtActs L v).length ≤ xs.length * 4194306 := by
  obtain ⟨a, cap, rfl, hm, hc⟩ := h
  obtain ⟨f, hF⟩ := @Go.Deep.choose_lt (Value × Value) ⟨(.slice none 0 0, .slice none 0 0)⟩ xs.length (fun i q => ∃ b off, a = some ⟨b, off, none⟩ ∧ S b ∧ b < w.heap.size ∧ ICell w ⟨b, off + i * 4, none⟩ ∧ w.cell? ⟨b, off + i * 4 + 1, none⟩ = some q.1 ∧ w.cell? ⟨b, off + i * 4 + 2, none⟩ = some q.2 ∧ ICell w ⟨b, off + i * 4 + 3, none⟩ ∧ RowSh 3 w q.1 ∧ RowSh 1 w q.2 ∧ (∀ p, p ∈ trR 3 q.1 → S p.block) ∧ (∀ p, p ∈ trR 1 q.2 → S p.block) ∧ (trR 3 q.1).length ≤ 3145728 ∧ (trR 1 q.2).length ≤ 1048576) (fun i hi => by
    obtain ⟨b, off, v1, v2, e, hS, hb, c0, c1, c2, c3, h1, h2⟩ := hc i hi
    obtain ⟨k1, t1, l1⟩ := h1.sh hf
    have b1 : (nth Ac.z xs i).ds.length ≤ 1048576 := (hsm.2 i hi).1
    obtain ⟨k2, t2, l2⟩ := h2.sh hf
    have b2 : (nth Ac.z xs i).ks.length ≤ 1048576 := (hsm.2 i hi).2
    exact ⟨(v1, v2), b, off, e, hS, hb, ⟨⟨_, c0⟩, hf _ _ hS⟩, c1, c2, ⟨⟨_, c3⟩, hf _ _ hS⟩, k1, k2, t1, t2, by dsimp only; omega, by dsimp only; omega⟩)
  have hL : ((List.range xs.length).map f).length = xs.length := by simp
  refine ⟨(List.range xs.length).map f, ⟨a, cap, by rw [hL], by rw [hL]; omega, fun i hi => ?_⟩, ?_, ?_⟩
  · have hi' : i < xs.length := by simpa using hi
    obtain ⟨b, off, e, _, hb, c0, c1, c2, c3, k1, k2, _⟩ := hF i hi'
    refine ⟨b, off, e, hb, ?_⟩
    rw [nth_range' _ _ _ _ hi']
    exact ⟨c0, c1, c2, c3, k1, k2⟩
  · intro p hp
    rcases a with _ | ⟨b, off, _ | s⟩
    · simp [mtActs] at hp
    · simp only [mtActs] at hp
      obtain ⟨i, hi, hp⟩ := mtAs_mem.1 hp
      have hi' : i < xs.length := by simpa using hi
      obtain ⟨b2, off2, e2, hS, hb, c0, c1, c2, c3, k1, k2, t1, t2, _⟩ := hF i hi'
      injection e2 with e2; injection e2 with e3 e4; subst e3 e4
      rw [nth_range' _ _ _ _ hi'] at hp
      simp only [mtA, List.mem_append, List.mem_singleton] at hp
      rcases hp with rfl | hp | hp | rfl
      · exact hS
      · exact t1 p hp
      · exact t2 p hp
      · exact hS
    · simp [mtActs] at hp
  · rcases a with _ | ⟨b, off, _ | s⟩
    · simp [mtActs]
    · simp only [mtActs, hL]
      refine mtAs_len_le (fun i hi => ?_)
      obtain ⟨b2, off2, e2, hS, hb, c0, c1, c2, c3, k1, k2, t1, t2, l1, l2⟩ := hF i hi
      rw [nth_range' _ _ _ _ hi, mtA_len]
      omega
    · simp [mtActs]
theorem mtBs_len_le {M : List (Value × List (Value × Value))} {n C : Nat} (h : ∀ i, i < n → (mtActs (nth (.slice none 0 0, []) M i).2 (nth (.slice none 0 0, []) M i).1).length ≤ C) : (mtBs M n).length ≤ n * C := by
  induction n with
  | zero => simp [mtBs]
  | succ n ih =>
    have h1 := ih (fun i hi => h i (by omega))
    have h2 := h n (by omega)
    rw [mtBs, List.length_append, Nat.succ_mul]; omega
theorem BodiesOn.sh {S : Nat → Prop} {w : World} {v : Value} {xs : List (List Ac)} (h : BodiesOn S w v xs) (hf : ∀ b o, S b → w.frozen? ⟨b, o, none⟩ = false) (hsm : SmallBs xs) :
    ∃ M : List (Value × List (Value × Value)), BodiesSh w v M ∧ (∀ p, p ∈ mtBs M M.length → S p.block) ∧ (mtBs M M.length).length ≤ xs.length * (1048576 * 4194306) := by
  obtain ⟨a, cap, rfl, hm, hc⟩ := h
  obtain ⟨f, hF⟩ := @Go.Deep.choose_lt (Value × List (Value × Value)) ⟨(.slice none 0 0, [])⟩ xs.length (fun i q => ∃ b off, a = some ⟨b, off, none⟩ ∧ b < w.heap.size ∧ w.cell? ⟨b, off + i, none⟩ = some q.1 ∧ ActsSh w q.1 q.2 ∧ (∀ p, p ∈ mtActs q.2 q.1 → S p.block) ∧ (mtActs q.2 q.1).length ≤ 1048576 * 4194306) (fun i hi => by
    obtain ⟨b, off, av, e, hS, hb, c0, hA⟩ := hc i hi
    obtain ⟨L, k1, k2, k3⟩ := hA.sh hf (hsm.2 i hi)
    have hl := (hsm.2 i hi).1
    exact ⟨(av, L), b, off, e, hb, c0, k1, k2, Nat.le_trans k3 (Nat.mul_le_mul_right _ hl)⟩)
  have hL : ((List.range xs.length).map f).length = xs.length := by simp
  refine ⟨(List.range xs.length).map f, ⟨a, cap, by rw [hL], by rw [hL]; omega, fun i hi => ?_⟩, ?_, ?_⟩
  · have hi' : i < xs.length := by simpa using hi
    obtain ⟨b, off, e, hb, c0, hA, _⟩ := hF i hi'
    refine ⟨b, off, e, hb, ?_⟩
    rw [nth_range' _ _ _ _ hi']
    exact ⟨c0, hA⟩
  · intro p hp
    obtain ⟨i, hi, hp⟩ := mtBs_mem.1 hp
    have hi' : i < xs.length := by simpa using hi
    obtain ⟨b, off, e, hb, c0, hA, hT, _⟩ := hF i hi'
    rw [nth_range' _ _ _ _ hi'] at hp
    exact hT p hp
  · rw [hL]
    refine mtBs_len_le (fun i hi => ?_)
    obtain ⟨b, off, e, hb, c0, hA, hT, hl⟩ := hF i hi
    rw [nth_range' _ _ _ _ hi]
    exact hl
end Go.Proofs.Ytgbgjljflgbcaaa
