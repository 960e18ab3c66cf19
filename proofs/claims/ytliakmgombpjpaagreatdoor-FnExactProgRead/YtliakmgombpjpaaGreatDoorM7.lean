/-
  A program of one's own: its trail, small and without doubles.
-/
import Derived.Test.YtliakmgombpjpaaGreatDoorM6
import Derived.Test.YtliakmgombpjpaaGreatDoorR10
namespace Go.Proofs.YtliakmgombpjpaaGreatDoor
open Go.RowKit
set_option linter.unusedSimpArgs false
set_option linter.unusedVariables false

def Small (p : Pr) : Prop := p.cells.length ≤ 3 ∧ p.bodies.length ≤ 4 ∧ ∀ b, b ∈ p.bodies → b.length ≤ 4 ∧ ∀ a, a ∈ b → a.ds.length ≤ 5 ∧ a.ks.length ≤ 2
theorem acB_small {a : Ac} {nc body nb : Int} (h : acB a nc body nb = true) : a.ds.length ≤ 5 ∧ a.ks.length ≤ 2 := by
  unfold acB at h
  split at h
  · simp only [Bool.and_eq_true, decide_eq_true_eq, dsB] at h
    exact ⟨h.2.1, by omega⟩
  · split at h
    · simp only [Bool.and_eq_true, decide_eq_true_eq, ksB, inB] at h
      exact ⟨by omega, by omega⟩
    · split at h
      · simp only [Bool.and_eq_true, decide_eq_true_eq] at h
        exact ⟨by omega, by omega⟩
      · split at h
        · simp only [Bool.and_eq_true, decide_eq_true_eq] at h
          exact ⟨by omega, by omega⟩
        · cases h
theorem okB_small {p : Pr} (h : okB p = true) : Small p := by
  simp only [okB, foB, csB, inB, Bool.and_eq_true, decide_eq_true_eq, List.all_eq_true] at h
  obtain ⟨⟨⟨⟨h1, _⟩, h2⟩, h3⟩, _⟩ := h
  refine ⟨h1, by omega, fun b hb => ?_⟩
  obtain ⟨i, hi, rfl⟩ := List.getElem_of_mem hb
  have := h3 i (List.mem_range.2 hi)
  simp only [boB, Bool.and_eq_true, decide_eq_true_eq, List.all_eq_true] at this
  rw [nth_eq [] p.bodies i hi] at this
  exact ⟨this.1, fun a ha => acB_small (this.2 a ha)⟩
theorem rdG_small (l : List UInt8) : Small ((rdG l).getD ⟨[], []⟩) := by
  unfold rdG
  split
  · rename_i h
    exact okB_small h.2.1
  · exact ⟨Nat.zero_le _, Nat.zero_le _, fun b hb => by cases hb⟩
theorem trR_len {m n cap : Nat} {a : Option Addr} : (trR m (.slice a n cap)).length ≤ n * m := by
  rcases a with _ | ⟨b, off, _ | s⟩
  · simp [trR]
  · simp [trR, rowT_len]
  · simp [trR]
theorem own_len {w : World} {B : Nat} {e : TypeId} {size : Nat} {v : Value} {n : Nat} {xs : List Value} (h : w.ownsRow B e size v n xs) (m : Nat) : (trR m v).length ≤ n * m := by
  obtain ⟨a, cap, rfl, _⟩ := own_shape h
  exact trR_len
theorem mtAs_bound {b off : Nat} {L : List (Value × Value)} {n C : Nat} (h : ∀ i, i < n → (mtA b (off + i * 4) (nth (.slice none 0 0, .slice none 0 0) L i)).length ≤ C) : (mtAs b off L n).length ≤ n * C := by
  induction n with
  | zero => simp [mtAs]
  | succ n ih =>
    have h1 := ih fun i hi => h i (by omega)
    have h2 := h n (by omega)
    rw [mtAs, List.length_append, Nat.succ_mul]
    omega
theorem mtBs_bound {M : List (Value × List (Value × Value))} {n C : Nat} (h : ∀ i, i < n → (mtActs (nth (.slice none 0 0, []) M i).2 (nth (.slice none 0 0, []) M i).1).length ≤ C) : (mtBs M n).length ≤ n * C := by
  induction n with
  | zero => simp [mtBs]
  | succ n ih =>
    have h1 := ih fun i hi => h i (by omega)
    have h2 := h n (by omega)
    rw [mtBs, List.length_append, Nat.succ_mul]
    omega
theorem mtActs_bound {L : List (Value × Value)} {v : Value} {C : Nat} (h : ∀ d, d ∈ L → 2 + (trR 3 d.1).length + (trR 1 d.2).length ≤ C) : (mtActs L v).length ≤ L.length * C := by
  unfold mtActs
  split
  · refine mtAs_bound fun i hi => ?_
    rw [mtA_len, nth_eq _ L i hi]
    have := h _ (List.getElem_mem hi)
    omega
  · simp

/-- a program of one's own: it can be marked, and held to its marks -/
theorem OwnP.sh {B : Nat} {w : World} {cv bv : Value} {p : Pr} (h : OwnP B w cv bv p.bodies) (hc : OwnInt B w cv p.cells) (hs : Small p) :
    ∃ M, RowSh 1 w cv ∧ BodiesSh w bv M ∧ (mtP cv M).Nodup ∧ (mtP cv M).length ≤ 1000 ∧ ∀ a, a ∈ mtP cv M → ICell w a ∧ B ≤ a.block ∧ a.block < w.heap.size := by
  obtain ⟨L, e, hr, ⟨K, rfl, hK, hi, hp, hck⟩, ha⟩ := h
  rw [List.map_map] at hr e
  rw [List.length_map] at hr
  have hB : BodiesSh w bv (bdV K) := own_bodiesSh hr hK hi
  have hap : K.Pairwise fun x y => Off x.2 y.2 := by
    rw [List.pairwise_map] at ha
    refine ha.imp fun {x y} h g h1 h2 => ?_
    simp only at h
    rw [h1, h2] at h
    rcases h with h | h
    · cases h
    · exact h rfl
  have hlen : ∀ x, x ∈ K → x.1.length ≤ 4 ∧ ∀ y, y ∈ x.1 → y.1.ds.length ≤ 5 ∧ y.1.ks.length ≤ 2 := fun x hx => by
    have h1 := hs.2.2 (x.1.map (·.1)) (by rw [e]; exact List.mem_map.2 ⟨x, hx, rfl⟩)
    exact ⟨by simpa using h1.1, fun y hy => h1.2 _ (List.mem_map.2 ⟨y, hy, rfl⟩)⟩
  have hKl : K.length ≤ 4 := by have := hs.2.1; rw [e] at this; simpa using this
  refine ⟨bdV K, hc.sh, hB, mtP_nodup hc hK hi hap hp hck, ?_, fun a ha => ?_⟩
  · rw [mtP, List.length_append]
    have h1 : (trR 1 cv).length ≤ p.cells.length * 1 := own_len hc 1
    have h2 : (mtBs (bdV K) (bdV K).length).length ≤ (bdV K).length * (4 * 19) := mtBs_bound fun i hi' => by
      rw [nth_eq _ _ i hi']
      obtain ⟨x, hx, ex⟩ := List.mem_map.1 (List.getElem_mem hi')
      rw [← ex]
      have h3 := mtActs_bound (L := x.1.map (·.2)) (v := x.2) (C := 19) fun d hd => by
        obtain ⟨y, hy, rfl⟩ := List.mem_map.1 hd
        have a1 := own_len (hi x hx y hy).1 3
        have a2 := own_len (hi x hx y hy).2 1
        have a3 := (hlen x hx).2 y hy
        omega
      rw [List.length_map] at h3
      exact Nat.le_trans h3 (Nat.mul_le_mul_right 19 (hlen x hx).1)
    have h4 : (bdV K).length = K.length := by simp [bdV]
    have h5 := hs.1
    rw [h4] at h2 ⊢
    have h6 : K.length * (4 * 19) ≤ 4 * (4 * 19) := Nat.mul_le_mul_right _ hKl
    omega
  · rcases List.mem_append.1 ha with h1 | h1
    · exact ⟨(hc.sh.trail a h1).1, (hc.lt _ (trR_block h1)).1, (hc.sh.trail a h1).2⟩
    · obtain ⟨g1, g2⟩ := hB.part (Nat.le_refl _) a h1
      refine ⟨g1, ?_, g2⟩
      obtain ⟨i, hiL, hq⟩ := mtBs_mem.1 h1
      rw [nth_eq _ _ i hiL] at hq
      obtain ⟨x, hx, ex⟩ := List.mem_map.1 (List.getElem_mem hiL)
      rw [← ex] at hq
      rcases mtActs_mem hq with hq | ⟨d, hd1, hq⟩
      · exact ((hK x hx).lt _ hq).1
      · obtain ⟨y, hy, rfl⟩ := List.mem_map.1 hd1
        rcases hq with hq | hq
        · exact ((hi x hx y hy).1.lt _ hq).1
        · exact ((hi x hx y hy).2.lt _ hq).1
/-- what is written along a trail at or above a bound is made there -/
theorem wrT_below {w : World} {A : List Addr} {N : Nat} (h : ∀ a, a ∈ A → N ≤ a.block) (k : Int) : Below N w (wrT w A k) := by
  induction A generalizing w k with
  | nil => exact Below.refl _ _
  | cons a A ih => exact ((Below.refl _ _).setCell (h a (by simp)) _).trans (ih (fun b hb => h b (by simp [hb])) (k + 1))

end Go.Proofs.YtliakmgombpjpaaGreatDoor
