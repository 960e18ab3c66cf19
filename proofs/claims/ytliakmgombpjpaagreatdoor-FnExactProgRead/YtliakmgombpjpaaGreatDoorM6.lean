/-
  A trail that meets no place twice.
-/
import Derived.Test.YtliakmgombpjpaaGreatDoorM5
namespace Go.Proofs.YtliakmgombpjpaaGreatDoor
open Go.RowKit
set_option linter.unusedSimpArgs false
set_option linter.unusedVariables false

theorem trR_block {m : Nat} {v : Value} {p : Addr} (h : p ∈ trR m v) : v.ownBlock = some p.block := by
  unfold trR at h
  split at h
  · obtain ⟨i, _, rfl⟩ := rowT_mem.1 h; rfl
  · cases h
theorem trR_nodup (m : Nat) (v : Value) : (trR m v).Nodup := by
  unfold trR
  split
  · exact rowT_nodup _ _ _
  · exact List.nodup_nil
/-- a block of rows of this type -/
def TagOf (w : World) (g : Nat) (t : TypeId) : Prop := ∃ cur, w.heap[g]? = some (Obj.cells cur t (0, 0))
theorem TagOf.one {w : World} {g : Nat} {t t' : TypeId} (h : TagOf w g t) (h' : TagOf w g t') : t = t' := by
  obtain ⟨c, h⟩ := h
  obtain ⟨c', h'⟩ := h'
  rw [h] at h'
  injection h' with h'
  injection h'
theorem own_tagOf {w : World} {B : Nat} {e : TypeId} {size : Nat} {v : Value} {n : Nat} {xs : List Value} {g : Nat} (h : w.ownsRow B e size v n xs) (hg : v.ownBlock = some g) : TagOf w g e := by
  rcases h.2 with ⟨rfl, _⟩ | ⟨g', cap, cur, rfl, hb, hgg, _⟩
  · cases hg
  · injection hg with hg; subst hg; exact ⟨cur, hgg⟩
/-- the blocks of what an act holds -/
def ib (d : Value × Value) (g : Nat) : Prop := d.1.ownBlock = some g ∨ d.2.ownBlock = some g
theorem mtA_mem {b o : Nat} {d : Value × Value} {p : Addr} (h : p ∈ mtA b o d) : (p.block = b ∧ (p.off = o ∨ p.off = o + 3)) ∨ ib d p.block := by
  simp only [mtA, List.mem_append, List.mem_singleton] at h
  rcases h with rfl | h | h | rfl
  · exact .inl ⟨rfl, .inl rfl⟩
  · exact .inr (.inl (trR_block h))
  · exact .inr (.inr (trR_block h))
  · exact .inl ⟨rfl, .inr rfl⟩
theorem mtA_nodup {b o : Nat} {d : Value × Value} (h1 : ¬ ib d b) (h2 : ∀ g, d.1.ownBlock = some g → d.2.ownBlock ≠ some g) : (mtA b o d).Nodup := by
  rw [mtA, List.nodup_append, List.nodup_append, List.nodup_append]
  refine ⟨by simp, ⟨trR_nodup _ _, ⟨trR_nodup _ _, by simp, fun x hx y hy e => ?_⟩, fun x hx y hy e => ?_⟩, fun x hx y hy e => ?_⟩
  · simp at hy; subst hy; subst e
    exact h1 (.inr (trR_block hx))
  · subst e
    rcases List.mem_append.1 hy with hy | hy
    · exact h2 _ (trR_block hx) (trR_block hy)
    · simp at hy; subst hy
      exact h1 (.inl (trR_block hx))
  · simp at hx; subst hx; subst e
    rcases List.mem_append.1 hy with hy | hy
    · exact h1 (.inl (trR_block hy))
    · rcases List.mem_append.1 hy with hy | hy
      · exact h1 (.inr (trR_block hy))
      · simp at hy
theorem mtAs_nodup {b off : Nat} {L : List (Value × Value)} {n : Nat} (h1 : ∀ i, i < n → ¬ ib (nth (.slice none 0 0, .slice none 0 0) L i) b) (h2 : ∀ i, i < n → ∀ g, (nth (.slice none 0 0, .slice none 0 0) L i).1.ownBlock = some g → (nth (.slice none 0 0, .slice none 0 0) L i).2.ownBlock ≠ some g)
    (h3 : ∀ i j, i < j → j < n → ∀ g, ib (nth (.slice none 0 0, .slice none 0 0) L i) g → ¬ ib (nth (.slice none 0 0, .slice none 0 0) L j) g) : (mtAs b off L n).Nodup := by
  induction n with
  | zero => exact List.nodup_nil
  | succ n ih =>
    rw [mtAs, List.nodup_append]
    refine ⟨ih (fun i hi => h1 i (by omega)) (fun i hi => h2 i (by omega)) (fun i j hij hj => h3 i j hij (by omega)), mtA_nodup (h1 n (by omega)) (h2 n (by omega)), fun x hx y hy e => ?_⟩
    subst e
    obtain ⟨i, hi, hx⟩ := mtAs_mem.1 hx
    rcases mtA_mem hx with ⟨e1, e2⟩ | hx
    · rcases mtA_mem hy with ⟨e3, e4⟩ | hy
      · omega
      · rw [e1] at hy; exact h1 n (by omega) hy
    · rcases mtA_mem hy with ⟨e3, e4⟩ | hy
      · rw [e3] at hx; exact h1 i (by omega) hx
      · exact h3 i n hi (by omega) _ hx hy
theorem mtActs_mem {L : List (Value × Value)} {v : Value} {p : Addr} (h : p ∈ mtActs L v) : v.ownBlock = some p.block ∨ ∃ d, d ∈ L ∧ ib d p.block := by
  unfold mtActs at h
  split at h
  · obtain ⟨i, hi, hp⟩ := mtAs_mem.1 h
    rcases mtA_mem hp with ⟨e1, _⟩ | hp
    · exact .inl (by rw [e1]; rfl)
    · rw [nth_eq _ L i hi] at hp
      exact .inr ⟨_, List.getElem_mem hi, hp⟩
  · cases h
theorem mtActs_nodup {L : List (Value × Value)} {v : Value} (h1 : ∀ d, d ∈ L → ∀ g, v.ownBlock = some g → ¬ ib d g) (h2 : ∀ d, d ∈ L → ∀ g, d.1.ownBlock = some g → d.2.ownBlock ≠ some g) (h3 : L.Pairwise fun d d' => ∀ g, ib d g → ¬ ib d' g) : (mtActs L v).Nodup := by
  unfold mtActs
  split
  · refine mtAs_nodup (fun i hi => ?_) (fun i hi => ?_) (fun i j hij hj => ?_)
    · rw [nth_eq _ L i hi]; exact h1 _ (List.getElem_mem hi) _ rfl
    · rw [nth_eq _ L i hi]; exact h2 _ (List.getElem_mem hi)
    · rw [nth_eq _ L i (by omega), nth_eq _ L j hj]; exact List.pairwise_iff_getElem.1 h3 i j (by omega) hj hij
  · exact List.nodup_nil
theorem mtBs_nodup {M : List (Value × List (Value × Value))} {n : Nat} (hn : n ≤ M.length) (h1 : ∀ x, x ∈ M → (mtActs x.2 x.1).Nodup) (h2 : M.Pairwise fun x y => ∀ p, p ∈ mtActs x.2 x.1 → p ∉ mtActs y.2 y.1) : (mtBs M n).Nodup := by
  induction n with
  | zero => exact List.nodup_nil
  | succ n ih =>
    rw [mtBs, List.nodup_append]
    refine ⟨ih (by omega), ?_, fun x hx y hy e => ?_⟩
    · rw [nth_eq _ M n (by omega)]; exact h1 _ (List.getElem_mem _)
    · subst e
      obtain ⟨i, hi, hx⟩ := mtBs_mem.1 hx
      rw [nth_eq _ M i (by omega)] at hx
      rw [nth_eq _ M n (by omega)] at hy
      exact List.pairwise_iff_getElem.1 h2 i n (by omega) (by omega) hi x hx hy

/-- the trail of a program of one's own meets no place twice -/
theorem mtP_nodup {w : World} {B : Nat} {cv : Value} {cs : List Int} {L : List (List (Ac × Value × Value) × Value)} (hc : OwnInt B w cv cs)
    (hr : ∀ x, x ∈ L → w.ownsRow B 44 4 x.2 x.1.length (acCells x.1)) (hi : ∀ x, x ∈ L → ∀ y, y ∈ x.1 → OwnDe B w y.2.1 y.1.ds ∧ OwnInt B w y.2.2 y.1.ks)
    (ha : L.Pairwise fun x y => Off x.2 y.2) (hin : (L.map (·.1)).flatten.Pairwise fun x y => Off x.2.1 y.2.1 ∧ Off x.2.2 y.2.2) (hck : ∀ x, x ∈ (L.map (·.1)).flatten → Off cv x.2.2) : (mtP cv (bdV L)).Nodup := by
  rw [List.pairwise_flatten] at hin
  have hd : ∀ x, x ∈ L → ∀ y, y ∈ x.1 → ∀ g, y.2.1.ownBlock = some g → TagOf w g 79 := fun x hx y hy g hg => own_tagOf (hi x hx y hy).1 hg
  have hk : ∀ x, x ∈ L → ∀ y, y ∈ x.1 → ∀ g, y.2.2.ownBlock = some g → TagOf w g 3 := fun x hx y hy g hg => own_tagOf (hi x hx y hy).2 hg
  have har : ∀ x, x ∈ L → ∀ g, x.2.ownBlock = some g → TagOf w g 44 := fun x hx g hg => own_tagOf (hr x hx) hg
  have hsep : ∀ x, x ∈ L → ∀ y, y ∈ x.1 → ∀ x', x' ∈ L → ∀ y', y' ∈ x'.1 → (Off y.2.1 y'.2.1 ∧ Off y.2.2 y'.2.2) → ∀ g, ib y.2 g → ¬ ib y'.2 g := by
    intro x hx y hy x' hx' y' hy' ho g h1 h2
    rcases h1 with h1 | h1 <;> rcases h2 with h2 | h2
    · exact ho.1 g h1 h2
    · exact absurd ((hd x hx y hy g h1).one (hk x' hx' y' hy' g h2)) (by decide)
    · exact absurd ((hk x hx y hy g h1).one (hd x' hx' y' hy' g h2)) (by decide)
    · exact ho.2 g h1 h2
  have hact : ∀ x, x ∈ L → ∀ x', x' ∈ L → ∀ y, y ∈ x'.1 → ∀ g, x.2.ownBlock = some g → ¬ ib y.2 g := by
    intro x hx x' hx' y hy g h1 h2
    rcases h2 with h2 | h2
    · exact absurd ((har x hx g h1).one (hd x' hx' y hy g h2)) (by decide)
    · exact absurd ((har x hx g h1).one (hk x' hx' y hy g h2)) (by decide)
  rw [mtP, List.nodup_append]
  refine ⟨trR_nodup _ _, mtBs_nodup (Nat.le_refl _) (fun z hz => ?_) ?_, fun p hp q hq e => ?_⟩
  · obtain ⟨x, hx, rfl⟩ := List.mem_map.1 hz
    refine mtActs_nodup (fun d hd' g hg => ?_) (fun d hd' g h1 h2 => ?_) ?_
    · obtain ⟨y, hy, rfl⟩ := List.mem_map.1 hd'
      exact hact x hx x hx y hy g hg
    · obtain ⟨y, hy, rfl⟩ := List.mem_map.1 hd'
      exact absurd ((hd x hx y hy g h1).one (hk x hx y hy g h2)) (by decide)
    · rw [List.pairwise_map]
      have := hin.1 x.1 (List.mem_map.2 ⟨x, hx, rfl⟩)
      exact this.imp_of_mem fun {y y'} hy hy' ho => hsep x hx y hy x hx y' hy' ho
  · rw [bdV, List.pairwise_map]
    have h2 := hin.2
    rw [List.pairwise_map] at h2
    refine (ha.and h2).imp_of_mem fun {x x'} hx hx' ho p hp hq => ?_
    rcases mtActs_mem hp with hp | ⟨d, hd1, hp⟩ <;> rcases mtActs_mem hq with hq | ⟨d', hd2, hq⟩
    · exact ho.1 _ hp hq
    · obtain ⟨y, hy, rfl⟩ := List.mem_map.1 hd2
      exact hact x hx x' hx' y hy _ hp hq
    · obtain ⟨y, hy, rfl⟩ := List.mem_map.1 hd1
      exact hact x' hx' x hx y hy _ hq hp
    · obtain ⟨y, hy, rfl⟩ := List.mem_map.1 hd1
      obtain ⟨y', hy', rfl⟩ := List.mem_map.1 hd2
      exact hsep x hx y hy x' hx' y' hy' (ho.2 y hy y' hy') _ hp hq
  · subst e
    have hcg := trR_block hp
    have hct := own_tagOf hc hcg
    obtain ⟨i, hiL, hq⟩ := mtBs_mem.1 hq
    rw [nth_eq _ _ i hiL] at hq
    have hz : (bdV L)[i] ∈ bdV L := List.getElem_mem hiL
    obtain ⟨x, hx, ex⟩ := List.mem_map.1 hz
    rw [← ex] at hq
    rcases mtActs_mem hq with hq | ⟨d, hd1, hq⟩
    · exact absurd (hct.one (har x hx _ hq)) (by decide)
    · obtain ⟨y, hy, rfl⟩ := List.mem_map.1 hd1
      rcases hq with hq | hq
      · exact absurd (hct.one (hd x hx y hy _ hq)) (by decide)
      · exact hck y (List.mem_flatten.2 ⟨x.1, List.mem_map.2 ⟨x, hx, rfl⟩, hy⟩) _ hcg hq

end Go.Proofs.YtliakmgombpjpaaGreatDoor
