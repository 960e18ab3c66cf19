import Derived.Test.YtpehlekjfnkhoaaDoorD7
namespace Go.Proofs.YtpehlekjfnkhoaaDoor
open Go.RowKit
set_option linter.unusedSimpArgs false
set_option linter.unusedVariables false

theorem IntsOn.bound {S : Nat → Prop} {w : World} {v : Value} {xs : List Int} (h : IntsOn S w v xs) : IntsOn (fun b => S b ∧ b < w.heap.size) w v xs := by
  obtain ⟨a, cap, rfl, hm, hc⟩ := h
  exact ⟨a, cap, rfl, hm, fun i hi => let ⟨b, off, e, h1, h2⟩ := hc i hi; ⟨b, off, e, ⟨h1, h2.1⟩, h2⟩⟩
theorem DeedsOn.bound {S : Nat → Prop} {w : World} {v : Value} {xs : List De} (h : DeedsOn S w v xs) : DeedsOn (fun b => S b ∧ b < w.heap.size) w v xs := by
  obtain ⟨a, cap, rfl, hm, hc⟩ := h
  exact ⟨a, cap, rfl, hm, fun i hi => let ⟨b, off, e, h1, h2⟩ := hc i hi; ⟨b, off, e, ⟨h1, h2.1⟩, h2⟩⟩
theorem ActsOn.bound {S : Nat → Prop} {w : World} {v : Value} {xs : List Ac} (h : ActsOn S w v xs) : ActsOn (fun b => S b ∧ b < w.heap.size) w v xs := by
  obtain ⟨a, cap, rfl, hm, hc⟩ := h
  exact ⟨a, cap, rfl, hm, fun i hi => let ⟨b, off, dv, kv, e, h1, h2, h3, h4, h5, h6, h7, h8⟩ := hc i hi; ⟨b, off, dv, kv, e, ⟨h1, h2⟩, h2, h3, h4, h5, h6, h7.bound, h8.bound⟩⟩
theorem BodiesOn.bound {S : Nat → Prop} {w : World} {v : Value} {xs : List (List Ac)} (h : BodiesOn S w v xs) : BodiesOn (fun b => S b ∧ b < w.heap.size) w v xs := by
  obtain ⟨a, cap, rfl, hm, hc⟩ := h
  exact ⟨a, cap, rfl, hm, fun i hi => let ⟨b, off, av, e, h1, h2, h3, h4⟩ := hc i hi; ⟨b, off, av, e, ⟨h1, h2⟩, h2, h3, h4.bound⟩⟩
theorem Kept.fr {R Wb : Nat} {w w' : World} (h : Fr R Wb w w') (hs : Wb = w.heap.size) : Kept (fun b => b ≠ R ∧ b < Wb) w w' := ⟨h.size, fun b o hb _ => h.cell hb.2 hb.1⟩

def Rw (Wb : Nat) (w : World) (v : Value) (L : List (Ac × Value × Value)) : Prop := w.ownsRow Wb 34 4 v L.length (acCells L)
/-- bodies that were copied: their rows are the call's own, each a block of its own; what acts hold is old -/
structure OutB (S : Nat → Prop) (Wb : Nat) (w : World) (ov : Value) (LB : List (List (Ac × Value × Value) × Value)) : Prop where
  row : w.ownsRow Wb 31 1 ov LB.length (LB.map (·.2))
  rows : ∀ y, y ∈ LB → Rw Wb w y.2 y.1
  inner : ∀ y, y ∈ LB → ∀ x, x ∈ y.1 → DeedsOn S w x.2.1 x.1.ds ∧ IntsOn S w x.2.2 x.1.ks
  apart : LB.Pairwise (fun y z => ∀ g, y.2.ownBlock = some g → z.2.ownBlock ≠ some g)
theorem OutB.at {S : Nat → Prop} {Wb : Nat} {w : World} {ov : Value} {LB : List (List (Ac × Value × Value) × Value)} (h : OutB S Wb w ov LB) : BodiesAt w ov (LB.map fun y => y.1.map (·.1)) := by
  obtain ⟨a, cap, rfl, h1, h2⟩ := own_shape h.row
  have hl := h.row.1
  refine ⟨a, cap, by simp, by simp; omega, fun i hi => ?_⟩
  have hi' : i < LB.length := by simpa using hi
  obtain ⟨g, c, hv, hg, _, hc⟩ := own_cell h.row i (by omega)
  injection hv with e1
  have hm := List.getElem_mem hi'
  have hn : nth [] (LB.map fun y => y.1.map (·.1)) i = LB[i].1.map (·.1) := by rw [nth_eq _ _ _ hi]; simp
  refine ⟨g, 0, LB[i].2, e1, hg, ?_⟩
  rw [hn, Nat.zero_add]
  refine ⟨?_, rowActs_at (h.rows _ hm) fun x hx => ⟨(h.inner _ hm x hx).1.at, (h.inner _ hm x hx).2.at⟩⟩
  rcases hc i with h3 | h3
  · rw [h3]; simp [hi']
  · simp at h3; omega
/-- a world in which old memory, and all blocks of these types, are as they were -/
theorem OutB.kept {S : Nat → Prop} {Wb : Nat} {w w' : World} {ov : Value} {LB : List (List (Ac × Value × Value) × Value)} (h : OutB S Wb w ov LB) (h1 : w'.ownsRow Wb 31 1 ov LB.length (LB.map (·.2))) (h2 : ∀ y, y ∈ LB → Rw Wb w' y.2 y.1) (hk : Kept S w w') : OutB S Wb w' ov LB :=
  ⟨h1, h2, fun y hy x hx => ⟨(h.inner y hy x hx).1.kept hk, (h.inner y hy x hx).2.kept hk⟩, h.apart⟩
theorem OutB.fr {S : Nat → Prop} {R Wb : Nat} {w w' : World} {ov : Value} {LB : List (List (Ac × Value × Value) × Value)} (h : OutB S Wb w ov LB) (hf : Fr R w.heap.size w w') (hR : R < Wb) (hS : ∀ b, S b → b ≠ R) : OutB S Wb w' ov LB :=
  h.kept (own_fr h.row hf hR) (fun y hy => own_fr (h.rows y hy) hf hR) ⟨hf.size, fun b o hb hlt => hf.cell hlt (hS b hb)⟩
theorem OutB.tag {S : Nat → Prop} {t : TypeId} {Wb : Nat} {w w' : World} {ov : Value} {LB : List (List (Ac × Value × Value) × Value)} (h : OutB S Wb w ov LB) (hk : TagKept t w w') (h0 : 31 ≠ t) (h1 : 34 ≠ t) (hK : Kept S w w') : OutB S Wb w' ov LB :=
  h.kept (own_tag h.row hk h0) (fun y hy => own_tag (h.rows y hy) hk h1) hK
theorem OutB.snoc {S : Nat → Prop} {Wb : Nat} {w w' : World} {ov ov' v : Value} {LB : List (List (Ac × Value × Value) × Value)} {L : List (Ac × Value × Value)} (h : OutB S Wb w ov LB) (hr : Rw Wb w v L) (hin : ∀ x, x ∈ L → DeedsOn S w x.2.1 x.1.ds ∧ IntsOn S w x.2.2 x.1.ks)
    (hfresh : ∀ y, y ∈ LB → ∀ g, y.2.ownBlock = some g → v.ownBlock ≠ some g) (ho : w'.ownsRow Wb 31 1 ov' (LB.length + 1) (LB.map (·.2) ++ [v])) (hg : w.grownBy w' ov.ownBlock) (hK : Kept S w w') : OutB S Wb w' ov' (LB ++ [(L, v)]) := by
  have T := TagKept.grown h.row hg
  refine ⟨by rw [List.map_append, List.length_append]; exact ho, fun y hy => ?_, fun y hy x hx => ?_, ?_⟩
  · rcases List.mem_append.1 hy with h1 | h1
    · exact own_tag (h.rows y h1) T (by decide)
    · rcases List.mem_singleton.1 h1 with rfl
      exact own_tag hr T (by decide)
  · rcases List.mem_append.1 hy with h1 | h1
    · exact ⟨(h.inner y h1 x hx).1.kept hK, (h.inner y h1 x hx).2.kept hK⟩
    · rcases List.mem_singleton.1 h1 with rfl
      exact ⟨(hin x hx).1.kept hK, (hin x hx).2.kept hK⟩
  · rw [List.pairwise_append]
    refine ⟨h.apart, by simp, fun y hy z hz => ?_⟩
    rcases List.mem_singleton.1 hz with rfl
    exact hfresh y hy

end Go.Proofs.YtpehlekjfnkhoaaDoor
