import Derived.Test.YtgbgjljflgbcaaaNe15
import Derived.Test.YtgbgjljflgbcaaaNe07
import Derived.Handy
namespace Go.Proofs.Ytgbgjljflgbcaaa
open Go.RowKit
set_option linter.unusedSimpArgs false
set_option linter.unusedVariables false
set_option maxRecDepth 20000
end Go.Proofs.Ytgbgjljflgbcaaa

namespace Go.Proofs.Ytgbgjljflgbcaaa
open Go.RowKit
set_option linter.unusedSimpArgs false
set_option linter.unusedVariables false
set_option maxRecDepth 20000
end Go.Proofs.Ytgbgjljflgbcaaa

namespace Go.Proofs.Ytgbgjljflgbcaaa
open Go.RowKit
set_option linter.unusedSimpArgs false
set_option linter.unusedVariables false
set_option maxRecDepth 20000
end Go.Proofs.Ytgbgjljflgbcaaa

namespace Go.Proofs.Ytgbgjljflgbcaaa
open Go.RowKit
set_option linter.unusedSimpArgs false
set_option linter.unusedVariables false
set_option maxRecDepth 20000
end Go.Proofs.Ytgbgjljflgbcaaa

namespace Go.Proofs.Ytgbgjljflgbcaaa
open Go.RowKit
set_option linter.unusedSimpArgs false
set_option linter.unusedVariables false
set_option maxRecDepth 20000
end Go.Proofs.Ytgbgjljflgbcaaa

namespace Go.Proofs.Ytgbgjljflgbcaaa
open Go.RowKit
set_option linter.unusedSimpArgs false
set_option linter.unusedVariables false
set_option maxRecDepth 20000
end Go.Proofs.Ytgbgjljflgbcaaa

namespace Go.Proofs.Ytgbgjljflgbcaaa
open Go.RowKit
set_option linter.unusedSimpArgs false
set_option linter.unusedVariables false
set_option maxRecDepth 20000
def mHeadB (p : Pr) (s : Sy) : Bool := okB p && decide (s.cells.length = p.cells.length) && inB s.tasks.length 1 7 && inB s.clock 0 200
theorem mSoB_head (p : Pr) (s : Sy) : mSoB p s = (mHeadB p s && ((List.range s.tasks.length).all (mTkB p s) && (mCesB s && mLgB p s))) := by
  unfold mSoB mHeadB; simp only [Bool.and_assoc]
end Go.Proofs.Ytgbgjljflgbcaaa

namespace Go.Proofs.Ytgbgjljflgbcaaa
open Go.RowKit
set_option linter.unusedSimpArgs false
set_option linter.unusedVariables false
set_option maxRecDepth 20000
theorem SyOn.shapes {S : Nat → Prop} {w : World} {cv tv lv : Value} {s : Sy} (h : SyOn S w cv tv lv s) : ∃ a1 c1 a2 c2 a3 c3, cv = .slice a1 s.cells.length c1 ∧ tv = .slice a2 s.tasks.length c2 ∧ lv = .slice a3 s.log.length c3 := by
  obtain ⟨a1, c1, e1, _⟩ := ces_src h.1.at
  obtain ⟨a2, c2, e2, _⟩ := h.2.1.at.cap
  obtain ⟨a3, c3, e3, _⟩ := h.2.2.at.cap
  exact ⟨a1, c1, a2, c2, a3, c3, e1, e2, e3⟩
end Go.Proofs.Ytgbgjljflgbcaaa

namespace Go.Proofs.Ytgbgjljflgbcaaa
open Go.RowKit
set_option linter.unusedSimpArgs false
set_option linter.unusedVariables false
theorem IntsOn.bound {S : Nat → Prop} {w : World} {v : Value} {xs : List Int} (h : IntsOn S w v xs) : IntsOn (fun b => S b ∧ b < w.heap.size) w v xs := by
  obtain ⟨a, cap, rfl, hm, hc⟩ := h
  exact ⟨a, cap, rfl, hm, fun i hi => let ⟨b, off, e, h1, h2⟩ := hc i hi; ⟨b, off, e, ⟨h1, h2.1⟩, h2⟩⟩
theorem DeedsOn.bound {S : Nat → Prop} {w : World} {v : Value} {xs : List De} (h : DeedsOn S w v xs) : DeedsOn (fun b => S b ∧ b < w.heap.size) w v xs := by
  obtain ⟨a, cap, rfl, hm, hc⟩ := h
  exact ⟨a, cap, rfl, hm, fun i hi => let ⟨b, off, e, h1, h2⟩ := hc i hi; ⟨b, off, e, ⟨h1, h2.1⟩, h2⟩⟩
theorem ActsOn.bound {S : Nat → Prop} {w : World} {v : Value} {xs : List Ac} (h : ActsOn S w v xs) : ActsOn (fun b => S b ∧ b < w.heap.size) w v xs := by
  obtain ⟨a, cap, rfl, hm, hc⟩ := h
  exact ⟨a, cap, rfl, hm, fun i hi => let ⟨b, off, dv, kv, e, h1, h2, h3, h4, h5, h6, h7, h8⟩ := hc i hi; ⟨b, off, dv, kv, e, ⟨h1, h2⟩, h2, h3, h4, h5, h6, h7.bound, h8.bound⟩⟩
theorem BodiesOn.bound {S : Nat → Prop} {w : World} {v : Value} {xs : List (List Ac)} (h : BodiesOn S w v xs) : BodiesOn (fun b => S b ∧ b < w.heap.size) w v xs := by
  obtain ⟨a, cap, rfl, hm, hc⟩ := h
  exact ⟨a, cap, rfl, hm, fun i hi => let ⟨b, off, av, e, h1, h2, h3, h4⟩ := hc i hi; ⟨b, off, av, e, ⟨h1, h2⟩, h2, h3, h4.bound⟩⟩
def Rw (Wb : Nat) (w : World) (v : Value) (L : List (Ac × Value × Value)) : Prop := w.ownsRow Wb 122 4 v L.length (acCells L)
structure OutB (S : Nat → Prop) (Wb : Nat) (w : World) (ov : Value) (LB : List (List (Ac × Value × Value) × Value)) : Prop where
  row : w.ownsRow Wb 113 1 ov LB.length (LB.map (·.2))
  rows : ∀ y, y ∈ LB → Rw Wb w y.2 y.1
  inner : ∀ y, y ∈ LB → ∀ x, x ∈ y.1 → DeedsOn S w x.2.1 x.1.ds ∧ IntsOn S w x.2.2 x.1.ks
  apart : LB.Pairwise (fun y z => ∀ g, y.2.ownBlock = some g → z.2.ownBlock ≠ some g)
theorem OutB.kept {S : Nat → Prop} {Wb : Nat} {w w' : World} {ov : Value} {LB : List (List (Ac × Value × Value) × Value)} (h : OutB S Wb w ov LB) (h1 : w'.ownsRow Wb 113 1 ov LB.length (LB.map (·.2))) (h2 : ∀ y, y ∈ LB → Rw Wb w' y.2 y.1) (hk : Kept S w w') : OutB S Wb w' ov LB :=
  ⟨h1, h2, fun y hy x hx => ⟨(h.inner y hy x hx).1.kept hk, (h.inner y hy x hx).2.kept hk⟩, h.apart⟩
theorem OutB.fr {S : Nat → Prop} {R Wb : Nat} {w w' : World} {ov : Value} {LB : List (List (Ac × Value × Value) × Value)} (h : OutB S Wb w ov LB) (hf : Fr R w.heap.size w w') (hR : R < Wb) (hS : ∀ b, S b → b ≠ R) : OutB S Wb w' ov LB :=
  h.kept (own_fr h.row hf hR) (fun y hy => own_fr (h.rows y hy) hf hR) ⟨hf.size, fun b o hb hlt => hf.cell hlt (hS b hb)⟩
theorem OutB.tag {S : Nat → Prop} {t : TypeId} {Wb : Nat} {w w' : World} {ov : Value} {LB : List (List (Ac × Value × Value) × Value)} (h : OutB S Wb w ov LB) (hk : TagKept t w w') (h0 : 113 ≠ t) (h1 : 122 ≠ t) (hK : Kept S w w') : OutB S Wb w' ov LB :=
  h.kept (own_tag h.row hk h0) (fun y hy => own_tag (h.rows y hy) hk h1) hK
theorem OutB.snoc {S : Nat → Prop} {Wb : Nat} {w w' : World} {ov ov' v : Value} {LB : List (List (Ac × Value × Value) × Value)} {L : List (Ac × Value × Value)} (h : OutB S Wb w ov LB) (hr : Rw Wb w v L) (hin : ∀ x, x ∈ L → DeedsOn S w x.2.1 x.1.ds ∧ IntsOn S w x.2.2 x.1.ks)
    (hfresh : ∀ y, y ∈ LB → ∀ g, y.2.ownBlock = some g → v.ownBlock ≠ some g) (ho : w'.ownsRow Wb 113 1 ov' (LB.length + 1) (LB.map (·.2) ++ [v])) (hg : w.grownBy w' ov.ownBlock) (hK : Kept S w w') : OutB S Wb w' ov' (LB ++ [(L, v)]) := by
  have T := TagKept.grown h.row hg
  refine ⟨by rw [List.map_append, List.length_append]; exact ho, fun y hy => ?_, fun y hy x hx => ?_, ?_⟩
  · rcases List.mem_append.1 hy with h1 | h1
    · exact own_tag (h.rows y h1) T (by decide)
    · rcases List.mem_singleton.1 h1 with rfl
      exact own_tag hr T (by decide)
  · rcases List.mem_append.1 hy with h1 | h1
    · exact ⟨(h.inner y h1 x hx).1.kept hK, (h.inner y h1 x hx).2.kept hK⟩
    · rcases List.mem_singleton.1 h1 with rfl
      exact ⟨(hin x hx).1.kept hK, (hin x hx).2.kept hK⟩
  · rw [List.pairwise_append]
    refine ⟨h.apart, by simp, fun y hy z hz => ?_⟩
    rcases List.mem_singleton.1 hz with rfl
    exact hfresh y hy
end Go.Proofs.Ytgbgjljflgbcaaa

namespace Go.Proofs.Ytgbgjljflgbcaaa
open Go.RowKit
set_option linter.unusedSimpArgs false
set_option linter.unusedVariables false
theorem acCells_len (L : List (Ac × Value × Value)) : (acCells L).length = L.length * 4 := by
  induction L with
  | nil => rfl
  | cons y ys ih => simp [acCells] at ih ⊢; omega
theorem ints_srcS {S : Nat → Prop} {w : World} {v : Value} {xs : List Int} (h : IntsOn S w v xs) (hn : 0 < xs.length) :
    ∃ b off cap, v = .slice (some ⟨b, off, none⟩) xs.length cap ∧ S b ∧ b < w.heap.size ∧ ∀ j u, (xs.map (Value.int .i64))[j]? = some u → w.cell? ((⟨b, off, none⟩ : Addr).add j) = some u := by
  obtain ⟨a, cap, rfl, hm, hc⟩ := h
  obtain ⟨b, off, rfl, hS, hb, _⟩ := hc 0 hn
  refine ⟨b, off, cap, rfl, hS, hb, fun j u hj => ?_⟩
  have hjl : j < xs.length := by
    rcases Nat.lt_or_ge j xs.length with h | h
    · exact h
    · rw [List.getElem?_eq_none (by simpa using h)] at hj; cases hj
  obtain ⟨b', off', e', _, _, c0⟩ := hc j hjl
  injection e' with e2
  injection e2 with e3 e4
  subst e3 e4
  rw [Go.WideShapes.add_plain, c0, nth_eq 0 xs j hjl]
  simpa [hjl] using hj
theorem own_grown {w w' : World} {B : Nat} {e : TypeId} {size : Nat} {v : Value} {n : Nat} {xs : List Value} {ob : Option Nat} (h : w.ownsRow B e size v n xs) (hg : w.grownBy w' ob) (hne : ∀ g, v.ownBlock = some g → ob ≠ some g) : w'.ownsRow B e size v n xs := by
  refine ⟨h.1, ?_⟩
  rcases h.2 with hn | ⟨g, cap, cur, rfl, hb, hgg, rest⟩
  · exact .inl hn
  · exact .inr ⟨g, cap, cur, rfl, hb, by rw [hg.block g (Array.getElem?_eq_some_iff.1 hgg).1 (fun e => hne g rfl e.symm)]; exact hgg, rest⟩
theorem own_set0 {w : World} {B : Nat} {e : TypeId} {n g cap : Nat} {u : Value} {us : List Value} (h : w.ownsRow B e 1 (.slice (some ⟨g, 0, none⟩) n cap) n (u :: us)) (x : Value) :
    B ≤ g ∧ g < w.heap.size ∧ w.cell? ⟨g, 0, none⟩ = some u ∧ w.frozen? ⟨g, 0, none⟩ = false ∧ TagKept e w (w.setCell ⟨g, 0, none⟩ x) ∧ (w.setCell ⟨g, 0, none⟩ x).ownsRow B e 1 (.slice (some ⟨g, 0, none⟩) n cap) n (x :: us) := by
  have h0 := h.1
  rcases h.2 with ⟨e1, _⟩ | ⟨g', cap', cur, e1, hb, hg, h1, h2, h3, h4⟩
  · cases e1
  · injection e1 with e2 e3 e4
    injection e2 with e5
    injection e5 with e6
    subst e6 e4
    simp only [List.length_cons, Nat.mul_one] at h0 h3 h4
    have hc0 : 0 < cur.size := by omega
    refine ⟨hb, (Array.getElem?_eq_some_iff.1 hg).1, ?_, by simp [World.frozen?, hg], TagKept.set hg, ?_⟩
    · rw [cell_of_row w g 0 cur _ (0, 0) hg]
      have : (cur.toList.take n)[0]? = (u :: us)[0]? := by rw [h4]
      rw [List.getElem?_take, if_pos (by omega)] at this
      simpa using this
    · refine ⟨by simpa using h0, .inr ⟨g, cap, cur.setIfInBounds 0 x, rfl, hb, heap_setCell_same w g 0 cur _ x hg, h1, h2, by simpa using h3, ?_⟩⟩
      have hsz : (cur.setIfInBounds 0 x).toList = cur.toList.set 0 x := by simp
      rw [hsz, Nat.mul_one, List.take_set, h4]
      rfl
theorem own_blk {w : World} {B : Nat} {e : TypeId} {size : Nat} {v : Value} {n : Nat} {xs : List Value} {a : Option Addr} {m cap b off : Nat} (h : w.ownsRow B e size v n xs) (hv : v = .slice a m cap) (ha : a = some ⟨b, off, none⟩) : B ≤ b :=
  (h.lt b (by rw [hv, ha]; rfl)).1
theorem OwnInt.on {S : Nat → Prop} {B : Nat} {w : World} {v : Value} {xs : List Int} (h : OwnInt B w v xs) (hS : ∀ b, B ≤ b → S b) : IntsOn S w v xs := by
  obtain ⟨a, cap, e, hm, hc⟩ := h.at
  refine ⟨a, cap, e, hm, fun i hi => ?_⟩
  obtain ⟨b, off, e2, hb, c⟩ := hc i hi
  exact ⟨b, off, e2, hS b (own_blk h e e2), hb, c⟩
theorem OwnDe.on {S : Nat → Prop} {B : Nat} {w : World} {v : Value} {xs : List De} (h : OwnDe B w v xs) (hS : ∀ b, B ≤ b → S b) : DeedsOn S w v xs := by
  obtain ⟨a, cap, e, hm, hc⟩ := h.at
  refine ⟨a, cap, e, hm, fun i hi => ?_⟩
  obtain ⟨b, off, e2, hb, c⟩ := hc i hi
  exact ⟨b, off, e2, hS b (own_blk h e e2), hb, c⟩
theorem rowActs_on {S : Nat → Prop} {B : Nat} {w : World} {v : Value} {L : List (Ac × Value × Value)} (hr : w.ownsRow B 122 4 v L.length (acCells L)) (hin : ∀ x, x ∈ L → DeedsOn S w x.2.1 x.1.ds ∧ IntsOn S w x.2.2 x.1.ks) (hS : ∀ b, B ≤ b → S b) : ActsOn S w v (L.map (·.1)) := by
  obtain ⟨a, cap, rfl, h1, h2⟩ := own_shape hr
  have hl := hr.1
  refine ⟨a, cap, by simp, by simp; omega, fun i hi => ?_⟩
  have hi' : i < L.length := by simpa using hi
  obtain ⟨g, c, hv, hg, hgB, hc⟩ := own_cell hr (i * 4) (by omega)
  injection hv with e1
  have G := fun j hj => flat_get 4 (fun x : Ac × Value × Value => [Value.int .i64 x.1.k, x.2.1, x.2.2, .int .i64 x.1.r]) (fun _ => rfl) j hj L i hi'
  have hx := hin L[i] (List.getElem_mem hi')
  have hn : nth Ac.z (L.map (·.1)) i = L[i].1 := by rw [nth_eq _ _ _ hi]; simp
  refine ⟨g, 0, L[i].2.1, L[i].2.2, e1, hS g hgB, hg, ?_⟩
  rw [hn, Nat.zero_add]
  have all : ∀ j, j < 4 → w.cell? ⟨g, i * 4 + j, none⟩ = (acCells L)[i * 4 + j]? := fun j hj => by
    rcases hc (i * 4 + j) with h3 | h3
    · exact h3
    · omega
  refine ⟨?_, ?_, ?_, ?_, hx.1, hx.2⟩
  · exact (all 0 (by omega)).trans (G 0 (by omega))
  · exact (all 1 (by omega)).trans (G 1 (by omega))
  · exact (all 2 (by omega)).trans (G 2 (by omega))
  · exact (all 3 (by omega)).trans (G 3 (by omega))
theorem rowBodies_on {α : Type} {S : Nat → Prop} {B : Nat} {w : World} {v : Value} {L : List (α × Value)} (f : α → List Ac) (hr : w.ownsRow B 113 1 v L.length (L.map (·.2))) (hin : ∀ y, y ∈ L → ActsOn S w y.2 (f y.1)) (hS : ∀ b, B ≤ b → S b) : BodiesOn S w v (L.map fun y => f y.1) := by
  obtain ⟨a, cap, rfl, h1, h2⟩ := own_shape hr
  have hl := hr.1
  refine ⟨a, cap, by simp, by simp; omega, fun i hi => ?_⟩
  have hi' : i < L.length := by simpa using hi
  obtain ⟨g, c, hv, hg, hgB, hc⟩ := own_cell hr i (by omega)
  injection hv with e1
  have hn : nth [] (L.map fun y => f y.1) i = f L[i].1 := by rw [nth_eq _ _ _ hi]; simp
  refine ⟨g, 0, L[i].2, e1, hS g hgB, hg, ?_⟩
  rw [hn, Nat.zero_add]
  refine ⟨?_, hin _ (List.getElem_mem hi')⟩
  rcases hc i with h3 | h3
  · rw [h3]; simp [hi']
  · simp at h3; omega
theorem OwnActs.on {S : Nat → Prop} {B : Nat} {w : World} {v : Value} {acts : List Ac} (h : OwnActs B w v acts) (hS : ∀ b, B ≤ b → S b) : ActsOn S w v acts := by
  obtain ⟨L, rfl, hr, hin⟩ := h
  exact rowActs_on hr (fun x hx => ⟨(hin x hx).1.on hS, (hin x hx).2.on hS⟩) hS
theorem OwnBodies.on {S : Nat → Prop} {B : Nat} {w : World} {v : Value} {bs : List (List Ac)} (h : OwnBodies B w v bs) (hS : ∀ b, B ≤ b → S b) : BodiesOn S w v bs := by
  obtain ⟨L, rfl, hr, hin⟩ := h
  exact rowBodies_on (fun a => a) hr (fun y hy => (hin y hy).on hS) hS
def InC (S : Nat → Prop) (Wb : Nat) (w : World) (x : Ac × Value × Value) : Prop := (DeedsOn S w x.2.1 x.1.ds ∨ OwnDe Wb w x.2.1 x.1.ds) ∧ (IntsOn S w x.2.2 x.1.ks ∨ OwnInt Wb w x.2.2 x.1.ks)
theorem InC.tag {S : Nat → Prop} {t : TypeId} {Wb : Nat} {w w' : World} {x : Ac × Value × Value} (h : InC S Wb w x) (hk : TagKept t w w') (h0 : 125 ≠ t) (h1 : 3 ≠ t) (hK : Kept S w w') : InC S Wb w' x :=
  ⟨h.1.imp (fun h => h.kept hK) (fun h => own_tag h hk h0), h.2.imp (fun h => h.kept hK) (fun h => own_tag h hk h1)⟩
theorem InC.fr {S : Nat → Prop} {R Wb : Nat} {w w' : World} {x : Ac × Value × Value} (h : InC S Wb w x) (hf : Fr R w.heap.size w w') (hR : R < Wb) (hS : ∀ b, S b → b ≠ R) : InC S Wb w' x :=
  have hK : Kept S w w' := ⟨hf.size, fun b o hb hlt => hf.cell hlt (hS b hb)⟩
  ⟨h.1.imp (fun h => h.kept hK) (fun h => own_fr h hf hR), h.2.imp (fun h => h.kept hK) (fun h => own_fr h hf hR)⟩
structure OutC (S : Nat → Prop) (Wb : Nat) (w : World) (ov : Value) (LB : List (List (Ac × Value × Value) × Value)) : Prop where
  row : w.ownsRow Wb 113 1 ov LB.length (LB.map (·.2))
  rows : ∀ y, y ∈ LB → Rw Wb w y.2 y.1
  inner : ∀ y, y ∈ LB → ∀ x, x ∈ y.1 → InC S Wb w x
  apart : LB.Pairwise (fun y z => ∀ g, y.2.ownBlock = some g → z.2.ownBlock ≠ some g)
theorem OutB.toC {S : Nat → Prop} {Wb : Nat} {w : World} {ov : Value} {LB : List (List (Ac × Value × Value) × Value)} (h : OutB S Wb w ov LB) : OutC S Wb w ov LB :=
  ⟨h.row, h.rows, fun y hy x hx => ⟨.inl (h.inner y hy x hx).1, .inl (h.inner y hy x hx).2⟩, h.apart⟩
theorem OutC.tag {S : Nat → Prop} {t : TypeId} {Wb : Nat} {w w' : World} {ov : Value} {LB : List (List (Ac × Value × Value) × Value)} (h : OutC S Wb w ov LB) (hk : TagKept t w w') (h0 : 113 ≠ t) (h1 : 122 ≠ t) (h2 : 125 ≠ t) (h3 : 3 ≠ t) (hK : Kept S w w') : OutC S Wb w' ov LB :=
  ⟨own_tag h.row hk h0, fun y hy => own_tag (h.rows y hy) hk h1, fun y hy x hx => (h.inner y hy x hx).tag hk h2 h3 hK, h.apart⟩
theorem OutC.fr {S : Nat → Prop} {R Wb : Nat} {w w' : World} {ov : Value} {LB : List (List (Ac × Value × Value) × Value)} (h : OutC S Wb w ov LB) (hf : Fr R w.heap.size w w') (hR : R < Wb) (hS : ∀ b, S b → b ≠ R) : OutC S Wb w' ov LB :=
  ⟨own_fr h.row hf hR, fun y hy => own_fr (h.rows y hy) hf hR, fun y hy x hx => (h.inner y hy x hx).fr hf hR hS, h.apart⟩
theorem InC.on {S T : Nat → Prop} {Wb : Nat} {w : World} {x : Ac × Value × Value} (h : InC S Wb w x) (hS : ∀ b, S b → T b) (hB : ∀ b, Wb ≤ b → T b) : DeedsOn T w x.2.1 x.1.ds ∧ IntsOn T w x.2.2 x.1.ks :=
  ⟨h.1.elim (fun h => h.wide hS) (fun h => h.on hB), h.2.elim (fun h => h.wide hS) (fun h => h.on hB)⟩
theorem OutC.on {S T : Nat → Prop} {Wb : Nat} {w : World} {ov : Value} {LB : List (List (Ac × Value × Value) × Value)} (h : OutC S Wb w ov LB) (hS : ∀ b, S b → T b) (hB : ∀ b, Wb ≤ b → T b) : BodiesOn T w ov (LB.map fun y => y.1.map (·.1)) :=
  rowBodies_on (fun l => l.map (·.1)) h.row (fun y hy => rowActs_on (h.rows y hy) (fun x hx => (h.inner y hy x hx).on hS hB) hB) hB
theorem OutC.head {S : Nat → Prop} {Wb : Nat} {w : World} {ov : Value} {LB : List (List (Ac × Value × Value) × Value)} (h : OutC S Wb w ov LB) (hl : 0 < LB.length) :
    ∃ g cap L0 a0 c0 LT, ov = .slice (some ⟨g, 0, none⟩) LB.length cap ∧ LB = (L0, .slice a0 L0.length c0) :: LT ∧ Wb ≤ g ∧ g < w.heap.size ∧ w.cell? ⟨g, 0, none⟩ = some (.slice a0 L0.length c0) ∧ w.frozen? ⟨g, 0, none⟩ = false ∧ LB.length ≤ cap ∧ cap ≤ 9223372036854775807 ∧ Rw Wb w (.slice a0 L0.length c0) L0 := by
  match LB, hl with
  | (L0, v0) :: LT, _ =>
    obtain ⟨g, cap, hov, _, _⟩ := World.ownsRow.form h.row (by simp)
    obtain ⟨a0, c0, hv0, _, _⟩ := own_shape (h.rows (L0, v0) (by simp))
    obtain ⟨_, cap', hov', hc1, hc2⟩ := own_shape h.row
    rw [hov] at hov'
    injection hov' with e1 e2 e3
    subst e3
    have hr := h.row
    rw [hov] at hr
    simp only [List.map_cons] at hr
    obtain ⟨k1, k2, k3, k4, _⟩ := own_set0 hr (.slice none 0 0)
    simp only at hv0
    subst hv0
    exact ⟨g, cap, L0, a0, c0, LT, hov, rfl, k1, k2, k3, k4, hc1, hc2, h.rows (L0, _) (by simp)⟩
theorem OutC.app0 {S : Nat → Prop} {Wb : Nat} {w w' : World} {n cap g g' cap' : Nat} {v0 dv kv : Value} {L0 : List (Ac × Value × Value)} {LT : List (List (Ac × Value × Value) × Value)} {a : Ac} (hS : ∀ b, S b → b < Wb) (h : OutC S Wb w (.slice (some ⟨g, 0, none⟩) n cap) ((L0, v0) :: LT))
    (ho : w'.ownsRow Wb 122 4 (.slice (some ⟨g', 0, none⟩) (L0.length + 1) cap') (L0.length + 1) (acCells L0 ++ [.int .i64 a.k, dv, kv, .int .i64 a.r])) (hg : w.grownBy w' v0.ownBlock) (hat : v0.ownBlock = some g' ∨ g' = w.heap.size) (hx : InC S Wb w (a, dv, kv)) :
    w'.cell? ⟨g, 0, none⟩ = some v0 ∧ w'.frozen? ⟨g, 0, none⟩ = false ∧ Wb ≤ g ∧ g < w'.heap.size ∧ OutC S Wb (w'.setCell ⟨g, 0, none⟩ (.slice (some ⟨g', 0, none⟩) (L0.length + 1) cap')) (.slice (some ⟨g, 0, none⟩) n cap) ((L0 ++ [(a, dv, kv)], .slice (some ⟨g', 0, none⟩) (L0.length + 1) cap') :: LT) ∧
      TagKept 122 w w' ∧ TagKept 113 w' (w'.setCell ⟨g, 0, none⟩ (.slice (some ⟨g', 0, none⟩) (L0.length + 1) cap')) := by
  have hr0 := h.rows (L0, v0) (by simp)
  have T1 : TagKept 122 w w' := TagKept.grown hr0 hg
  have K1 : Kept S w w' := ⟨hg.size, fun b o hb hlt => World.cell?_of_block (hg.block b hlt (fun e => by have h1 := (hr0.lt b e.symm).1; have h2 := hS b hb; omega))⟩
  obtain ⟨_, _, e1, _, _⟩ := own_shape h.row
  injection e1 with _ en _
  have row1 := own_tag h.row T1 (by decide)
  rw [← en] at row1
  simp only [List.map_cons] at row1
  obtain ⟨k1, k2, k3, k4, T2, row2⟩ := own_set0 row1 (.slice (some ⟨g', 0, none⟩) (L0.length + 1) cap')
  have K2 : Kept S w' (w'.setCell ⟨g, 0, none⟩ (.slice (some ⟨g', 0, none⟩) (L0.length + 1) cap')) := Kept.set _ _ _ _ (fun h => by have := hS _ h; omega)
  have hap := List.pairwise_cons.1 h.apart
  refine ⟨k3, k4, k1, k2, ⟨?_, fun y hy => ?_, fun y hy x hxy => ?_, ?_⟩, T1, T2⟩
  · simp only [List.map_cons, List.length_cons]
    simp only [List.length_cons] at en
    rw [← en]
    exact row2
  · rcases List.mem_cons.1 hy with rfl | hy
    · show World.ownsRow _ _ _ _ _ (L0 ++ [(a, dv, kv)]).length _
      rw [acCells_snoc, List.length_append]
      exact own_tag ho T2 (by decide)
    · exact own_tag (own_grown (h.rows y (by simp [hy])) hg (fun g2 e2 e3 => hap.1 y hy g2 e3 e2)) T2 (by decide)
  · rcases List.mem_cons.1 hy with rfl | hy
    · rcases List.mem_append.1 hxy with h1 | h1
      · exact ((h.inner (L0, v0) (by simp) x h1).tag T1 (by decide) (by decide) K1).tag T2 (by decide) (by decide) K2
      · rcases List.mem_singleton.1 h1 with rfl
        exact (hx.tag T1 (by decide) (by decide) K1).tag T2 (by decide) (by decide) K2
    · exact ((h.inner y (by simp [hy]) x hxy).tag T1 (by decide) (by decide) K1).tag T2 (by decide) (by decide) K2
  · rw [List.pairwise_cons]
    refine ⟨fun y hy g2 e2 e3 => ?_, hap.2⟩
    have e4 : g' = g2 := by simpa [Value.ownBlock] using e2
    subst e4
    rcases hat with h1 | h1
    · exact hap.1 y hy _ h1 e3
    · have := ((h.rows y (by simp [hy])).lt _ e3).2; omega
theorem OutB.snocs {S : Nat → Prop} {Wb : Nat} {w w' : World} {ov ov' : Value} {LB : List (List (Ac × Value × Value) × Value)} (N : List Value) (h : OutB S Wb w ov LB) (hN : ∀ v, v ∈ N → Rw Wb w v []) 
    (hfresh : ∀ y, y ∈ LB → ∀ g, y.2.ownBlock = some g → ∀ v, v ∈ N → v.ownBlock ≠ some g) (hap : N.Pairwise (fun v u => ∀ g, v.ownBlock = some g → u.ownBlock ≠ some g)) (ho : w'.ownsRow Wb 113 1 ov' (LB.length + N.length) (LB.map (·.2) ++ N)) (hg : w.grownBy w' ov.ownBlock) (hK : Kept S w w') : OutB S Wb w' ov' (LB ++ N.map fun v => ([], v)) := by
  have T := TagKept.grown h.row hg
  refine ⟨by rw [List.map_append, List.length_append, List.length_map, List.map_map]; simpa [Function.comp_def] using ho, fun y hy => ?_, fun y hy x hx => ?_, ?_⟩
  · rcases List.mem_append.1 hy with h1 | h1
    · exact own_tag (h.rows y h1) T (by decide)
    · obtain ⟨v, hv, rfl⟩ := List.mem_map.1 h1
      exact own_tag (hN v hv) T (by decide)
  · rcases List.mem_append.1 hy with h1 | h1
    · exact ⟨(h.inner y h1 x hx).1.kept hK, (h.inner y h1 x hx).2.kept hK⟩
    · obtain ⟨v, hv, rfl⟩ := List.mem_map.1 h1
      simp at hx
  · rw [List.pairwise_append]
    refine ⟨h.apart, ?_, fun y hy z hz => ?_⟩
    · rw [List.pairwise_map]; exact hap
    · obtain ⟨v, hv, rfl⟩ := List.mem_map.1 hz
      exact fun g hg => hfresh y hy g hg v hv
theorem bent_fin {B R p p' : Nat} {S T : Nat → Prop} {w V : World} {cv ov : Value} {xs : List Int} {LB : List (List (Ac × Value × Value) × Value)} (hS : ∀ b, S b → b < w.heap.size) (hS' : ∀ b, S b → T b) (hTn : ∀ b, w.heap.size ≤ b → T b) (hle : B ≤ w.heap.size) (hR : RdAt B V R p') (hF : Fr R w.heap.size w V) (hG : PBox V (w.heap.size + 1) (.slice none 0 0) (.slice none 0 0)) (hO : OwnInt w.heap.size V cv xs) (hB : OutC S w.heap.size V ov LB) (hl : LB.length ≤ 10) (h1 : p ≤ p') (h2 : p' ≤ p + 10) :
    ∃ (pr : Pr) (cv' bv' : Value) (q : Nat), Ending.returned (.agg #[cv, ov]) = .returned (.agg #[cv', bv']) ∧ IntsOn T ((V.setCell ⟨w.heap.size + 1, 0, none⟩ cv).setCell ⟨w.heap.size + 1, 1, none⟩ ov) cv' pr.cells ∧ BodiesOn T ((V.setCell ⟨w.heap.size + 1, 0, none⟩ cv).setCell ⟨w.heap.size + 1, 1, none⟩ ov) bv' pr.bodies ∧ pr.bodies.length ≤ 10 ∧ p ≤ q ∧ q ≤ p + 10 ∧ RdAt B ((V.setCell ⟨w.heap.size + 1, 0, none⟩ cv).setCell ⟨w.heap.size + 1, 1, none⟩ ov) R q ∧ Fr R w.heap.size w ((V.setCell ⟨w.heap.size + 1, 0, none⟩ cv).setCell ⟨w.heap.size + 1, 1, none⟩ ov) := by
  have K5 := hG.kept (o := 0) (x := cv)
  have K6 := (hG.set0 cv).kept (o := 1) (x := ov)
  have S5 : Kept S V (V.setCell ⟨w.heap.size + 1, 0, none⟩ cv) := Kept.set _ _ _ _ (fun h => by have := hS _ h; omega)
  have S6 : Kept S (V.setCell ⟨w.heap.size + 1, 0, none⟩ cv) ((V.setCell ⟨w.heap.size + 1, 0, none⟩ cv).setCell ⟨w.heap.size + 1, 1, none⟩ ov) := Kept.set _ _ _ _ (fun h => by have := hS _ h; omega)
  refine ⟨⟨xs, LB.map fun y => y.1.map (·.1)⟩, cv, ov, p', rfl, OwnInt.on (own_tag (own_tag hO K5 (by decide)) K6 (by decide)) hTn, ((hB.tag K5 (by decide) (by decide) (by decide) (by decide) S5).tag K6 (by decide) (by decide) (by decide) (by decide) S6).on hS' hTn, by simpa using hl, h1, h2, ?_, ?_⟩
  · exact hR.below (((Below.refl _ _).setCell (by simp; omega) _).setCell (by simp; omega) _)
  · exact (hF.setCell (.inl (by simp)) _).setCell (.inl (by simp)) _
structure BtC (T : Nat → Prop) (B R Wb P : Nat) (w0 V : World) (p : Nat) (cv : Value) (xs : List Int) (g n cap : Nat) (L0 : List (Ac × Value × Value)) (v0 : Value) (LT : List (List (Ac × Value × Value) × Value)) : Prop where
  rd : RdAt B V R p
  fr : Fr R Wb w0 V
  pg : PBox V (Wb + 1) (.slice none 0 0) (.slice none 0 0)
  pp : PBox V P cv (.slice (some ⟨g, 0, none⟩) n cap)
  oi : OwnInt Wb V cv xs
  oc : OutC (fun b => T b ∧ b < Wb) Wb V (.slice (some ⟨g, 0, none⟩) n cap) ((L0, v0) :: LT)
  tr : ∀ b, T b → b ≠ R
theorem BtC.next {T : Nat → Prop} {B R Wb P p p' g n cap : Nat} {w0 V V' : World} {cv v0 : Value} {xs : List Int} {L0 : List (Ac × Value × Value)} {LT : List (List (Ac × Value × Value) × Value)} (h : BtC T B R Wb P w0 V p cv xs g n cap L0 v0 LT) (hr : RdAt B V' R p') (hf : Fr R V.heap.size V V') (hR : R < Wb) (hP : Wb ≤ P) (hW : Wb ≤ V.heap.size) : BtC T B R Wb P w0 V' p' cv xs g n cap L0 v0 LT :=
  ⟨hr, h.fr.trans (hf.mono hW), h.pg.fr hf (by omega), h.pp.fr hf (by omega), own_fr h.oi hf hR, h.oc.fr hf hR (fun b hb => h.tr b hb.1), h.tr⟩
theorem BtC.alloc {T : Nat → Prop} {B R Wb P p g n cap : Nat} {w0 V : World} {cv v0 : Value} {xs : List Int} {L0 : List (Ac × Value × Value)} {LT : List (List (Ac × Value × Value) × Value)} (h : BtC T B R Wb P w0 V p cv xs g n cap L0 v0 LT) (hR : R < Wb) (hB : B ≤ Wb) (hP : Wb ≤ P) (hW : Wb ≤ V.heap.size) (o : Obj) : BtC T B R Wb P w0 (V.alloc o) p cv xs g n cap L0 v0 LT :=
  h.next (h.rd.below ((Below.refl _ _).alloc (by omega) _)) (Fr.of_below ((Below.refl _ _).alloc (Nat.le_refl _) _)) hR hP hW
theorem BtC.cells {T : Nat → Prop} {B R Wb P p g n cap : Nat} {w0 V : World} {cv v0 : Value} {xs : List Int} {L0 : List (Ac × Value × Value)} {LT : List (List (Ac × Value × Value) × Value)} (h : BtC T B R Wb P w0 V p cv xs g n cap L0 v0 LT) :
    V.cell? ⟨P, 1, none⟩ = some (.slice (some ⟨g, 0, none⟩) n cap) ∧ V.cell? ⟨g, 0, none⟩ = some v0 ∧ V.frozen? ⟨g, 0, none⟩ = false ∧ P < V.heap.size ∧ g < V.heap.size ∧ Rw Wb V v0 L0 := by
  obtain ⟨_, _, e1, _, _⟩ := own_shape h.oc.row
  injection e1 with _ en _
  have r := h.oc.row
  rw [← en] at r
  simp only [List.map_cons] at r
  obtain ⟨k1, k2, k3, k4, _⟩ := own_set0 r (.slice none 0 0)
  exact ⟨h.pp.cells.2.1, k3, k4, h.pp.lt, k2, h.oc.rows (L0, v0) (by simp)⟩
theorem BtC.app {T : Nat → Prop} {B R Wb P p g n cap g' cap' : Nat} {w0 V w' : World} {cv v0 dv kv : Value} {xs : List Int} {L0 : List (Ac × Value × Value)} {LT : List (List (Ac × Value × Value) × Value)} {a : Ac} (h : BtC T B R Wb P w0 V p cv xs g n cap L0 v0 LT) (hB : B ≤ Wb) (hW : Wb ≤ V.heap.size)
    (ho : w'.ownsRow Wb 122 4 (.slice (some ⟨g', 0, none⟩) (L0.length + 1) cap') (L0.length + 1) (acCells L0 ++ [.int .i64 a.k, dv, kv, .int .i64 a.r])) (hg : V.grownBy w' v0.ownBlock) (hat : v0.ownBlock = some g' ∨ g' = V.heap.size) (hx : InC (fun b => T b ∧ b < Wb) Wb V (a, dv, kv)) :
    w'.cell? ⟨P, 1, none⟩ = some (.slice (some ⟨g, 0, none⟩) n cap) ∧ w'.cell? ⟨g, 0, none⟩ = some v0 ∧ w'.frozen? ⟨g, 0, none⟩ = false ∧ P < w'.heap.size ∧ g < w'.heap.size ∧ BtC T B R Wb P w0 (w'.setCell ⟨g, 0, none⟩ (.slice (some ⟨g', 0, none⟩) (L0.length + 1) cap')) p cv xs g n cap (L0 ++ [(a, dv, kv)]) (.slice (some ⟨g', 0, none⟩) (L0.length + 1) cap') LT := by
  have hr0 := h.oc.rows (L0, v0) (by simp)
  obtain ⟨k3, k4, k1, k2, hC, T1, T2⟩ := h.oc.app0 (fun b hb => hb.2) ho hg hat hx
  have hb1 : Below Wb V w' := (Below.refl _ _).grown hg hW (fun b e => (hr0.lt b e).1)
  have hb2 : Below Wb V (w'.setCell ⟨g, 0, none⟩ (.slice (some ⟨g', 0, none⟩) (L0.length + 1) cap')) := hb1.setCell (by simpa using k1) _
  have pp1 := h.pp.tag T1 (by decide)
  exact ⟨pp1.cells.2.1, k3, k4, pp1.lt, k2, h.rd.below (hb2.mono hB), h.fr.trans (Fr.of_below hb2), (h.pg.tag T1 (by decide)).tag T2 (by decide), pp1.tag T2 (by decide), own_tag (own_tag h.oi T1 (by decide)) T2 (by decide), hC, h.tr⟩
theorem own_one (W : World) (e : TypeId) (size Wb : Nat) (M : List Value) (hl : M.length = size) (hs : Wb ≤ W.heap.size) : (W.alloc (.cells M.toArray e)).ownsRow Wb e size (.slice (some ⟨W.heap.size, 0, none⟩) 1 1) 1 M := by
  exact ⟨by omega, .inr ⟨W.heap.size, 1, M.toArray, rfl, hs, heap_alloc_new W _, Nat.le_refl _, by unfold maxLen; omega, by simpa using hl, by simp [← hl]⟩⟩
end Go.Proofs.Ytgbgjljflgbcaaa
