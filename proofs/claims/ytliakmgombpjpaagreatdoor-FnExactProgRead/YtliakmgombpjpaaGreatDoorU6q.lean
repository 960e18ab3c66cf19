/-
  A program whose bodies are being gathered, its cells left as they are.
-/
import Derived.Test.YtliakmgombpjpaaGreatDoorU5
import Derived.Test.YtliakmgombpjpaaGreatDoorR8
namespace Go.Proofs.YtliakmgombpjpaaGreatDoor
open Go.RowKit
set_option linter.unusedSimpArgs false
set_option linter.unusedVariables false

structure PQ (B P : Nat) (w0 w : World) (cv bv : Value) (cs : List Int) (L : List (List Ac × Value)) : Prop where
  fr : Fr P B w0 w
  lt : P < B
  le : B ≤ w0.heap.size
  c0 : w.cell? ⟨P, 0, none⟩ = some cv
  c1 : w.cell? ⟨P, 1, none⟩ = some bv
  f0 : w.frozen? ⟨P, 0, none⟩ = false
  f1 : w.frozen? ⟨P, 1, none⟩ = false
  row : w.ownsRow B 41 1 bv L.length (L.map (·.2))
  acts : ∀ x, x ∈ L → OwnActs B w x.2 x.1
  apart : L.Pairwise (fun x y => x.2.ownBlock = none ∨ x.2.ownBlock ≠ y.2.ownBlock)
theorem PQ.size {B P : Nat} {w0 w : World} {cv bv : Value} {cs : List Int} {L : List (List Ac × Value)} (h : PQ B P w0 w cv bv cs L) : B ≤ w.heap.size := Nat.le_trans h.le h.fr.size
/-- what only makes memory -/
theorem PQ.next {B P : Nat} {w0 w w' : World} {cv bv : Value} {cs : List Int} {L : List (List Ac × Value)} (h : PQ B P w0 w cv bv cs L) (hb : Below w.heap.size w w') : PQ B P w0 w' cv bv cs L := by
  have hP : P < w.heap.size := Nat.lt_of_lt_of_le h.lt h.size
  exact ⟨h.fr.trans (Fr.of_below (hb.mono h.size)), h.lt, h.le, by rw [hb.cell (p := ⟨P, 0, none⟩) hP]; exact h.c0, by rw [hb.cell (p := ⟨P, 1, none⟩) hP]; exact h.c1, by rw [hb.frozen (p := ⟨P, 0, none⟩) hP]; exact h.f0, by rw [hb.frozen (p := ⟨P, 1, none⟩) hP]; exact h.f1,
    own_heap h.row fun g hg => hb.block g (h.row.lt g hg).2, fun x hx => (h.acts x hx).new hb, h.apart⟩
/-- a body more, that is an empty row of its own -/
theorem PQ.addBodyE {B P gE : Nat} {w0 w w' : World} {cv bv bv' : Value} {cs : List Int} {L : List (List Ac × Value)} (h : PQ B P w0 w cv bv cs L) (hE : w.heap[gE]? = some (.cells #[] 44 (0, 0))) (hEB : B ≤ gE) (hEn : ∀ x, x ∈ L → x.2.ownBlock ≠ some gE)
    (ho : w'.ownsRow B 41 1 bv' (L.length + 1) (L.map (·.2) ++ [.slice (some ⟨gE, 0, none⟩) 0 0])) (hg : w.grownBy w' bv.ownBlock) :
    PQ B P w0 (w'.setCell ⟨P, 1, none⟩ bv') cv bv' cs (L ++ [([], .slice (some ⟨gE, 0, none⟩) 0 0)]) := by
  have hl := h.lt
  have T := TagKept.grown h.row hg
  have hge : ∀ k, bv.ownBlock = some k → B ≤ k := fun k hk => (h.row.lt k hk).1
  have hP : P < w.heap.size := Nat.lt_of_lt_of_le h.lt h.size
  have hPb : some P ≠ bv.ownBlock := fun e => by have := hge P e.symm; omega
  have hc0 : w'.cell? ⟨P, 0, none⟩ = some cv := (World.cell?_of_block (w := w) (hg.block P hP hPb)).trans h.c0
  have hc1 : w'.cell? ⟨P, 1, none⟩ = some bv := (World.cell?_of_block (w := w) (hg.block P hP hPb)).trans h.c1
  have hf0 : w'.frozen? ⟨P, 0, none⟩ = false := (World.frozen?_of_block (w := w) (hg.block P hP hPb)).trans h.f0
  have hf1 : w'.frozen? ⟨P, 1, none⟩ = false := (World.frozen?_of_block (w := w) (hg.block P hP hPb)).trans h.f1
  have hE0 : w.ownsRow B 44 4 (.slice (some ⟨gE, 0, none⟩) 0 0) 0 [] := ⟨by simp, .inr ⟨gE, 0, #[], rfl, hEB, hE, Nat.le_refl _, by unfold maxLen; omega, by simp, by simp⟩⟩
  refine ⟨(h.fr.grown hg h.size hge).setCell (.inr rfl) _, h.lt, h.le, by rw [World.cell?_setCell_other w' ⟨P, 1, none⟩ ⟨P, 0, none⟩ _ (by intro e; injection e; omega)]; exact hc0, World.cell?_setCell_same w' ⟨P, 1, none⟩ _ hc1, by simpa using hf0, by simpa using hf1,
    by rw [List.length_append, List.map_append]; exact ownsRow_setCell_below ho hl _, fun x hx => ?_, ?_⟩
  · rcases List.mem_append.1 hx with h1 | h1
    · exact ((h.acts x h1).tag T (by decide) (by decide) (by decide)).setLow hl _
    · simp at h1; subst h1
      exact ⟨[], rfl, ownsRow_setCell_below (own_tag hE0 T (by decide)) hl _, fun y hy => by cases hy⟩
  · rw [List.pairwise_append]
    refine ⟨h.apart, List.pairwise_singleton _ _, fun x hx y hy => ?_⟩
    simp at hy; subst hy
    exact .inr (hEn x hx)

/-- an act more, in the last body -/
theorem PQ.addAct {B P : Nat} {w0 w w' : World} {cv av av' dv kv : Value} {gb n cap : Nat} {cs : List Int} {L : List (List Ac × Value)} {M : List (Ac × Value × Value)} {a : Ac} (h : PQ B P w0 w cv (.slice (some ⟨gb, 0, none⟩) n cap) cs (L ++ [(M.map (·.1), av)]))
    (hM : w.ownsRow B 44 4 av M.length (acCells M)) (hMi : ∀ x, x ∈ M → OwnDe B w x.2.1 x.1.ds ∧ OwnInt B w x.2.2 x.1.ks)
    (hd : OwnDe B w dv a.ds) (hk : OwnInt B w kv a.ks)
    (ho : w'.ownsRow B 44 4 av' (M.length + 1) (acCells M ++ [.int .i64 a.k, dv, kv, .int .i64 a.r])) (hg : w.grownBy w' av.ownBlock) (hb : av'.ownBlock = av.ownBlock ∨ av'.ownBlock = some w.heap.size) :
    PQ B P w0 (w'.setCell ⟨gb, L.length, none⟩ av') cv (.slice (some ⟨gb, 0, none⟩) n cap) cs (L ++ [(M.map (·.1) ++ [a], av')]) := by
  have hl := h.lt
  have T := TagKept.grown hM hg
  have hge : ∀ k, av.ownBlock = some k → B ≤ k := fun k hk' => (hM.lt k hk').1
  have hP : P < w.heap.size := Nat.lt_of_lt_of_le h.lt h.size
  have hPb : some P ≠ av.ownBlock := fun e => by have := hge P e.symm; omega
  have hgb := h.row.lt gb rfl
  have hn : n = (L ++ [(M.map (·.1), av)]).length := by
    obtain ⟨_, _, e, _⟩ := own_shape h.row
    injection e
  have hrow' : w'.ownsRow B 41 1 (.slice (some ⟨gb, 0, none⟩) n cap) (L ++ [(M.map (·.1), av)]).length ((L ++ [(M.map (·.1), av)]).map (·.2)) := own_tag h.row T (by decide)
  obtain ⟨cur, hcur⟩ : ∃ cur, w'.heap[gb]? = some (.cells cur 41 (0, 0)) := by
    rcases hrow'.2 with ⟨e, _⟩ | ⟨g, c, cur, e, _, hg', _⟩
    · cases e
    · injection e with e1
      injection e1 with e2
      injection e2 with e3
      subst e3
      exact ⟨cur, hg'⟩
  have T2 : TagKept 41 w' (w'.setCell ⟨gb, L.length, none⟩ av') := TagKept.set hcur
  have hPg : P ≠ gb := by omega
  have hc0 : w'.cell? ⟨P, 0, none⟩ = some cv := (World.cell?_of_block (w := w) (hg.block P hP hPb)).trans h.c0
  have hc1 : w'.cell? ⟨P, 1, none⟩ = some (.slice (some ⟨gb, 0, none⟩) n cap) := (World.cell?_of_block (w := w) (hg.block P hP hPb)).trans h.c1
  have hf0 : w'.frozen? ⟨P, 0, none⟩ = false := (World.frozen?_of_block (w := w) (hg.block P hP hPb)).trans h.f0
  have hf1 : w'.frozen? ⟨P, 1, none⟩ = false := (World.frozen?_of_block (w := w) (hg.block P hP hPb)).trans h.f1
  have hne : ∀ o, (⟨P, o, none⟩ : Addr) ≠ ⟨gb, L.length, none⟩ := fun o e => hPg (by injection e)
  obtain ⟨hap1, _, hap2⟩ := List.pairwise_append.1 h.apart
  refine ⟨(h.fr.grown hg h.size hge).setCell (.inl hgb.1) _, h.lt, h.le, by rw [cell_set_other _ _ _ _ _ (hne 0)]; exact hc0, by rw [cell_set_other _ _ _ _ _ (hne 1)]; exact hc1, by simpa using hf0, by simpa using hf1,
    ?_, fun x hx => ?_, ?_⟩
  · subst hn
    have h1 := (World.ownsRow.stored hrow' L.length av').1
    have e1 : ((L ++ [(M.map (·.1), av)]).map (·.2)).set L.length av' = (L ++ [(M.map (·.1) ++ [a], av')]).map (·.2) := by simp
    rw [e1] at h1
    simpa using h1
  · rcases List.mem_append.1 hx with h1 | h1
    · have hx2 := h.acts x (List.mem_append.2 (.inl h1))
      obtain ⟨L', e, hr, hi⟩ := hx2
      have hnb : x.2.ownBlock = none ∨ x.2.ownBlock ≠ av.ownBlock := hap2 x h1 (M.map (·.1), av) (by simp)
      have hr' : w'.ownsRow B 44 4 x.2 L'.length (acCells L') := World.ownsRow.kept hr hg hnb
      have hA : OwnActs B w' x.2 x.1 := ⟨L', e, hr', fun y hy => ⟨own_tag (hi y hy).1 T (by decide), own_tag (hi y hy).2 T (by decide)⟩⟩
      exact hA.tag T2 (by decide) (by decide) (by decide)
    · simp at h1; subst h1
      exact (act_snoc hM hMi hd hk ho hg).tag T2 (by decide) (by decide) (by decide)
  · rw [List.pairwise_append]
    refine ⟨hap1, List.pairwise_singleton _ _, fun x hx y hy => ?_⟩
    simp at hy; subst hy
    have h2 := hap2 x hx (M.map (·.1), av) (by simp)
    rcases h2 with h2 | h2
    · exact .inl h2
    · rcases hb with hb | hb
      · right; rw [hb]; exact h2
      · right
        intro e
        rw [hb] at e
        obtain ⟨L', _, hr, _⟩ := h.acts x (List.mem_append.2 (.inl hx))
        have := (hr.lt _ e).2
        omega

end Go.Proofs.YtliakmgombpjpaaGreatDoor
