import Derived.Test.YtgbgjljflgbcaaaNe18
namespace Go.Proofs.Ytgbgjljflgbcaaa
open Go.RowKit
set_option linter.unusedSimpArgs false
set_option linter.unusedVariables false
structure BtD (T : Nat → Prop) (B R Wb P : Nat) (w0 V : World) (p : Nat) (cv : Value) (xs : List Int) (ov : Value) (LB : List (List (Ac × Value × Value) × Value)) : Prop where
  rd : RdAt B V R p
  fr : Fr R Wb w0 V
  pg : PBox V (Wb + 1) (.slice none 0 0) (.slice none 0 0)
  pp : PBox V P cv ov
  oi : OwnInt Wb V cv xs
  ob : OutB (fun b => T b ∧ b < Wb) Wb V ov LB
  tr : ∀ b, T b → b ≠ R
theorem BtD.next {T : Nat → Prop} {B R Wb P p p' : Nat} {w0 V V' : World} {cv ov : Value} {xs : List Int} {LB : List (List (Ac × Value × Value) × Value)} (h : BtD T B R Wb P w0 V p cv xs ov LB) (hr : RdAt B V' R p') (hf : Fr R V.heap.size V V') (hR : R < Wb) (hP : Wb ≤ P) (hW : Wb ≤ V.heap.size) : BtD T B R Wb P w0 V' p' cv xs ov LB :=
  ⟨hr, h.fr.trans (hf.mono hW), h.pg.fr hf (by omega), h.pp.fr hf (by omega), own_fr h.oi hf hR, h.ob.fr hf hR (fun b hb => h.tr b hb.1), h.tr⟩
theorem BtD.alloc {T : Nat → Prop} {B R Wb P p : Nat} {w0 V : World} {cv ov : Value} {xs : List Int} {LB : List (List (Ac × Value × Value) × Value)} (h : BtD T B R Wb P w0 V p cv xs ov LB) (hR : R < Wb) (hB : B ≤ Wb) (hP : Wb ≤ P) (hW : Wb ≤ V.heap.size) (o : Obj) : BtD T B R Wb P w0 (V.alloc o) p cv xs ov LB :=
  h.next (h.rd.below ((Below.refl _ _).alloc (by omega) _)) (Fr.of_below ((Below.refl _ _).alloc (Nat.le_refl _) _)) hR hP hW
theorem BtD.set0 {T : Nat → Prop} {B R Wb P p gc n cap : Nat} {w0 V : World} {ov : Value} {xs : List Int} {LB : List (List (Ac × Value × Value) × Value)} (h : BtD T B R Wb P w0 V p (.slice (some ⟨gc, 0, none⟩) n cap) xs ov LB) (hx : 0 < xs.length) (hB : B ≤ Wb) (x : Int) :
    (∃ u, V.cell? ⟨gc, 0, none⟩ = some u) ∧ V.frozen? ⟨gc, 0, none⟩ = false ∧ gc < V.heap.size ∧ gc ≠ P ∧ BtD T B R Wb P w0 (V.setCell ⟨gc, 0, none⟩ (.int .i64 x)) p (.slice (some ⟨gc, 0, none⟩) n cap) (x :: xs.tail) ov LB := by
  match xs, hx with
  | x0 :: xt, _ =>
    have h1 := h.oi
    obtain ⟨_, _, e1, _, _⟩ := own_shape h1
    injection e1 with _ en _
    unfold OwnInt at h1
    rw [← en] at h1
    simp only [List.map_cons] at h1
    obtain ⟨k1, k2, k3, k4, TK, hr⟩ := own_set0 h1 (.int .i64 x)
    have hb : Below Wb V (V.setCell ⟨gc, 0, none⟩ (.int .i64 x)) := (Below.refl _ _).setCell (by simpa using k1) _
    have hne : gc ≠ P := by
      rcases h1.2 with ⟨e, _⟩ | ⟨g', cap', cur, e, _, hg, _⟩
      · cases e
      · injection e with e2 e3 e4
        injection e2 with e5
        injection e5 with e6
        subst e6
        intro e7
        subst e7
        have h1 := h.pp
        unfold PBox at h1
        rw [hg] at h1
        injection h1 with h2
        injection h2 with h3 h4
        exact absurd h4 (by decide)
    refine ⟨⟨_, k3⟩, k4, k2, hne, h.rd.below (hb.mono hB), h.fr.trans (Fr.of_below hb), h.pg.tag TK (by decide), h.pp.tag TK (by decide), ?_, h.ob.tag TK (by decide) (by decide) (Kept.set _ _ _ _ (fun h => by have := h.2; omega)), h.tr⟩
    unfold OwnInt
    simp only [List.tail_cons, List.map_cons, List.length_cons] at en ⊢
    rw [← en]
    exact hr
theorem BtD.appC {T : Nat → Prop} {B R Wb P p : Nat} {w0 V w' : World} {cv v' ov : Value} {xs ys : List Int} {LB : List (List (Ac × Value × Value) × Value)} (h : BtD T B R Wb P w0 V p cv xs ov LB) (hB : B ≤ Wb) (hW : Wb ≤ V.heap.size) (hP : Wb + 1 < P)
    (ho : w'.ownsRow Wb 3 1 v' (xs.length + ys.length) (xs.map (Value.int .i64) ++ ys.map (Value.int .i64))) (hg : V.grownBy w' cv.ownBlock) :
    PBox w' P cv ov ∧ BtD T B R Wb P w0 (w'.setCell ⟨P, 0, none⟩ v') p v' (xs ++ ys) ov LB := by
  have TK := TagKept.grown h.oi hg
  have K1 : Kept (fun b => T b ∧ b < Wb) V w' := ⟨hg.size, fun b o hb hlt => World.cell?_of_block (hg.block b hlt (fun e => by have h1 := (h.oi.lt b e.symm).1; have h2 := hb.2; omega))⟩
  have hb1 : Below Wb V w' := (Below.refl _ _).grown hg hW (fun b e => (h.oi.lt b e).1)
  have hb2 : Below Wb V (w'.setCell ⟨P, 0, none⟩ v') := hb1.setCell (by simp; omega) _
  have pp1 := h.pp.tag TK (by decide)
  have T2 := pp1.kept (o := 0) (x := v')
  refine ⟨pp1, h.rd.below (hb2.mono hB), h.fr.trans (Fr.of_below hb2), (h.pg.tag TK (by decide)).heap (Below.heap_setCell _ _ _ _ (by simp; omega)), pp1.set0 _, ?_, (h.ob.tag TK (by decide) (by decide) K1).tag T2 (by decide) (by decide) (Kept.set _ _ _ _ (fun h => by have := h.2; omega)), h.tr⟩
  have h2 : OwnInt Wb w' v' (xs ++ ys) := by unfold OwnInt; rw [List.map_append, List.length_append]; exact ho
  exact own_tag h2 T2 (by decide)
theorem BtD.appB {T : Nat → Prop} {B R Wb P p : Nat} {w0 V w' : World} {cv ov ov' : Value} {xs : List Int} {LB : List (List (Ac × Value × Value) × Value)} (N : List Value) (h : BtD T B R Wb P w0 V p cv xs ov LB) (hB : B ≤ Wb) (hW : Wb ≤ V.heap.size) (hP : Wb + 1 < P) (hN : ∀ v, v ∈ N → Rw Wb V v [])
    (hfresh : ∀ y, y ∈ LB → ∀ g, y.2.ownBlock = some g → ∀ v, v ∈ N → v.ownBlock ≠ some g) (hap : N.Pairwise (fun v u => ∀ g, v.ownBlock = some g → u.ownBlock ≠ some g)) (ho : w'.ownsRow Wb 113 1 ov' (LB.length + N.length) (LB.map (·.2) ++ N)) (hg : V.grownBy w' ov.ownBlock) :
    PBox w' P cv ov ∧ BtD T B R Wb P w0 (w'.setCell ⟨P, 1, none⟩ ov') p cv xs ov' (LB ++ N.map fun v => ([], v)) := by
  have TK := TagKept.grown h.ob.row hg
  have K1 : Kept (fun b => T b ∧ b < Wb) V w' := ⟨hg.size, fun b o hb hlt => World.cell?_of_block (hg.block b hlt (fun e => by have h1 := (h.ob.row.lt b e.symm).1; have h2 := hb.2; omega))⟩
  have hb1 : Below Wb V w' := (Below.refl _ _).grown hg hW (fun b e => (h.ob.row.lt b e).1)
  have hb2 : Below Wb V (w'.setCell ⟨P, 1, none⟩ ov') := hb1.setCell (by simp; omega) _
  have pp1 := h.pp.tag TK (by decide)
  have T2 := pp1.kept (o := 1) (x := ov')
  have hob : OutB (fun b => T b ∧ b < Wb) Wb w' ov' (LB ++ N.map fun v => ([], v)) := OutB.snocs N h.ob hN hfresh hap ho hg K1
  exact ⟨pp1, h.rd.below (hb2.mono hB), h.fr.trans (Fr.of_below hb2), (h.pg.tag TK (by decide)).heap (Below.heap_setCell _ _ _ _ (by simp; omega)), pp1.set1 _, own_tag (own_tag h.oi TK (by decide)) T2 (by decide), hob.tag T2 (by decide) (by decide) (Kept.set _ _ _ _ (fun h => by have := h.2; omega)), h.tr⟩
theorem tbl2 (q : Int) (h0 : 0 ≤ q) (h1 : q < 2) : ∃ x : Int, (#[Value.int .i64 (-1), .int .i64 100] : Array Value)[q.toNat]? = some (.int .i64 x) ∧ ∀ h, ([Value.int .i64 (-1), .int .i64 100] : List Value)[q.toNat]'h = .int .i64 x := by
  have h2 : q = 0 ∨ q = 1 := by omega
  rcases h2 with rfl | rfl
  · exact ⟨-1, rfl, fun _ => rfl⟩
  · exact ⟨100, rfl, fun _ => rfl⟩
theorem three_new (W : World) (Wb : Nat) (hs : Wb ≤ W.heap.size) (o : Obj) : ∀ v, v ∈ [Value.slice (some ⟨W.heap.size, 0, none⟩) 0 0, .slice (some ⟨W.heap.size + 1, 0, none⟩) 0 0, .slice (some ⟨W.heap.size + 1 + 1, 0, none⟩) 0 0] → Rw Wb ((((W.alloc (.cells #[] 122)).alloc (.cells #[] 122)).alloc (.cells #[] 122)).alloc o) v [] := by
  intro v hv
  have h1 := World.ownsRow_made (base := Wb) (e := 122) (size := 4) W #[] 0 hs (by unfold maxLen; omega) (by simp)
  have h2 := World.ownsRow_made (base := Wb) (e := 122) (size := 4) (W.alloc (.cells #[] 122)) #[] 0 (by simp; omega) (by unfold maxLen; omega) (by simp)
  have h3 := World.ownsRow_made (base := Wb) (e := 122) (size := 4) ((W.alloc (.cells #[] 122)).alloc (.cells #[] 122)) #[] 0 (by simp; omega) (by unfold maxLen; omega) (by simp)
  rw [show (W.alloc (.cells #[] 122)).heap.size = W.heap.size + 1 from by simp] at h2
  rw [show ((W.alloc (.cells #[] 122)).alloc (.cells #[] 122)).heap.size = W.heap.size + 1 + 1 from by simp] at h3
  simp only [List.mem_cons, List.not_mem_nil, or_false] at hv
  rcases hv with rfl | rfl | rfl
  · exact World.ownsRow.alloc (World.ownsRow.alloc (World.ownsRow.alloc h1 _) _) _
  · exact World.ownsRow.alloc (World.ownsRow.alloc h2 _) _
  · exact World.ownsRow.alloc h3 _
theorem cells_newD (W : World) (M : List Value) (t : TypeId) (n : Nat) (hn : W.heap.size = n) : ∀ j u, M[j]? = some u → (W.alloc (.cells M.toArray t)).cell? ((⟨n, 0, none⟩ : Addr).add j) = some u := by
  subst hn
  intro j u hj
  rw [Go.WideShapes.add_plain, cell_of_row _ _ _ _ _ (0, 0) (heap_alloc_new W _)]
  simpa using hj
end Go.Proofs.Ytgbgjljflgbcaaa
