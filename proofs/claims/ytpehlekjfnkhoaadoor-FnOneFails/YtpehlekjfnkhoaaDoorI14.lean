/-
  A law's step: the first body with an act more that fails.
-/
import Derived.Test.YtpehlekjfnkhoaaDoorI13
namespace Go.Proofs.YtpehlekjfnkhoaaDoor
open Go.RowKit
set_option linter.unusedSimpArgs false
set_option linter.unusedVariables false

/-- how far the copy has come: what was made empty, copied, what comes behind, and all of it -/
structure M11 (L : List (Ac × Value × Value)) (V W : World) (o2 : Option Nat) (o7 : Option Value) (o9 : Option Nat) (o10 : Option (Nat × Nat)) : Prop where
  bel : Below V.heap.size V W
  p2 : ∀ g, o2 = some g → W.ownsRow V.heap.size 34 4 (.slice (some ⟨g, 0, none⟩) 0 0) 0 []
  p7 : ∀ v, o7 = some v → W.ownsRow V.heap.size 34 4 v L.length (acCells L)
  p9 : ∀ g, o9 = some g → W.heap[g]? = some (.cells #[.int .i64 3, .slice none 0 0, .slice none 0 0, .int .i64 0] 34 (0, 0)) ∧ ∀ x, o2 = some x → x ≠ g
  p10 : ∀ q, o10 = some q → W.ownsRow V.heap.size 34 4 (.slice (some ⟨q.1, 0, none⟩) (L.length + 1) q.2) (L.length + 1) (acCells L ++ [.int .i64 3, .slice none 0 0, .slice none 0 0, .int .i64 0])
theorem M11.start (L : List (Ac × Value × Value)) (V : World) : M11 L V V.drew none none none none :=
  ⟨(Below.refl _ _).drew, by simp, by simp, by simp, by simp⟩
theorem hp_lt {W : World} {g : Nat} {o : Obj} (h : W.heap[g]? = some o) : g < W.heap.size := (Array.getElem?_eq_some_iff.1 h).1
theorem M11.mk2 {L : List (Ac × Value × Value)} {V W : World} {o9 : Option Nat} (h : M11 L V W none none o9 none) : M11 L V (W.alloc (.cells #[] 34)) (some W.heap.size) none o9 none :=
  ⟨h.bel.alloc h.bel.size _, fun g hg => by injection hg with hg; subst hg; exact World.ownsRow_made W #[] 0 h.bel.size (by unfold maxLen; omega) (by simp), by simp,
    fun g hg => ⟨(Below.heap_alloc W _ g (hp_lt (h.p9 g hg).1)).trans (h.p9 g hg).1, fun x hx => by injection hx with hx; subst hx; exact Nat.ne_of_gt (hp_lt (h.p9 g hg).1)⟩, by simp⟩
theorem M11.mk9 {L : List (Ac × Value × Value)} {V W : World} {o2 : Option Nat} {o7 : Option Value} (h : M11 L V W o2 o7 none none) : M11 L V (W.alloc (.cells #[.int .i64 3, .slice none 0 0, .slice none 0 0, .int .i64 0] 34)) o2 o7 (some W.heap.size) none :=
  ⟨h.bel.alloc h.bel.size _, fun g hg => (h.p2 g hg).alloc _, fun q hq => (h.p7 q hq).alloc _, fun g hg => by
      injection hg with hg
      subst hg
      exact ⟨heap_alloc_new W _, fun x hx => Nat.ne_of_lt ((h.p2 x hx).lt x rfl).2⟩, by simp⟩
theorem M11.app7 {L : List (Ac × Value × Value)} {V W W' : World} {g2 : Nat} {v : Value} {o9 : Option Nat} (h : M11 L V W (some g2) none o9 none)
    (ho : W'.ownsRow V.heap.size 34 4 v (0 + L.length) ([] ++ acCells L)) (hg : W.grownBy W' (Value.slice (some ⟨g2, 0, none⟩) 0 0).ownBlock) : M11 L V W' none (some v) o9 none := by
  have h2 := h.p2 g2 rfl
  rw [Nat.zero_add, List.nil_append] at ho
  refine ⟨h.bel.grown hg h.bel.size (fun b e => (h2.lt b e).1), by simp, fun q hq => by injection hq with hq; subst hq; exact ho, fun g h9 => ?_, by simp⟩
  obtain ⟨k1, k2⟩ := h.p9 g h9
  have hne := k2 g2 rfl
  exact ⟨(hg.block g (hp_lt k1) (fun e => hne (by injection e with e; exact e.symm))).trans k1, by simp⟩
theorem M11.app10 {L : List (Ac × Value × Value)} {V W W' : World} {g9 g10 c10 : Nat} {v : Value} (h : M11 L V W none (some v) (some g9) none)
    (ho : W'.ownsRow V.heap.size 34 4 (.slice (some ⟨g10, 0, none⟩) (L.length + 1) c10) (L.length + 1) (acCells L ++ [.int .i64 3, .slice none 0 0, .slice none 0 0, .int .i64 0])) (hg : W.grownBy W' v.ownBlock) : M11 L V W' none none none (some (g10, c10)) := by
  have h7 := h.p7 v rfl
  exact ⟨h.bel.grown hg h.bel.size (fun b e => (h7.lt b e).1), by simp, by simp, by simp, fun q hq => by injection hq with hq; subst hq; exact ho⟩
theorem M11.src9 {L : List (Ac × Value × Value)} {V W : World} {g : Nat} {o2 : Option Nat} {o7 : Option Value} (h : M11 L V W o2 o7 (some g) none) : ∀ j u, [.int .i64 3, .slice none 0 0, .slice none 0 0, .int .i64 0][j]? = some u → W.cell? ((⟨g, 0, none⟩ : Addr).add j) = some u :=
  World.news_of_block (cs := #[.int .i64 3, .slice none 0 0, .slice none 0 0, .int .i64 0]) (h.p9 g rfl).1
theorem M11.src {L : List (Ac × Value × Value)} {V W : World} {aa : Option Addr} {o2 o9 : Option Nat} {o7 : Option Value} {o10 : Option (Nat × Nat)} (h : M11 L V W o2 o7 o9 o10) (hs : L.length = 0 ∨ ∃ b off, aa = some ⟨b, off, none⟩ ∧ b < V.heap.size ∧ ∀ j u, (acCells L)[j]? = some u → V.cell? ((⟨b, off, none⟩ : Addr).add j) = some u) : L.length = 0 ∨ ∃ ad, aa = some ad ∧ ∀ j u, (acCells L)[j]? = some u → W.cell? (ad.add j) = some u := by
  rcases hs with h0 | ⟨b, off, e, hb, hc⟩
  · exact .inl h0
  · refine .inr ⟨⟨b, off, none⟩, e, fun j u hj => ?_⟩
    have h1 := hc j u hj
    rw [Go.WideShapes.add_plain] at h1 ⊢
    rw [h.bel.cell (p := ⟨b, _, none⟩) hb]; exact h1
/-- what is read -/
structure R11 (V : World) (P G b off g5 m cb c5 nl ca : Nat) (cv cv' : Value) (aa : Option Addr) : Prop where
  p : PBox V P cv (.slice (some ⟨b, off, none⟩) m cb)
  g : PBox V G cv' (.slice (some ⟨g5, 0, none⟩) m c5)
  c : V.cell? ⟨b, off, none⟩ = some (.slice aa nl ca)
  z : V.cell? ⟨g5, 0, none⟩ = some (.slice aa nl ca)
  lb : b < V.heap.size
  l5 : g5 < V.heap.size
  f : V.frozen? ⟨g5, 0, none⟩ = false
theorem M11.S {L : List (Ac × Value × Value)} {V W : World} {aa : Option Addr} {o2 o9 : Option Nat} {o7 : Option Value} {o10 : Option (Nat × Nat)} {P G b off g5 m cb c5 nl ca : Nat} {cv cv' : Value} (h : M11 L V W o2 o7 o9 o10) (hR : R11 V P G b off g5 m cb c5 nl ca cv cv' aa) : W.cell? ⟨P, 1, none⟩ = some (.slice (some ⟨b, off, none⟩) m cb) ∧ W.cell? ⟨G, 1, none⟩ = some (.slice (some ⟨g5, 0, none⟩) m c5) ∧ W.cell? ⟨b, off, none⟩ = some (.slice aa nl ca) :=
  ⟨(h.bel.cell (p := ⟨P, 1, none⟩) hR.p.lt).trans hR.p.cells.2.1, (h.bel.cell (p := ⟨G, 1, none⟩) hR.g.lt).trans hR.g.cells.2.1, (h.bel.cell (p := ⟨b, off, none⟩) hR.lb).trans hR.c⟩
theorem M11.st {L : List (Ac × Value × Value)} {V W : World} {aa : Option Addr} {o2 o9 : Option Nat} {o7 : Option Value} {o10 : Option (Nat × Nat)} {P G b off g5 m cb c5 nl ca : Nat} {cv cv' : Value} (h : M11 L V W o2 o7 o9 o10) (hR : R11 V P G b off g5 m cb c5 nl ca cv cv' aa) : W.cell? ⟨g5, 0, none⟩ = some (.slice aa nl ca) ∧ W.frozen? ⟨g5, 0, none⟩ = false ∧ g5 < W.heap.size :=
  ⟨(h.bel.cell (p := ⟨g5, 0, none⟩) hR.l5).trans hR.z, (h.bel.frozen (p := ⟨g5, 0, none⟩) hR.l5).trans hR.f, Nat.lt_of_lt_of_le hR.l5 h.bel.size⟩

set_option maxRecDepth 100000 in
set_option maxHeartbeats 4000000 in
theorem fail_reg11 (V : World) (P G b off g5 m cb c5 ca : Nat) (cv cv' : Value) (aa : Option Addr) (L : List (Ac × Value × Value)) (HS0 : Hid (R11 V P G b off g5 m cb c5 L.length ca cv cv' aa)) (HL : Hid ((acCells L).length = L.length * 4 ∧ ∀ u, u ∈ acCells L → u.oneCell' = true)) (HSR : Hid (L.length = 0 ∨ ∃ b off, aa = some ⟨b, off, none⟩ ∧ b < V.heap.size ∧ ∀ j u, (acCells L)[j]? = some u → V.cell? ((⟨b, off, none⟩ : Addr).add j) = some u)) (hl4 : L.length ≤ 4) (hm0 : 0 < m) (hm : m ≤ 10) (Q : Exit → Act → World → Prop) (u0 u1 u2 u4 u5 u6 u7 u8 u9 u11 u12 u13 u14 u15 u16 u17 u18 u19 u20 u21 u22 u23 u24 u25 u26 u27 u28 u29 u30 u31 u32 u33 u34 u35 u36 u37 u38 u39 u40 u41 u42 u43 u44 u45 u46 u47 u48 u49 u50 u51 u52 u53 u54 u55 u56 u57 u58 u59 u60 u61 u62 u63 u64 u65 u66 u67 u68 u69 u70 u71 u72 u73 u74 u75 u76 u77 u78 u79 u80 u81 u82 u83 u84 u85 u86 u87 u88 u89 u90 u91 u92 u93 u94 u95 u96 u97 u98 u99 u100 u101 : Value)
    (hQ : Hid (∀ (v75 v76 v77 v78 v79 v80 v81 v82 v83 v84 v85 v86 : Value) (W : World) (g10 c10 : Nat), W.ownsRow V.heap.size 34 4 (.slice (some ⟨g10, 0, none⟩) (L.length + 1) c10) (L.length + 1) (acCells L ++ [.int .i64 3, .slice none 0 0, .slice none 0 0, .int .i64 0]) → Below V.heap.size V W → Q .normal ⟨(u0 :: u1 :: u2 :: .pointer (some ⟨P, 0, none⟩) :: u4 :: u5 :: u6 :: u7 :: u8 :: u9 :: .pointer (some ⟨G, 0, none⟩) :: u11 :: u12 :: u13 :: u14 :: u15 :: u16 :: u17 :: u18 :: u19 :: u20 :: u21 :: u22 :: u23 :: u24 :: u25 :: u26 :: u27 :: u28 :: u29 :: u30 :: u31 :: u32 :: u33 :: u34 :: u35 :: u36 :: u37 :: u38 :: u39 :: u40 :: u41 :: u42 :: u43 :: u44 :: u45 :: u46 :: u47 :: u48 :: u49 :: u50 :: u51 :: u52 :: u53 :: u54 :: u55 :: u56 :: u57 :: u58 :: u59 :: u60 :: u61 :: u62 :: u63 :: u64 :: u65 :: u66 :: u67 :: u68 :: u69 :: u70 :: u71 :: u72 :: u73 :: u74 :: v75 :: v76 :: v77 :: v78 :: v79 :: v80 :: v81 :: v82 :: v83 :: v84 :: v85 :: v86 :: u87 :: u88 :: u89 :: u90 :: u91 :: u92 :: u93 :: u94 :: u95 :: u96 :: u97 :: u98 :: u99 :: u100 :: u101 :: []).toArray, []⟩ (W.setCell ⟨g5, 0, none⟩ (.slice (some ⟨g10, 0, none⟩) (L.length + 1) c10)))) :
    Code.wp Tryd.prog (failReg 11) Q ⟨(u0 :: u1 :: u2 :: .pointer (some ⟨P, 0, none⟩) :: u4 :: u5 :: u6 :: u7 :: u8 :: u9 :: .pointer (some ⟨G, 0, none⟩) :: u11 :: u12 :: u13 :: u14 :: u15 :: u16 :: u17 :: u18 :: u19 :: u20 :: u21 :: u22 :: u23 :: u24 :: u25 :: u26 :: u27 :: u28 :: u29 :: u30 :: u31 :: u32 :: u33 :: u34 :: u35 :: u36 :: u37 :: u38 :: u39 :: u40 :: u41 :: u42 :: u43 :: u44 :: u45 :: u46 :: u47 :: u48 :: u49 :: u50 :: u51 :: u52 :: u53 :: u54 :: u55 :: u56 :: u57 :: u58 :: u59 :: u60 :: u61 :: u62 :: u63 :: u64 :: u65 :: u66 :: u67 :: u68 :: u69 :: u70 :: u71 :: u72 :: u73 :: u74 :: u75 :: u76 :: u77 :: u78 :: u79 :: u80 :: u81 :: u82 :: u83 :: u84 :: u85 :: u86 :: u87 :: u88 :: u89 :: u90 :: u91 :: u92 :: u93 :: u94 :: u95 :: u96 :: u97 :: u98 :: u99 :: u100 :: u101 :: []).toArray, []⟩ V := by
  obtain ⟨i1, hi1, hy0, hy1, hy2⟩ := info_parts Tryd.info_act
  have hm' : (0 : Int) < (m : Int) := by omega
  conv => arg 2; whnf
  refine wp_region_noPanic ?_
  have HM : Hid (M11 L V V.drew none none none none) := M11.start L V
  refine till_begin (S := fun w' => w'.cell? ⟨P, 1, none⟩ = some (.slice (some ⟨b, off, none⟩) m cb) ∧ w'.cell? ⟨G, 1, none⟩ = some (.slice (some ⟨g5, 0, none⟩) m c5) ∧ w'.cell? ⟨b, off, none⟩ = some (.slice aa L.length ca)) (z := 12) (by kernel_rfl) ?_
  generalize V.drew = W0 at HM ⊢
  refine till_take (i := 0) (v := (.pointer (some ⟨G, 1, none⟩))) rfl (by kernel_rfl) (fun _ _ _ h => h) (by rfl) ?_ (HM.out.S HS0.out) ?_
  · (intro w hSw; obtain ⟨s0, s1, s2⟩ := hSw; go_simp)
  (try simp only [Act.put, List.setIfInBounds_toArray, List.set_cons_zero, List.set_cons_succ])
  refine till_take (i := 1) (v := (.slice (some ⟨g5, 0, none⟩) m c5)) rfl (by kernel_rfl) (fun _ _ _ h => h) (by rfl) ?_ (HM.out.S HS0.out) ?_
  · (intro w hSw; obtain ⟨s0, s1, s2⟩ := hSw; go_simp)
  (try simp only [Act.put, List.setIfInBounds_toArray, List.set_cons_zero, List.set_cons_succ])
  refine till_take (i := 3) (v := (.pointer (some ⟨P, 1, none⟩))) rfl (by kernel_rfl) (fun _ _ _ h => h) (by rfl) ?_ (HM.out.S HS0.out) ?_
  · (intro w hSw; obtain ⟨s0, s1, s2⟩ := hSw; go_simp)
  (try simp only [Act.put, List.setIfInBounds_toArray, List.set_cons_zero, List.set_cons_succ])
  refine till_take (i := 4) (v := (.slice (some ⟨b, off, none⟩) m cb)) rfl (by kernel_rfl) (fun _ _ _ h => h) (by rfl) ?_ (HM.out.S HS0.out) ?_
  · (intro w hSw; obtain ⟨s0, s1, s2⟩ := hSw; go_simp)
  (try simp only [Act.put, List.setIfInBounds_toArray, List.set_cons_zero, List.set_cons_succ])
  refine till_take (i := 5) (v := (.pointer (some ⟨b, off, none⟩))) rfl (by kernel_rfl) (fun _ _ _ h => h) (by rfl) ?_ (HM.out.S HS0.out) ?_
  · (intro w hSw; obtain ⟨s0, s1, s2⟩ := hSw; go_simp)
  (try simp only [Act.put, List.setIfInBounds_toArray, List.set_cons_zero, List.set_cons_succ])
  refine till_take (i := 6) (v := (.slice aa L.length ca)) rfl (by kernel_rfl) (fun _ _ _ h => h) (by rfl) ?_ (HM.out.S HS0.out) ?_
  · (intro w hSw; obtain ⟨s0, s1, s2⟩ := hSw; go_simp)
  (try simp only [Act.put, List.setIfInBounds_toArray, List.set_cons_zero, List.set_cons_succ])
  refine till_take (i := 8) (v := (.agg #[.int .i64 3, .slice none 0 0, .slice none 0 0, .int .i64 0])) rfl (by kernel_rfl) (fun _ _ _ h => h) (by rfl) ?_ (HM.out.S HS0.out) ?_
  · (intro w hSw; obtain ⟨s0, s1, s2⟩ := hSw; go_simp)
  (try simp only [Act.put, List.setIfInBounds_toArray, List.set_cons_zero, List.set_cons_succ])
  refine till_two (i := 2) (j := 9) rfl rfl (by kernel_rfl) (fun K hK => ?_) (fun K hK => ?_)
  · skip
    go_simp
    replace HM := (show Hid (M11 _ _ _ _ _ _ _) from HM.out.mk2)
    refine hK.out _ _ (fun _ => HM.out.S HS0.out) ?_
    (try simp only [Act.put, List.setIfInBounds_toArray, List.set_cons_zero, List.set_cons_succ])
    clear hK
    generalize W0.alloc (.cells #[] 34) = W1 at HM ⊢
    generalize W0.heap.size = g2 at HM ⊢
    refine till_two (i := 7) (j := 9) rfl rfl (by kernel_rfl) (fun K hK => ?_) (fun K hK => ?_)
    · skip
      refine step_append_src (by rfl) _ _ 31 (by rfl) V.heap.size 34 i1 (.agg #[.int .i64 0, .slice none 0 0, .slice none 0 0, .int .i64 0]) 4 64 Tryd.underlying31 hi1 hy0 hy1 hy2 rfl (by decide) _ 0 [] (by rfl) (HM.out.p2 _ rfl) aa L.length ca (acCells L) (by rfl) HL.out.1 (HM.out.src HSR.out) HL.out.2 (by unfold maxLen; omega) (by omega) HM.out.bel.size ?_
      intro v7 W2 hown hgrow
      replace HM := (show Hid (M11 _ _ _ _ _ _ _) from HM.out.app7 hown hgrow)
      clear hown hgrow
      obtain ⟨a7, k7, hv7, _⟩ := own_shape (HM.out.p7 _ rfl)
      subst hv7
      refine hK.out _ _ (fun _ => HM.out.S HS0.out) ?_
      (try simp only [Act.put, List.setIfInBounds_toArray, List.set_cons_zero, List.set_cons_succ])
      clear hK
      refine till_step (i := 9) rfl (by kernel_rfl) (fun K hK => ?_)
      go_simp
      replace HM := (show Hid (M11 _ _ _ _ _ _ _) from HM.out.mk9)
      refine hK.out _ _ (fun _ => HM.out.S HS0.out) ?_
      (try simp only [Act.put, List.setIfInBounds_toArray, List.set_cons_zero, List.set_cons_succ])
      clear hK
      generalize W2.alloc (.cells #[.int .i64 3, .slice none 0 0, .slice none 0 0, .int .i64 0] 34) = W3 at HM ⊢
      generalize W2.heap.size = g9 at HM ⊢
      refine till_step (i := 10) rfl (by kernel_rfl) (fun K hK => ?_)
      refine step_append_lies _ (by rfl) _ _ 31 (by rfl) V.heap.size 34 i1 (.agg #[.int .i64 0, .slice none 0 0, .slice none 0 0, .int .i64 0]) 4 64 Tryd.underlying31 hi1 hy0 hy1 hy2 rfl (by omega) _ L.length (acCells L) (by rfl) (HM.out.p7 _ rfl) _ 1 1 [.int .i64 3, .slice none 0 0, .slice none 0 0, .int .i64 0] (by rfl) rfl HM.out.src9 (by intro u hu; simp at hu; rcases hu with rfl | rfl | rfl | rfl <;> rfl) (by omega) (by unfold maxLen; omega) (by omega) HM.out.bel.size _ rfl ?_
      intro g10 c10 W4 hown hgrow hat hlt
      replace HM := (show Hid (M11 _ _ _ _ _ _ _) from HM.out.app10 hown hgrow)
      clear hown hgrow hat hlt
      refine hK.out _ _ (fun _ => HM.out.S HS0.out) ?_
      (try simp only [Act.put, List.setIfInBounds_toArray, List.set_cons_zero, List.set_cons_succ])
      clear hK
      refine till_take (i := 11) (v := (.pointer (some ⟨g5, 0, none⟩))) rfl (by kernel_rfl) (fun _ _ _ h => h) (by rfl) ?_ (HM.out.S HS0.out) ?_
      · (intro w hSw; obtain ⟨s0, s1, s2⟩ := hSw; go_simp)
      (try simp only [Act.put, List.setIfInBounds_toArray, List.set_cons_zero, List.set_cons_succ])
      obtain ⟨y0, y1, y2⟩ := HM.out.st HS0.out
      refine till_step (i := 12) rfl (by kernel_rfl) (fun K hK => ?_)
      go_simp
      refine hK.out _ _ (fun h => absurd rfl h) ?_
      clear hK
      refine till_done (by kernel_rfl) ?_ _
      exact hQ.out _ _ _ _ _ _ _ _ _ _ _ _ _ _ _ (HM.out.p10 _ rfl) HM.out.bel
    · skip
      go_simp
      replace HM := (show Hid (M11 _ _ _ _ _ _ _) from HM.out.mk9)
      refine hK.out _ _ (fun _ => HM.out.S HS0.out) ?_
      (try simp only [Act.put, List.setIfInBounds_toArray, List.set_cons_zero, List.set_cons_succ])
      clear hK
      generalize W1.alloc (.cells #[.int .i64 3, .slice none 0 0, .slice none 0 0, .int .i64 0] 34) = W2 at HM ⊢
      generalize W1.heap.size = g9 at HM ⊢
      refine till_step (i := 7) rfl (by kernel_rfl) (fun K hK => ?_)
      refine step_append_src (by rfl) _ _ 31 (by rfl) V.heap.size 34 i1 (.agg #[.int .i64 0, .slice none 0 0, .slice none 0 0, .int .i64 0]) 4 64 Tryd.underlying31 hi1 hy0 hy1 hy2 rfl (by decide) _ 0 [] (by rfl) (HM.out.p2 _ rfl) aa L.length ca (acCells L) (by rfl) HL.out.1 (HM.out.src HSR.out) HL.out.2 (by unfold maxLen; omega) (by omega) HM.out.bel.size ?_
      intro v7 W3 hown hgrow
      replace HM := (show Hid (M11 _ _ _ _ _ _ _) from HM.out.app7 hown hgrow)
      clear hown hgrow
      obtain ⟨a7, k7, hv7, _⟩ := own_shape (HM.out.p7 _ rfl)
      subst hv7
      refine hK.out _ _ (fun _ => HM.out.S HS0.out) ?_
      (try simp only [Act.put, List.setIfInBounds_toArray, List.set_cons_zero, List.set_cons_succ])
      clear hK
      refine till_step (i := 10) rfl (by kernel_rfl) (fun K hK => ?_)
      refine step_append_lies _ (by rfl) _ _ 31 (by rfl) V.heap.size 34 i1 (.agg #[.int .i64 0, .slice none 0 0, .slice none 0 0, .int .i64 0]) 4 64 Tryd.underlying31 hi1 hy0 hy1 hy2 rfl (by omega) _ L.length (acCells L) (by rfl) (HM.out.p7 _ rfl) _ 1 1 [.int .i64 3, .slice none 0 0, .slice none 0 0, .int .i64 0] (by rfl) rfl HM.out.src9 (by intro u hu; simp at hu; rcases hu with rfl | rfl | rfl | rfl <;> rfl) (by omega) (by unfold maxLen; omega) (by omega) HM.out.bel.size _ rfl ?_
      intro g10 c10 W4 hown hgrow hat hlt
      replace HM := (show Hid (M11 _ _ _ _ _ _ _) from HM.out.app10 hown hgrow)
      clear hown hgrow hat hlt
      refine hK.out _ _ (fun _ => HM.out.S HS0.out) ?_
      (try simp only [Act.put, List.setIfInBounds_toArray, List.set_cons_zero, List.set_cons_succ])
      clear hK
      refine till_take (i := 11) (v := (.pointer (some ⟨g5, 0, none⟩))) rfl (by kernel_rfl) (fun _ _ _ h => h) (by rfl) ?_ (HM.out.S HS0.out) ?_
      · (intro w hSw; obtain ⟨s0, s1, s2⟩ := hSw; go_simp)
      (try simp only [Act.put, List.setIfInBounds_toArray, List.set_cons_zero, List.set_cons_succ])
      obtain ⟨y0, y1, y2⟩ := HM.out.st HS0.out
      refine till_step (i := 12) rfl (by kernel_rfl) (fun K hK => ?_)
      go_simp
      refine hK.out _ _ (fun h => absurd rfl h) ?_
      clear hK
      refine till_done (by kernel_rfl) ?_ _
      exact hQ.out _ _ _ _ _ _ _ _ _ _ _ _ _ _ _ (HM.out.p10 _ rfl) HM.out.bel
  · skip
    go_simp
    replace HM := (show Hid (M11 _ _ _ _ _ _ _) from HM.out.mk9)
    refine hK.out _ _ (fun _ => HM.out.S HS0.out) ?_
    (try simp only [Act.put, List.setIfInBounds_toArray, List.set_cons_zero, List.set_cons_succ])
    clear hK
    generalize W0.alloc (.cells #[.int .i64 3, .slice none 0 0, .slice none 0 0, .int .i64 0] 34) = W1 at HM ⊢
    generalize W0.heap.size = g9 at HM ⊢
    refine till_step (i := 2) rfl (by kernel_rfl) (fun K hK => ?_)
    go_simp
    replace HM := (show Hid (M11 _ _ _ _ _ _ _) from HM.out.mk2)
    refine hK.out _ _ (fun _ => HM.out.S HS0.out) ?_
    (try simp only [Act.put, List.setIfInBounds_toArray, List.set_cons_zero, List.set_cons_succ])
    clear hK
    generalize W1.alloc (.cells #[] 34) = W2 at HM ⊢
    generalize W1.heap.size = g2 at HM ⊢
    refine till_step (i := 7) rfl (by kernel_rfl) (fun K hK => ?_)
    refine step_append_src (by rfl) _ _ 31 (by rfl) V.heap.size 34 i1 (.agg #[.int .i64 0, .slice none 0 0, .slice none 0 0, .int .i64 0]) 4 64 Tryd.underlying31 hi1 hy0 hy1 hy2 rfl (by decide) _ 0 [] (by rfl) (HM.out.p2 _ rfl) aa L.length ca (acCells L) (by rfl) HL.out.1 (HM.out.src HSR.out) HL.out.2 (by unfold maxLen; omega) (by omega) HM.out.bel.size ?_
    intro v7 W3 hown hgrow
    replace HM := (show Hid (M11 _ _ _ _ _ _ _) from HM.out.app7 hown hgrow)
    clear hown hgrow
    obtain ⟨a7, k7, hv7, _⟩ := own_shape (HM.out.p7 _ rfl)
    subst hv7
    refine hK.out _ _ (fun _ => HM.out.S HS0.out) ?_
    (try simp only [Act.put, List.setIfInBounds_toArray, List.set_cons_zero, List.set_cons_succ])
    clear hK
    refine till_step (i := 10) rfl (by kernel_rfl) (fun K hK => ?_)
    refine step_append_lies _ (by rfl) _ _ 31 (by rfl) V.heap.size 34 i1 (.agg #[.int .i64 0, .slice none 0 0, .slice none 0 0, .int .i64 0]) 4 64 Tryd.underlying31 hi1 hy0 hy1 hy2 rfl (by omega) _ L.length (acCells L) (by rfl) (HM.out.p7 _ rfl) _ 1 1 [.int .i64 3, .slice none 0 0, .slice none 0 0, .int .i64 0] (by rfl) rfl HM.out.src9 (by intro u hu; simp at hu; rcases hu with rfl | rfl | rfl | rfl <;> rfl) (by omega) (by unfold maxLen; omega) (by omega) HM.out.bel.size _ rfl ?_
    intro g10 c10 W4 hown hgrow hat hlt
    replace HM := (show Hid (M11 _ _ _ _ _ _ _) from HM.out.app10 hown hgrow)
    clear hown hgrow hat hlt
    refine hK.out _ _ (fun _ => HM.out.S HS0.out) ?_
    (try simp only [Act.put, List.setIfInBounds_toArray, List.set_cons_zero, List.set_cons_succ])
    clear hK
    refine till_take (i := 11) (v := (.pointer (some ⟨g5, 0, none⟩))) rfl (by kernel_rfl) (fun _ _ _ h => h) (by rfl) ?_ (HM.out.S HS0.out) ?_
    · (intro w hSw; obtain ⟨s0, s1, s2⟩ := hSw; go_simp)
    (try simp only [Act.put, List.setIfInBounds_toArray, List.set_cons_zero, List.set_cons_succ])
    obtain ⟨y0, y1, y2⟩ := HM.out.st HS0.out
    refine till_step (i := 12) rfl (by kernel_rfl) (fun K hK => ?_)
    go_simp
    refine hK.out _ _ (fun h => absurd rfl h) ?_
    clear hK
    refine till_done (by kernel_rfl) ?_ _
    exact hQ.out _ _ _ _ _ _ _ _ _ _ _ _ _ _ _ (HM.out.p10 _ rfl) HM.out.bel

end Go.Proofs.YtpehlekjfnkhoaaDoor
