import Derived.Test.YtcdldgppjmpbpaaD20
namespace Go.Proofs.Ytcdldgppjmpbpaa
open Go.RowKit
set_option linter.unusedSimpArgs false
set_option linter.unusedVariables false

/-- how far a row that is copied, and made longer by one, has come: what was made empty, copied, is to be put behind, and the box -/
structure M7 (m : Nat) (N : List Value) (V W : World) (o2 : Option Nat) (o5 : Option (Nat × Nat)) (o6 o9 : Option Nat) (o7 : Option (Nat × Nat)) : Prop where
  bel : Below V.heap.size V W
  p2 : ∀ g, o2 = some g → W.ownsRow V.heap.size 30 1 (.slice (some ⟨g, 0, none⟩) 0 0) 0 []
  p5 : ∀ q, o5 = some q → W.ownsRow V.heap.size 30 1 (.slice (some ⟨q.1, 0, none⟩) m q.2) m N
  p6 : ∀ g, o6 = some g → W.heap[g]? = some (.cells #[.slice none 0 0] 30 (0, 0)) ∧ (∀ x, o2 = some x → x ≠ g) ∧ (∀ q, o5 = some q → q.1 ≠ g)
  p7 : ∀ q, o7 = some q → W.ownsRow V.heap.size 30 1 (.slice (some ⟨q.1, 0, none⟩) (m + 1) q.2) (m + 1) (N ++ [.slice none 0 0])
  p9 : ∀ g, o9 = some g → PBox W g (.slice none 0 0) (.slice none 0 0) ∧ V.heap.size ≤ g
theorem M7.start (m : Nat) (N : List Value) (V : World) : M7 m N V V.drew none none none none none :=
  ⟨(Below.refl _ _).drew, by simp, by simp, by simp, by simp, by simp⟩
theorem heap_lt {W : World} {g : Nat} {o : Obj} (h : W.heap[g]? = some o) : g < W.heap.size := (Array.getElem?_eq_some_iff.1 h).1
theorem M7.mk2 {m : Nat} {N : List Value} {V W : World} {o6 o9 : Option Nat} (h : M7 m N V W none none o6 o9 none) : M7 m N V (W.alloc (.cells #[] 30)) (some W.heap.size) none o6 o9 none :=
  ⟨h.bel.alloc h.bel.size _, fun g hg => by injection hg with hg; subst hg; exact World.ownsRow_made W #[] 0 h.bel.size (by unfold maxLen; omega) (by simp), by simp,
    fun g hg => ⟨(Below.heap_alloc W _ g (heap_lt (h.p6 g hg).1)).trans (h.p6 g hg).1, fun x hx => by injection hx with hx; subst hx; exact Nat.ne_of_gt (heap_lt (h.p6 g hg).1), by simp⟩, by simp, fun g hg => ⟨(h.p9 g hg).1.alloc _, (h.p9 g hg).2⟩⟩
theorem M7.mk6 {m : Nat} {N : List Value} {V W : World} {o2 o9 : Option Nat} {o5 : Option (Nat × Nat)} (h : M7 m N V W o2 o5 none o9 none) : M7 m N V (W.alloc (.cells #[.slice none 0 0] 30)) o2 o5 (some W.heap.size) o9 none :=
  ⟨h.bel.alloc h.bel.size _, fun g hg => (h.p2 g hg).alloc _, fun q hq => (h.p5 q hq).alloc _,
    fun g hg => by
      injection hg with hg
      subst hg
      exact ⟨heap_alloc_new W _, fun x hx => Nat.ne_of_lt ((h.p2 x hx).lt x rfl).2, fun q hq => Nat.ne_of_lt ((h.p5 q hq).lt q.1 rfl).2⟩, by simp, fun g hg => ⟨(h.p9 g hg).1.alloc _, (h.p9 g hg).2⟩⟩
theorem M7.mk9 {m : Nat} {N : List Value} {V W : World} {o2 o6 : Option Nat} {o5 o7 : Option (Nat × Nat)} (h : M7 m N V W o2 o5 o6 none o7) : M7 m N V (W.alloc (.cells #[.slice none 0 0, .slice none 0 0] 26)) o2 o5 o6 (some W.heap.size) o7 :=
  ⟨h.bel.alloc h.bel.size _, fun g hg => (h.p2 g hg).alloc _, fun q hq => (h.p5 q hq).alloc _,
    fun g hg => ⟨(Below.heap_alloc W _ g (heap_lt (h.p6 g hg).1)).trans (h.p6 g hg).1, (h.p6 g hg).2⟩, fun q hq => (h.p7 q hq).alloc _, fun g hg => by injection hg with hg; subst hg; exact ⟨heap_alloc_new W _, h.bel.size⟩⟩
theorem M7.app5 {m : Nat} {N : List Value} {V W W' : World} {g2 g5 c5 : Nat} {o6 o9 : Option Nat} (h : M7 m N V W (some g2) none o6 o9 none)
    (ho : W'.ownsRow V.heap.size 30 1 (.slice (some ⟨g5, 0, none⟩) (0 + m) c5) (0 + m) ([] ++ N)) (hg : W.grownBy W' (Value.slice (some ⟨g2, 0, none⟩) 0 0).ownBlock) (hat : (Value.slice (some ⟨g2, 0, none⟩) 0 0).ownBlock = some g5 ∨ g5 = W.heap.size) : M7 m N V W' none (some (g5, c5)) o6 o9 none := by
  have h2 := h.p2 g2 rfl
  have TK := TagKept.grown h2 hg
  rw [Nat.zero_add, List.nil_append] at ho
  refine ⟨h.bel.grown hg h.bel.size (fun b e => (h2.lt b e).1), by simp, fun q hq => by injection hq with hq; subst hq; exact ho, fun g h6 => ?_, by simp, fun g h9 => ⟨(h.p9 g h9).1.tag TK (by decide), (h.p9 g h9).2⟩⟩
  obtain ⟨k1, k2, _⟩ := h.p6 g h6
  have hne := k2 g2 rfl
  refine ⟨(hg.block g (heap_lt k1) (fun e => hne (by injection e with e; exact e.symm))).trans k1, by simp, fun q hq => ?_⟩
  injection hq with hq
  subst hq
  rcases hat with e | e
  · injection e with e
    show g5 ≠ g
    have e' : g2 = g5 := e
    rw [← e']; exact hne
  · show g5 ≠ g
    rw [e]; exact Nat.ne_of_gt (heap_lt k1)
theorem M7.app7 {m : Nat} {N : List Value} {V W W' : World} {g5 c5 g6 g7 c7 : Nat} {o9 : Option Nat} (h : M7 m N V W none (some (g5, c5)) (some g6) o9 none)
    (ho : W'.ownsRow V.heap.size 30 1 (.slice (some ⟨g7, 0, none⟩) (m + 1) c7) (m + 1) (N ++ [.slice none 0 0])) (hg : W.grownBy W' (Value.slice (some ⟨g5, 0, none⟩) m c5).ownBlock) : M7 m N V W' none none none o9 (some (g7, c7)) := by
  have h5 := h.p5 (g5, c5) rfl
  have TK := TagKept.grown h5 hg
  exact ⟨h.bel.grown hg h.bel.size (fun b e => (h5.lt b e).1), by simp, by simp, by simp, fun q hq => by injection hq with hq; subst hq; exact ho, fun g h9 => ⟨(h.p9 g h9).1.tag TK (by decide), (h.p9 g h9).2⟩⟩
theorem M7.src6 {m : Nat} {N : List Value} {V W : World} {g : Nat} {o2 o9 : Option Nat} {o5 o7 : Option (Nat × Nat)} (h : M7 m N V W o2 o5 (some g) o9 o7) : ∀ j u, [Value.slice none 0 0][j]? = some u → W.cell? ((⟨g, 0, none⟩ : Addr).add j) = some u :=
  one_src (by rw [cell_of_row W g 0 _ _ _ (h.p6 g rfl).1]; simp)
theorem M7.src {m b off : Nat} {N : List Value} {V W : World} {o2 o6 o9 : Option Nat} {o5 o7 : Option (Nat × Nat)} (h : M7 m N V W o2 o5 o6 o9 o7) (hb : b < V.heap.size) (hs : ∀ j u, N[j]? = some u → V.cell? ((⟨b, off, none⟩ : Addr).add j) = some u) : ∀ j u, N[j]? = some u → W.cell? ((⟨b, off, none⟩ : Addr).add j) = some u := fun j u hj => by
  have := hs j u hj
  rw [Go.WideShapes.add_plain] at this ⊢
  rw [h.bel.cell (p := ⟨b, _, none⟩) hb]; exact this
theorem M7.S {m P : Nat} {N : List Value} {cv bv : Value} {V W : World} {o2 o6 o9 : Option Nat} {o5 o7 : Option (Nat × Nat)} (h : M7 m N V W o2 o5 o6 o9 o7) (hP : PBox V P cv bv) : W.cell? ⟨P, 0, none⟩ = some cv ∧ W.cell? ⟨P, 1, none⟩ = some bv :=
  ⟨(h.bel.cell (p := ⟨P, 0, none⟩) hP.lt).trans hP.cells.1, (h.bel.cell (p := ⟨P, 1, none⟩) hP.lt).trans hP.cells.2.1⟩
theorem M7.box {m : Nat} {N : List Value} {V W : World} {g : Nat} {o2 o6 : Option Nat} {o5 o7 : Option (Nat × Nat)} (h : M7 m N V W o2 o5 o6 (some g) o7) : PBox W g (.slice none 0 0) (.slice none 0 0) ∧ V.heap.size ≤ g := h.p9 g rfl
theorem M7.fin {m g : Nat} {q : Nat × Nat} {cv bv : Value} {N : List Value} {V W : World} (h : M7 m N V W none none none (some g) (some q)) : PBox ((W.setCell ⟨g, 0, none⟩ cv).setCell ⟨g, 1, none⟩ bv) g cv bv ∧ ((W.setCell ⟨g, 0, none⟩ cv).setCell ⟨g, 1, none⟩ bv).ownsRow V.heap.size 30 1 (.slice (some ⟨q.1, 0, none⟩) (m + 1) q.2) (m + 1) (N ++ [.slice none 0 0]) ∧ Below V.heap.size V ((W.setCell ⟨g, 0, none⟩ cv).setCell ⟨g, 1, none⟩ bv) := by
  obtain ⟨h9, h9'⟩ := h.p9 g rfl
  refine ⟨(h9.set0 _).set1 _, own_tag (own_tag (h.p7 q rfl) (PBox.kept h9) (by decide)) (PBox.kept (h9.set0 _)) (by decide), (h.bel.setCell (by simpa using h9') _).setCell (by simpa using h9') _⟩

noncomputable def moreReg (k : Nat) : Code := ((Try.f4.body.bind (findReg k)).getD .skip)

set_option maxRecDepth 100000 in
set_option maxHeartbeats 4000000 in
theorem more_reg7 (V : World) (P : Nat) (ac : Option Addr) (nc cc b off cb m : Nat) (N : List Value) (HPB : Hid (PBox V P (.slice ac nc cc) (.slice (some ⟨b, off, none⟩) m cb))) (HN : Hid (N.length = m)) (H1 : Hid (∀ u, u ∈ N → u.oneCell' = true)) (HSR : Hid (∀ j u, N[j]? = some u → V.cell? ((⟨b, off, none⟩ : Addr).add j) = some u)) (hb : b < V.heap.size) (hm0 : 0 < m) (hm : m ≤ 10) (Q : Exit → Act → World → Prop) (u0 u1 u2 u4 u5 u6 u7 u8 u9 u10 u11 u12 u13 u14 u15 u16 u17 u18 u19 u20 u21 u22 u23 u24 u25 u26 u27 u28 u29 u30 u31 u32 u33 u34 u35 u36 u37 u38 u39 u40 u41 u42 u43 u44 u45 u46 u47 u48 u49 : Value)
    (hQ : Hid (∀ (v26 v27 v28 v29 v30 v31 v32 v33 v34 : Value) (W : World) (G g7 c7 : Nat), V.heap.size ≤ G → PBox W G (.slice ac nc cc) (.slice (some ⟨g7, 0, none⟩) (m + 1) c7) → W.ownsRow V.heap.size 30 1 (.slice (some ⟨g7, 0, none⟩) (m + 1) c7) (m + 1) (N ++ [.slice none 0 0]) → Below V.heap.size V W → Q .normal ⟨(u0 :: u1 :: u2 :: .pointer (some ⟨P, 0, none⟩) :: u4 :: .pointer (some ⟨G, 0, none⟩) :: u6 :: u7 :: u8 :: u9 :: u10 :: u11 :: u12 :: u13 :: u14 :: u15 :: u16 :: u17 :: u18 :: u19 :: u20 :: u21 :: u22 :: u23 :: u24 :: u25 :: v26 :: v27 :: v28 :: v29 :: v30 :: v31 :: v32 :: v33 :: v34 :: u35 :: u36 :: u37 :: u38 :: u39 :: u40 :: u41 :: u42 :: u43 :: u44 :: u45 :: u46 :: u47 :: u48 :: u49 :: []).toArray, []⟩ W)) :
    Code.wp Try.prog (moreReg 7) Q ⟨(u0 :: u1 :: u2 :: .pointer (some ⟨P, 0, none⟩) :: u4 :: u5 :: u6 :: u7 :: u8 :: u9 :: u10 :: u11 :: u12 :: u13 :: u14 :: u15 :: u16 :: u17 :: u18 :: u19 :: u20 :: u21 :: u22 :: u23 :: u24 :: u25 :: u26 :: u27 :: u28 :: u29 :: u30 :: u31 :: u32 :: u33 :: u34 :: u35 :: u36 :: u37 :: u38 :: u39 :: u40 :: u41 :: u42 :: u43 :: u44 :: u45 :: u46 :: u47 :: u48 :: u49 :: []).toArray, []⟩ V := by
  obtain ⟨i3, hi3, hz0, hz1, hz2⟩ := info_parts Try.info_acts
  conv => arg 2; whnf
  refine wp_region_noPanic ?_
  have HM : Hid (M7 m N V V.drew none none none none none) := M7.start m N V
  refine till_begin (S := fun w' => w'.cell? ⟨P, 0, none⟩ = some (.slice ac nc cc) ∧ w'.cell? ⟨P, 1, none⟩ = some (.slice (some ⟨b, off, none⟩) m cb)) (z := 10) (by kernel_rfl) ?_
  generalize V.drew = W0 at HM ⊢
  refine till_take (i := 0) (v := (.pointer (some ⟨P, 0, none⟩))) rfl (by kernel_rfl) (fun _ _ _ h => h) (by rfl) ?_ (HM.out.S HPB.out) ?_
  · (intro w hSw; obtain ⟨s1, s2⟩ := hSw; go_simp)
  (try simp only [Act.put, List.setIfInBounds_toArray, List.set_cons_zero, List.set_cons_succ])
  refine till_take (i := 1) (v := (.slice ac nc cc)) rfl (by kernel_rfl) (fun _ _ _ h => h) (by rfl) ?_ (HM.out.S HPB.out) ?_
  · (intro w hSw; obtain ⟨s1, s2⟩ := hSw; go_simp)
  (try simp only [Act.put, List.setIfInBounds_toArray, List.set_cons_zero, List.set_cons_succ])
  refine till_take (i := 3) (v := (.pointer (some ⟨P, 1, none⟩))) rfl (by kernel_rfl) (fun _ _ _ h => h) (by rfl) ?_ (HM.out.S HPB.out) ?_
  · (intro w hSw; obtain ⟨s1, s2⟩ := hSw; go_simp)
  (try simp only [Act.put, List.setIfInBounds_toArray, List.set_cons_zero, List.set_cons_succ])
  refine till_take (i := 4) (v := (.slice (some ⟨b, off, none⟩) m cb)) rfl (by kernel_rfl) (fun _ _ _ h => h) (by rfl) ?_ (HM.out.S HPB.out) ?_
  · (intro w hSw; obtain ⟨s1, s2⟩ := hSw; go_simp)
  (try simp only [Act.put, List.setIfInBounds_toArray, List.set_cons_zero, List.set_cons_succ])
  refine till_three (i := 2) (j := 6) (m := 9) rfl rfl rfl (by kernel_rfl) (fun K hK => ?_) (fun K hK => ?_) (fun K hK => ?_)
  · skip
    go_simp
    replace HM := (show Hid (M7 _ _ _ _ _ _ _ _ _) from HM.out.mk2)
    refine hK.out _ _ (fun _ => HM.out.S HPB.out) ?_
    (try simp only [Act.put, List.setIfInBounds_toArray, List.set_cons_zero, List.set_cons_succ])
    clear hK
    generalize W0.alloc (.cells #[] 30) = W1 at HM ⊢
    generalize W0.heap.size = g2 at HM ⊢
    refine till_three (i := 5) (j := 6) (m := 9) rfl rfl rfl (by kernel_rfl) (fun K hK => ?_) (fun K hK => ?_) (fun K hK => ?_)
    · skip
      refine step_append_lies _ (by rfl) _ _ 24 (by rfl) V.heap.size 30 i3 (.slice none 0 0) 1 24 Try.underlying24 hi3 hz0 hz1 hz2 rfl (by omega) _ 0 [] (by rfl) (HM.out.p2 _ rfl) _ m cb N (by rfl) (by rw [HN.out, Nat.mul_one]) (HM.out.src hb HSR.out) H1.out hm0 (by unfold maxLen; omega) (by omega) HM.out.bel.size _ rfl ?_
      intro g5 c5 W2 hown hgrow hat hlt
      replace HM := (show Hid (M7 _ _ _ _ _ _ _ _ _) from HM.out.app5 hown hgrow hat)
      clear hown hgrow hat hlt
      rw [Nat.zero_add]
      refine hK.out _ _ (fun _ => HM.out.S HPB.out) ?_
      (try simp only [Act.put, List.setIfInBounds_toArray, List.set_cons_zero, List.set_cons_succ])
      clear hK
      refine till_two (i := 6) (j := 9) rfl rfl (by kernel_rfl) (fun K hK => ?_) (fun K hK => ?_)
      · skip
        go_simp
        replace HM := (show Hid (M7 _ _ _ _ _ _ _ _ _) from HM.out.mk6)
        refine hK.out _ _ (fun _ => HM.out.S HPB.out) ?_
        (try simp only [Act.put, List.setIfInBounds_toArray, List.set_cons_zero, List.set_cons_succ])
        clear hK
        generalize W2.alloc (.cells #[.slice none 0 0] 30) = W3 at HM ⊢
        generalize W2.heap.size = g6 at HM ⊢
        refine till_two (i := 7) (j := 9) rfl rfl (by kernel_rfl) (fun K hK => ?_) (fun K hK => ?_)
        · skip
          refine step_append_lies _ (by rfl) _ _ 24 (by rfl) V.heap.size 30 i3 (.slice none 0 0) 1 24 Try.underlying24 hi3 hz0 hz1 hz2 rfl (by omega) _ m N (by rfl) (HM.out.p5 _ rfl) _ 1 1 [.slice none 0 0] (by rfl) rfl HM.out.src6 (by intro u hu; simp at hu; subst hu; rfl) (by omega) (by unfold maxLen; omega) (by omega) HM.out.bel.size _ rfl ?_
          intro g7 c7 W4 hown hgrow hat hlt
          replace HM := (show Hid (M7 _ _ _ _ _ _ _ _ _) from HM.out.app7 hown hgrow)
          clear hown hgrow hat hlt
          refine hK.out _ _ (fun _ => HM.out.S HPB.out) ?_
          (try simp only [Act.put, List.setIfInBounds_toArray, List.set_cons_zero, List.set_cons_succ])
          clear hK
          refine till_take (i := 8) (v := (.agg #[.slice ac nc cc, .slice (some ⟨g7, 0, none⟩) (m + 1) c7])) rfl (by kernel_rfl) (fun _ _ _ h => h) (by rfl) ?_ (HM.out.S HPB.out) ?_
          · (intro w hSw; obtain ⟨s1, s2⟩ := hSw; go_simp)
          (try simp only [Act.put, List.setIfInBounds_toArray, List.set_cons_zero, List.set_cons_succ])
          refine till_step (i := 9) rfl (by kernel_rfl) (fun K hK => ?_)
          go_simp
          replace HM := (show Hid (M7 _ _ _ _ _ _ _ _ _) from HM.out.mk9)
          refine hK.out _ _ (fun _ => HM.out.S HPB.out) ?_
          (try simp only [Act.put, List.setIfInBounds_toArray, List.set_cons_zero, List.set_cons_succ])
          clear hK
          generalize W4.alloc (.cells #[.slice none 0 0, .slice none 0 0] 26) = W5 at HM ⊢
          generalize W4.heap.size = g9 at HM ⊢
          obtain ⟨hbx, hgx⟩ := HM.out.box
          obtain ⟨y0, y1, y2, y3⟩ := hbx.cells
          have y4 := hbx.lt
          obtain ⟨z0, z1, z2⟩ := HM.out.fin (cv := .slice ac nc cc) (bv := .slice (some ⟨g7, 0, none⟩) (m + 1) c7)
          have HZ := (show Hid (PBox _ _ _ _ ∧ _ ∧ _) from ⟨z0, z1, z2⟩)
          clear z0 z1 z2 hbx
          refine till_step (i := 10) rfl (by kernel_rfl) (fun K hK => ?_)
          go_simp
          refine hK.out _ _ (fun h => absurd rfl h) ?_
          clear hK
          refine till_done (by kernel_rfl) ?_ _
          exact hQ.out _ _ _ _ _ _ _ _ _ _ _ _ _ hgx HZ.out.1 HZ.out.2.1 HZ.out.2.2
        · skip
          go_simp
          replace HM := (show Hid (M7 _ _ _ _ _ _ _ _ _) from HM.out.mk9)
          refine hK.out _ _ (fun _ => HM.out.S HPB.out) ?_
          (try simp only [Act.put, List.setIfInBounds_toArray, List.set_cons_zero, List.set_cons_succ])
          clear hK
          generalize W3.alloc (.cells #[.slice none 0 0, .slice none 0 0] 26) = W4 at HM ⊢
          generalize W3.heap.size = g9 at HM ⊢
          refine till_step (i := 7) rfl (by kernel_rfl) (fun K hK => ?_)
          refine step_append_lies _ (by rfl) _ _ 24 (by rfl) V.heap.size 30 i3 (.slice none 0 0) 1 24 Try.underlying24 hi3 hz0 hz1 hz2 rfl (by omega) _ m N (by rfl) (HM.out.p5 _ rfl) _ 1 1 [.slice none 0 0] (by rfl) rfl HM.out.src6 (by intro u hu; simp at hu; subst hu; rfl) (by omega) (by unfold maxLen; omega) (by omega) HM.out.bel.size _ rfl ?_
          intro g7 c7 W5 hown hgrow hat hlt
          replace HM := (show Hid (M7 _ _ _ _ _ _ _ _ _) from HM.out.app7 hown hgrow)
          clear hown hgrow hat hlt
          refine hK.out _ _ (fun _ => HM.out.S HPB.out) ?_
          (try simp only [Act.put, List.setIfInBounds_toArray, List.set_cons_zero, List.set_cons_succ])
          clear hK
          refine till_take (i := 8) (v := (.agg #[.slice ac nc cc, .slice (some ⟨g7, 0, none⟩) (m + 1) c7])) rfl (by kernel_rfl) (fun _ _ _ h => h) (by rfl) ?_ (HM.out.S HPB.out) ?_
          · (intro w hSw; obtain ⟨s1, s2⟩ := hSw; go_simp)
          (try simp only [Act.put, List.setIfInBounds_toArray, List.set_cons_zero, List.set_cons_succ])
          obtain ⟨hbx, hgx⟩ := HM.out.box
          obtain ⟨y0, y1, y2, y3⟩ := hbx.cells
          have y4 := hbx.lt
          obtain ⟨z0, z1, z2⟩ := HM.out.fin (cv := .slice ac nc cc) (bv := .slice (some ⟨g7, 0, none⟩) (m + 1) c7)
          have HZ := (show Hid (PBox _ _ _ _ ∧ _ ∧ _) from ⟨z0, z1, z2⟩)
          clear z0 z1 z2 hbx
          refine till_step (i := 10) rfl (by kernel_rfl) (fun K hK => ?_)
          go_simp
          refine hK.out _ _ (fun h => absurd rfl h) ?_
          clear hK
          refine till_done (by kernel_rfl) ?_ _
          exact hQ.out _ _ _ _ _ _ _ _ _ _ _ _ _ hgx HZ.out.1 HZ.out.2.1 HZ.out.2.2
      · skip
        go_simp
        replace HM := (show Hid (M7 _ _ _ _ _ _ _ _ _) from HM.out.mk9)
        refine hK.out _ _ (fun _ => HM.out.S HPB.out) ?_
        (try simp only [Act.put, List.setIfInBounds_toArray, List.set_cons_zero, List.set_cons_succ])
        clear hK
        generalize W2.alloc (.cells #[.slice none 0 0, .slice none 0 0] 26) = W3 at HM ⊢
        generalize W2.heap.size = g9 at HM ⊢
        refine till_step (i := 6) rfl (by kernel_rfl) (fun K hK => ?_)
        go_simp
        replace HM := (show Hid (M7 _ _ _ _ _ _ _ _ _) from HM.out.mk6)
        refine hK.out _ _ (fun _ => HM.out.S HPB.out) ?_
        (try simp only [Act.put, List.setIfInBounds_toArray, List.set_cons_zero, List.set_cons_succ])
        clear hK
        generalize W3.alloc (.cells #[.slice none 0 0] 30) = W4 at HM ⊢
        generalize W3.heap.size = g6 at HM ⊢
        refine till_step (i := 7) rfl (by kernel_rfl) (fun K hK => ?_)
        refine step_append_lies _ (by rfl) _ _ 24 (by rfl) V.heap.size 30 i3 (.slice none 0 0) 1 24 Try.underlying24 hi3 hz0 hz1 hz2 rfl (by omega) _ m N (by rfl) (HM.out.p5 _ rfl) _ 1 1 [.slice none 0 0] (by rfl) rfl HM.out.src6 (by intro u hu; simp at hu; subst hu; rfl) (by omega) (by unfold maxLen; omega) (by omega) HM.out.bel.size _ rfl ?_
        intro g7 c7 W5 hown hgrow hat hlt
        replace HM := (show Hid (M7 _ _ _ _ _ _ _ _ _) from HM.out.app7 hown hgrow)
        clear hown hgrow hat hlt
        refine hK.out _ _ (fun _ => HM.out.S HPB.out) ?_
        (try simp only [Act.put, List.setIfInBounds_toArray, List.set_cons_zero, List.set_cons_succ])
        clear hK
        refine till_take (i := 8) (v := (.agg #[.slice ac nc cc, .slice (some ⟨g7, 0, none⟩) (m + 1) c7])) rfl (by kernel_rfl) (fun _ _ _ h => h) (by rfl) ?_ (HM.out.S HPB.out) ?_
        · (intro w hSw; obtain ⟨s1, s2⟩ := hSw; go_simp)
        (try simp only [Act.put, List.setIfInBounds_toArray, List.set_cons_zero, List.set_cons_succ])
        obtain ⟨hbx, hgx⟩ := HM.out.box
        obtain ⟨y0, y1, y2, y3⟩ := hbx.cells
        have y4 := hbx.lt
        obtain ⟨z0, z1, z2⟩ := HM.out.fin (cv := .slice ac nc cc) (bv := .slice (some ⟨g7, 0, none⟩) (m + 1) c7)
        have HZ := (show Hid (PBox _ _ _ _ ∧ _ ∧ _) from ⟨z0, z1, z2⟩)
        clear z0 z1 z2 hbx
        refine till_step (i := 10) rfl (by kernel_rfl) (fun K hK => ?_)
        go_simp
        refine hK.out _ _ (fun h => absurd rfl h) ?_
        clear hK
        refine till_done (by kernel_rfl) ?_ _
        exact hQ.out _ _ _ _ _ _ _ _ _ _ _ _ _ hgx HZ.out.1 HZ.out.2.1 HZ.out.2.2
    · skip
      go_simp
      replace HM := (show Hid (M7 _ _ _ _ _ _ _ _ _) from HM.out.mk6)
      refine hK.out _ _ (fun _ => HM.out.S HPB.out) ?_
      (try simp only [Act.put, List.setIfInBounds_toArray, List.set_cons_zero, List.set_cons_succ])
      clear hK
      generalize W1.alloc (.cells #[.slice none 0 0] 30) = W2 at HM ⊢
      generalize W1.heap.size = g6 at HM ⊢
      refine till_two (i := 5) (j := 9) rfl rfl (by kernel_rfl) (fun K hK => ?_) (fun K hK => ?_)
      · skip
        refine step_append_lies _ (by rfl) _ _ 24 (by rfl) V.heap.size 30 i3 (.slice none 0 0) 1 24 Try.underlying24 hi3 hz0 hz1 hz2 rfl (by omega) _ 0 [] (by rfl) (HM.out.p2 _ rfl) _ m cb N (by rfl) (by rw [HN.out, Nat.mul_one]) (HM.out.src hb HSR.out) H1.out hm0 (by unfold maxLen; omega) (by omega) HM.out.bel.size _ rfl ?_
        intro g5 c5 W3 hown hgrow hat hlt
        replace HM := (show Hid (M7 _ _ _ _ _ _ _ _ _) from HM.out.app5 hown hgrow hat)
        clear hown hgrow hat hlt
        rw [Nat.zero_add]
        refine hK.out _ _ (fun _ => HM.out.S HPB.out) ?_
        (try simp only [Act.put, List.setIfInBounds_toArray, List.set_cons_zero, List.set_cons_succ])
        clear hK
        refine till_two (i := 7) (j := 9) rfl rfl (by kernel_rfl) (fun K hK => ?_) (fun K hK => ?_)
        · skip
          refine step_append_lies _ (by rfl) _ _ 24 (by rfl) V.heap.size 30 i3 (.slice none 0 0) 1 24 Try.underlying24 hi3 hz0 hz1 hz2 rfl (by omega) _ m N (by rfl) (HM.out.p5 _ rfl) _ 1 1 [.slice none 0 0] (by rfl) rfl HM.out.src6 (by intro u hu; simp at hu; subst hu; rfl) (by omega) (by unfold maxLen; omega) (by omega) HM.out.bel.size _ rfl ?_
          intro g7 c7 W4 hown hgrow hat hlt
          replace HM := (show Hid (M7 _ _ _ _ _ _ _ _ _) from HM.out.app7 hown hgrow)
          clear hown hgrow hat hlt
          refine hK.out _ _ (fun _ => HM.out.S HPB.out) ?_
          (try simp only [Act.put, List.setIfInBounds_toArray, List.set_cons_zero, List.set_cons_succ])
          clear hK
          refine till_take (i := 8) (v := (.agg #[.slice ac nc cc, .slice (some ⟨g7, 0, none⟩) (m + 1) c7])) rfl (by kernel_rfl) (fun _ _ _ h => h) (by rfl) ?_ (HM.out.S HPB.out) ?_
          · (intro w hSw; obtain ⟨s1, s2⟩ := hSw; go_simp)
          (try simp only [Act.put, List.setIfInBounds_toArray, List.set_cons_zero, List.set_cons_succ])
          refine till_step (i := 9) rfl (by kernel_rfl) (fun K hK => ?_)
          go_simp
          replace HM := (show Hid (M7 _ _ _ _ _ _ _ _ _) from HM.out.mk9)
          refine hK.out _ _ (fun _ => HM.out.S HPB.out) ?_
          (try simp only [Act.put, List.setIfInBounds_toArray, List.set_cons_zero, List.set_cons_succ])
          clear hK
          generalize W4.alloc (.cells #[.slice none 0 0, .slice none 0 0] 26) = W5 at HM ⊢
          generalize W4.heap.size = g9 at HM ⊢
          obtain ⟨hbx, hgx⟩ := HM.out.box
          obtain ⟨y0, y1, y2, y3⟩ := hbx.cells
          have y4 := hbx.lt
          obtain ⟨z0, z1, z2⟩ := HM.out.fin (cv := .slice ac nc cc) (bv := .slice (some ⟨g7, 0, none⟩) (m + 1) c7)
          have HZ := (show Hid (PBox _ _ _ _ ∧ _ ∧ _) from ⟨z0, z1, z2⟩)
          clear z0 z1 z2 hbx
          refine till_step (i := 10) rfl (by kernel_rfl) (fun K hK => ?_)
          go_simp
          refine hK.out _ _ (fun h => absurd rfl h) ?_
          clear hK
          refine till_done (by kernel_rfl) ?_ _
          exact hQ.out _ _ _ _ _ _ _ _ _ _ _ _ _ hgx HZ.out.1 HZ.out.2.1 HZ.out.2.2
        · skip
          go_simp
          replace HM := (show Hid (M7 _ _ _ _ _ _ _ _ _) from HM.out.mk9)
          refine hK.out _ _ (fun _ => HM.out.S HPB.out) ?_
          (try simp only [Act.put, List.setIfInBounds_toArray, List.set_cons_zero, List.set_cons_succ])
          clear hK
          generalize W3.alloc (.cells #[.slice none 0 0, .slice none 0 0] 26) = W4 at HM ⊢
          generalize W3.heap.size = g9 at HM ⊢
          refine till_step (i := 7) rfl (by kernel_rfl) (fun K hK => ?_)
          refine step_append_lies _ (by rfl) _ _ 24 (by rfl) V.heap.size 30 i3 (.slice none 0 0) 1 24 Try.underlying24 hi3 hz0 hz1 hz2 rfl (by omega) _ m N (by rfl) (HM.out.p5 _ rfl) _ 1 1 [.slice none 0 0] (by rfl) rfl HM.out.src6 (by intro u hu; simp at hu; subst hu; rfl) (by omega) (by unfold maxLen; omega) (by omega) HM.out.bel.size _ rfl ?_
          intro g7 c7 W5 hown hgrow hat hlt
          replace HM := (show Hid (M7 _ _ _ _ _ _ _ _ _) from HM.out.app7 hown hgrow)
          clear hown hgrow hat hlt
          refine hK.out _ _ (fun _ => HM.out.S HPB.out) ?_
          (try simp only [Act.put, List.setIfInBounds_toArray, List.set_cons_zero, List.set_cons_succ])
          clear hK
          refine till_take (i := 8) (v := (.agg #[.slice ac nc cc, .slice (some ⟨g7, 0, none⟩) (m + 1) c7])) rfl (by kernel_rfl) (fun _ _ _ h => h) (by rfl) ?_ (HM.out.S HPB.out) ?_
          · (intro w hSw; obtain ⟨s1, s2⟩ := hSw; go_simp)
          (try simp only [Act.put, List.setIfInBounds_toArray, List.set_cons_zero, List.set_cons_succ])
          obtain ⟨hbx, hgx⟩ := HM.out.box
          obtain ⟨y0, y1, y2, y3⟩ := hbx.cells
          have y4 := hbx.lt
          obtain ⟨z0, z1, z2⟩ := HM.out.fin (cv := .slice ac nc cc) (bv := .slice (some ⟨g7, 0, none⟩) (m + 1) c7)
          have HZ := (show Hid (PBox _ _ _ _ ∧ _ ∧ _) from ⟨z0, z1, z2⟩)
          clear z0 z1 z2 hbx
          refine till_step (i := 10) rfl (by kernel_rfl) (fun K hK => ?_)
          go_simp
          refine hK.out _ _ (fun h => absurd rfl h) ?_
          clear hK
          refine till_done (by kernel_rfl) ?_ _
          exact hQ.out _ _ _ _ _ _ _ _ _ _ _ _ _ hgx HZ.out.1 HZ.out.2.1 HZ.out.2.2
      · skip
        go_simp
        replace HM := (show Hid (M7 _ _ _ _ _ _ _ _ _) from HM.out.mk9)
        refine hK.out _ _ (fun _ => HM.out.S HPB.out) ?_
        (try simp only [Act.put, List.setIfInBounds_toArray, List.set_cons_zero, List.set_cons_succ])
        clear hK
        generalize W2.alloc (.cells #[.slice none 0 0, .slice none 0 0] 26) = W3 at HM ⊢
        generalize W2.heap.size = g9 at HM ⊢
        refine till_step (i := 5) rfl (by kernel_rfl) (fun K hK => ?_)
        refine step_append_lies _ (by rfl) _ _ 24 (by rfl) V.heap.size 30 i3 (.slice none 0 0) 1 24 Try.underlying24 hi3 hz0 hz1 hz2 rfl (by omega) _ 0 [] (by rfl) (HM.out.p2 _ rfl) _ m cb N (by rfl) (by rw [HN.out, Nat.mul_one]) (HM.out.src hb HSR.out) H1.out hm0 (by unfold maxLen; omega) (by omega) HM.out.bel.size _ rfl ?_
        intro g5 c5 W4 hown hgrow hat hlt
        replace HM := (show Hid (M7 _ _ _ _ _ _ _ _ _) from HM.out.app5 hown hgrow hat)
        clear hown hgrow hat hlt
        rw [Nat.zero_add]
        refine hK.out _ _ (fun _ => HM.out.S HPB.out) ?_
        (try simp only [Act.put, List.setIfInBounds_toArray, List.set_cons_zero, List.set_cons_succ])
        clear hK
        refine till_step (i := 7) rfl (by kernel_rfl) (fun K hK => ?_)
        refine step_append_lies _ (by rfl) _ _ 24 (by rfl) V.heap.size 30 i3 (.slice none 0 0) 1 24 Try.underlying24 hi3 hz0 hz1 hz2 rfl (by omega) _ m N (by rfl) (HM.out.p5 _ rfl) _ 1 1 [.slice none 0 0] (by rfl) rfl HM.out.src6 (by intro u hu; simp at hu; subst hu; rfl) (by omega) (by unfold maxLen; omega) (by omega) HM.out.bel.size _ rfl ?_
        intro g7 c7 W5 hown hgrow hat hlt
        replace HM := (show Hid (M7 _ _ _ _ _ _ _ _ _) from HM.out.app7 hown hgrow)
        clear hown hgrow hat hlt
        refine hK.out _ _ (fun _ => HM.out.S HPB.out) ?_
        (try simp only [Act.put, List.setIfInBounds_toArray, List.set_cons_zero, List.set_cons_succ])
        clear hK
        refine till_take (i := 8) (v := (.agg #[.slice ac nc cc, .slice (some ⟨g7, 0, none⟩) (m + 1) c7])) rfl (by kernel_rfl) (fun _ _ _ h => h) (by rfl) ?_ (HM.out.S HPB.out) ?_
        · (intro w hSw; obtain ⟨s1, s2⟩ := hSw; go_simp)
        (try simp only [Act.put, List.setIfInBounds_toArray, List.set_cons_zero, List.set_cons_succ])
        obtain ⟨hbx, hgx⟩ := HM.out.box
        obtain ⟨y0, y1, y2, y3⟩ := hbx.cells
        have y4 := hbx.lt
        obtain ⟨z0, z1, z2⟩ := HM.out.fin (cv := .slice ac nc cc) (bv := .slice (some ⟨g7, 0, none⟩) (m + 1) c7)
        have HZ := (show Hid (PBox _ _ _ _ ∧ _ ∧ _) from ⟨z0, z1, z2⟩)
        clear z0 z1 z2 hbx
        refine till_step (i := 10) rfl (by kernel_rfl) (fun K hK => ?_)
        go_simp
        refine hK.out _ _ (fun h => absurd rfl h) ?_
        clear hK
        refine till_done (by kernel_rfl) ?_ _
        exact hQ.out _ _ _ _ _ _ _ _ _ _ _ _ _ hgx HZ.out.1 HZ.out.2.1 HZ.out.2.2
    · skip
      go_simp
      replace HM := (show Hid (M7 _ _ _ _ _ _ _ _ _) from HM.out.mk9)
      refine hK.out _ _ (fun _ => HM.out.S HPB.out) ?_
      (try simp only [Act.put, List.setIfInBounds_toArray, List.set_cons_zero, List.set_cons_succ])
      clear hK
      generalize W1.alloc (.cells #[.slice none 0 0, .slice none 0 0] 26) = W2 at HM ⊢
      generalize W1.heap.size = g9 at HM ⊢
      refine till_two (i := 5) (j := 6) rfl rfl (by kernel_rfl) (fun K hK => ?_) (fun K hK => ?_)
      · skip
        refine step_append_lies _ (by rfl) _ _ 24 (by rfl) V.heap.size 30 i3 (.slice none 0 0) 1 24 Try.underlying24 hi3 hz0 hz1 hz2 rfl (by omega) _ 0 [] (by rfl) (HM.out.p2 _ rfl) _ m cb N (by rfl) (by rw [HN.out, Nat.mul_one]) (HM.out.src hb HSR.out) H1.out hm0 (by unfold maxLen; omega) (by omega) HM.out.bel.size _ rfl ?_
        intro g5 c5 W3 hown hgrow hat hlt
        replace HM := (show Hid (M7 _ _ _ _ _ _ _ _ _) from HM.out.app5 hown hgrow hat)
        clear hown hgrow hat hlt
        rw [Nat.zero_add]
        refine hK.out _ _ (fun _ => HM.out.S HPB.out) ?_
        (try simp only [Act.put, List.setIfInBounds_toArray, List.set_cons_zero, List.set_cons_succ])
        clear hK
        refine till_step (i := 6) rfl (by kernel_rfl) (fun K hK => ?_)
        go_simp
        replace HM := (show Hid (M7 _ _ _ _ _ _ _ _ _) from HM.out.mk6)
        refine hK.out _ _ (fun _ => HM.out.S HPB.out) ?_
        (try simp only [Act.put, List.setIfInBounds_toArray, List.set_cons_zero, List.set_cons_succ])
        clear hK
        generalize W3.alloc (.cells #[.slice none 0 0] 30) = W4 at HM ⊢
        generalize W3.heap.size = g6 at HM ⊢
        refine till_step (i := 7) rfl (by kernel_rfl) (fun K hK => ?_)
        refine step_append_lies _ (by rfl) _ _ 24 (by rfl) V.heap.size 30 i3 (.slice none 0 0) 1 24 Try.underlying24 hi3 hz0 hz1 hz2 rfl (by omega) _ m N (by rfl) (HM.out.p5 _ rfl) _ 1 1 [.slice none 0 0] (by rfl) rfl HM.out.src6 (by intro u hu; simp at hu; subst hu; rfl) (by omega) (by unfold maxLen; omega) (by omega) HM.out.bel.size _ rfl ?_
        intro g7 c7 W5 hown hgrow hat hlt
        replace HM := (show Hid (M7 _ _ _ _ _ _ _ _ _) from HM.out.app7 hown hgrow)
        clear hown hgrow hat hlt
        refine hK.out _ _ (fun _ => HM.out.S HPB.out) ?_
        (try simp only [Act.put, List.setIfInBounds_toArray, List.set_cons_zero, List.set_cons_succ])
        clear hK
        refine till_take (i := 8) (v := (.agg #[.slice ac nc cc, .slice (some ⟨g7, 0, none⟩) (m + 1) c7])) rfl (by kernel_rfl) (fun _ _ _ h => h) (by rfl) ?_ (HM.out.S HPB.out) ?_
        · (intro w hSw; obtain ⟨s1, s2⟩ := hSw; go_simp)
        (try simp only [Act.put, List.setIfInBounds_toArray, List.set_cons_zero, List.set_cons_succ])
        obtain ⟨hbx, hgx⟩ := HM.out.box
        obtain ⟨y0, y1, y2, y3⟩ := hbx.cells
        have y4 := hbx.lt
        obtain ⟨z0, z1, z2⟩ := HM.out.fin (cv := .slice ac nc cc) (bv := .slice (some ⟨g7, 0, none⟩) (m + 1) c7)
        have HZ := (show Hid (PBox _ _ _ _ ∧ _ ∧ _) from ⟨z0, z1, z2⟩)
        clear z0 z1 z2 hbx
        refine till_step (i := 10) rfl (by kernel_rfl) (fun K hK => ?_)
        go_simp
        refine hK.out _ _ (fun h => absurd rfl h) ?_
        clear hK
        refine till_done (by kernel_rfl) ?_ _
        exact hQ.out _ _ _ _ _ _ _ _ _ _ _ _ _ hgx HZ.out.1 HZ.out.2.1 HZ.out.2.2
      · skip
        go_simp
        replace HM := (show Hid (M7 _ _ _ _ _ _ _ _ _) from HM.out.mk6)
        refine hK.out _ _ (fun _ => HM.out.S HPB.out) ?_
        (try simp only [Act.put, List.setIfInBounds_toArray, List.set_cons_zero, List.set_cons_succ])
        clear hK
        generalize W2.alloc (.cells #[.slice none 0 0] 30) = W3 at HM ⊢
        generalize W2.heap.size = g6 at HM ⊢
        refine till_step (i := 5) rfl (by kernel_rfl) (fun K hK => ?_)
        refine step_append_lies _ (by rfl) _ _ 24 (by rfl) V.heap.size 30 i3 (.slice none 0 0) 1 24 Try.underlying24 hi3 hz0 hz1 hz2 rfl (by omega) _ 0 [] (by rfl) (HM.out.p2 _ rfl) _ m cb N (by rfl) (by rw [HN.out, Nat.mul_one]) (HM.out.src hb HSR.out) H1.out hm0 (by unfold maxLen; omega) (by omega) HM.out.bel.size _ rfl ?_
        intro g5 c5 W4 hown hgrow hat hlt
        replace HM := (show Hid (M7 _ _ _ _ _ _ _ _ _) from HM.out.app5 hown hgrow hat)
        clear hown hgrow hat hlt
        rw [Nat.zero_add]
        refine hK.out _ _ (fun _ => HM.out.S HPB.out) ?_
        (try simp only [Act.put, List.setIfInBounds_toArray, List.set_cons_zero, List.set_cons_succ])
        clear hK
        refine till_step (i := 7) rfl (by kernel_rfl) (fun K hK => ?_)
        refine step_append_lies _ (by rfl) _ _ 24 (by rfl) V.heap.size 30 i3 (.slice none 0 0) 1 24 Try.underlying24 hi3 hz0 hz1 hz2 rfl (by omega) _ m N (by rfl) (HM.out.p5 _ rfl) _ 1 1 [.slice none 0 0] (by rfl) rfl HM.out.src6 (by intro u hu; simp at hu; subst hu; rfl) (by omega) (by unfold maxLen; omega) (by omega) HM.out.bel.size _ rfl ?_
        intro g7 c7 W5 hown hgrow hat hlt
        replace HM := (show Hid (M7 _ _ _ _ _ _ _ _ _) from HM.out.app7 hown hgrow)
        clear hown hgrow hat hlt
        refine hK.out _ _ (fun _ => HM.out.S HPB.out) ?_
        (try simp only [Act.put, List.setIfInBounds_toArray, List.set_cons_zero, List.set_cons_succ])
        clear hK
        refine till_take (i := 8) (v := (.agg #[.slice ac nc cc, .slice (some ⟨g7, 0, none⟩) (m + 1) c7])) rfl (by kernel_rfl) (fun _ _ _ h => h) (by rfl) ?_ (HM.out.S HPB.out) ?_
        · (intro w hSw; obtain ⟨s1, s2⟩ := hSw; go_simp)
        (try simp only [Act.put, List.setIfInBounds_toArray, List.set_cons_zero, List.set_cons_succ])
        obtain ⟨hbx, hgx⟩ := HM.out.box
        obtain ⟨y0, y1, y2, y3⟩ := hbx.cells
        have y4 := hbx.lt
        obtain ⟨z0, z1, z2⟩ := HM.out.fin (cv := .slice ac nc cc) (bv := .slice (some ⟨g7, 0, none⟩) (m + 1) c7)
        have HZ := (show Hid (PBox _ _ _ _ ∧ _ ∧ _) from ⟨z0, z1, z2⟩)
        clear z0 z1 z2 hbx
        refine till_step (i := 10) rfl (by kernel_rfl) (fun K hK => ?_)
        go_simp
        refine hK.out _ _ (fun h => absurd rfl h) ?_
        clear hK
        refine till_done (by kernel_rfl) ?_ _
        exact hQ.out _ _ _ _ _ _ _ _ _ _ _ _ _ hgx HZ.out.1 HZ.out.2.1 HZ.out.2.2
  · skip
    go_simp
    replace HM := (show Hid (M7 _ _ _ _ _ _ _ _ _) from HM.out.mk6)
    refine hK.out _ _ (fun _ => HM.out.S HPB.out) ?_
    (try simp only [Act.put, List.setIfInBounds_toArray, List.set_cons_zero, List.set_cons_succ])
    clear hK
    generalize W0.alloc (.cells #[.slice none 0 0] 30) = W1 at HM ⊢
    generalize W0.heap.size = g6 at HM ⊢
    refine till_two (i := 2) (j := 9) rfl rfl (by kernel_rfl) (fun K hK => ?_) (fun K hK => ?_)
    · skip
      go_simp
      replace HM := (show Hid (M7 _ _ _ _ _ _ _ _ _) from HM.out.mk2)
      refine hK.out _ _ (fun _ => HM.out.S HPB.out) ?_
      (try simp only [Act.put, List.setIfInBounds_toArray, List.set_cons_zero, List.set_cons_succ])
      clear hK
      generalize W1.alloc (.cells #[] 30) = W2 at HM ⊢
      generalize W1.heap.size = g2 at HM ⊢
      refine till_two (i := 5) (j := 9) rfl rfl (by kernel_rfl) (fun K hK => ?_) (fun K hK => ?_)
      · skip
        refine step_append_lies _ (by rfl) _ _ 24 (by rfl) V.heap.size 30 i3 (.slice none 0 0) 1 24 Try.underlying24 hi3 hz0 hz1 hz2 rfl (by omega) _ 0 [] (by rfl) (HM.out.p2 _ rfl) _ m cb N (by rfl) (by rw [HN.out, Nat.mul_one]) (HM.out.src hb HSR.out) H1.out hm0 (by unfold maxLen; omega) (by omega) HM.out.bel.size _ rfl ?_
        intro g5 c5 W3 hown hgrow hat hlt
        replace HM := (show Hid (M7 _ _ _ _ _ _ _ _ _) from HM.out.app5 hown hgrow hat)
        clear hown hgrow hat hlt
        rw [Nat.zero_add]
        refine hK.out _ _ (fun _ => HM.out.S HPB.out) ?_
        (try simp only [Act.put, List.setIfInBounds_toArray, List.set_cons_zero, List.set_cons_succ])
        clear hK
        refine till_two (i := 7) (j := 9) rfl rfl (by kernel_rfl) (fun K hK => ?_) (fun K hK => ?_)
        · skip
          refine step_append_lies _ (by rfl) _ _ 24 (by rfl) V.heap.size 30 i3 (.slice none 0 0) 1 24 Try.underlying24 hi3 hz0 hz1 hz2 rfl (by omega) _ m N (by rfl) (HM.out.p5 _ rfl) _ 1 1 [.slice none 0 0] (by rfl) rfl HM.out.src6 (by intro u hu; simp at hu; subst hu; rfl) (by omega) (by unfold maxLen; omega) (by omega) HM.out.bel.size _ rfl ?_
          intro g7 c7 W4 hown hgrow hat hlt
          replace HM := (show Hid (M7 _ _ _ _ _ _ _ _ _) from HM.out.app7 hown hgrow)
          clear hown hgrow hat hlt
          refine hK.out _ _ (fun _ => HM.out.S HPB.out) ?_
          (try simp only [Act.put, List.setIfInBounds_toArray, List.set_cons_zero, List.set_cons_succ])
          clear hK
          refine till_take (i := 8) (v := (.agg #[.slice ac nc cc, .slice (some ⟨g7, 0, none⟩) (m + 1) c7])) rfl (by kernel_rfl) (fun _ _ _ h => h) (by rfl) ?_ (HM.out.S HPB.out) ?_
          · (intro w hSw; obtain ⟨s1, s2⟩ := hSw; go_simp)
          (try simp only [Act.put, List.setIfInBounds_toArray, List.set_cons_zero, List.set_cons_succ])
          refine till_step (i := 9) rfl (by kernel_rfl) (fun K hK => ?_)
          go_simp
          replace HM := (show Hid (M7 _ _ _ _ _ _ _ _ _) from HM.out.mk9)
          refine hK.out _ _ (fun _ => HM.out.S HPB.out) ?_
          (try simp only [Act.put, List.setIfInBounds_toArray, List.set_cons_zero, List.set_cons_succ])
          clear hK
          generalize W4.alloc (.cells #[.slice none 0 0, .slice none 0 0] 26) = W5 at HM ⊢
          generalize W4.heap.size = g9 at HM ⊢
          obtain ⟨hbx, hgx⟩ := HM.out.box
          obtain ⟨y0, y1, y2, y3⟩ := hbx.cells
          have y4 := hbx.lt
          obtain ⟨z0, z1, z2⟩ := HM.out.fin (cv := .slice ac nc cc) (bv := .slice (some ⟨g7, 0, none⟩) (m + 1) c7)
          have HZ := (show Hid (PBox _ _ _ _ ∧ _ ∧ _) from ⟨z0, z1, z2⟩)
          clear z0 z1 z2 hbx
          refine till_step (i := 10) rfl (by kernel_rfl) (fun K hK => ?_)
          go_simp
          refine hK.out _ _ (fun h => absurd rfl h) ?_
          clear hK
          refine till_done (by kernel_rfl) ?_ _
          exact hQ.out _ _ _ _ _ _ _ _ _ _ _ _ _ hgx HZ.out.1 HZ.out.2.1 HZ.out.2.2
        · skip
          go_simp
          replace HM := (show Hid (M7 _ _ _ _ _ _ _ _ _) from HM.out.mk9)
          refine hK.out _ _ (fun _ => HM.out.S HPB.out) ?_
          (try simp only [Act.put, List.setIfInBounds_toArray, List.set_cons_zero, List.set_cons_succ])
          clear hK
          generalize W3.alloc (.cells #[.slice none 0 0, .slice none 0 0] 26) = W4 at HM ⊢
          generalize W3.heap.size = g9 at HM ⊢
          refine till_step (i := 7) rfl (by kernel_rfl) (fun K hK => ?_)
          refine step_append_lies _ (by rfl) _ _ 24 (by rfl) V.heap.size 30 i3 (.slice none 0 0) 1 24 Try.underlying24 hi3 hz0 hz1 hz2 rfl (by omega) _ m N (by rfl) (HM.out.p5 _ rfl) _ 1 1 [.slice none 0 0] (by rfl) rfl HM.out.src6 (by intro u hu; simp at hu; subst hu; rfl) (by omega) (by unfold maxLen; omega) (by omega) HM.out.bel.size _ rfl ?_
          intro g7 c7 W5 hown hgrow hat hlt
          replace HM := (show Hid (M7 _ _ _ _ _ _ _ _ _) from HM.out.app7 hown hgrow)
          clear hown hgrow hat hlt
          refine hK.out _ _ (fun _ => HM.out.S HPB.out) ?_
          (try simp only [Act.put, List.setIfInBounds_toArray, List.set_cons_zero, List.set_cons_succ])
          clear hK
          refine till_take (i := 8) (v := (.agg #[.slice ac nc cc, .slice (some ⟨g7, 0, none⟩) (m + 1) c7])) rfl (by kernel_rfl) (fun _ _ _ h => h) (by rfl) ?_ (HM.out.S HPB.out) ?_
          · (intro w hSw; obtain ⟨s1, s2⟩ := hSw; go_simp)
          (try simp only [Act.put, List.setIfInBounds_toArray, List.set_cons_zero, List.set_cons_succ])
          obtain ⟨hbx, hgx⟩ := HM.out.box
          obtain ⟨y0, y1, y2, y3⟩ := hbx.cells
          have y4 := hbx.lt
          obtain ⟨z0, z1, z2⟩ := HM.out.fin (cv := .slice ac nc cc) (bv := .slice (some ⟨g7, 0, none⟩) (m + 1) c7)
          have HZ := (show Hid (PBox _ _ _ _ ∧ _ ∧ _) from ⟨z0, z1, z2⟩)
          clear z0 z1 z2 hbx
          refine till_step (i := 10) rfl (by kernel_rfl) (fun K hK => ?_)
          go_simp
          refine hK.out _ _ (fun h => absurd rfl h) ?_
          clear hK
          refine till_done (by kernel_rfl) ?_ _
          exact hQ.out _ _ _ _ _ _ _ _ _ _ _ _ _ hgx HZ.out.1 HZ.out.2.1 HZ.out.2.2
      · skip
        go_simp
        replace HM := (show Hid (M7 _ _ _ _ _ _ _ _ _) from HM.out.mk9)
        refine hK.out _ _ (fun _ => HM.out.S HPB.out) ?_
        (try simp only [Act.put, List.setIfInBounds_toArray, List.set_cons_zero, List.set_cons_succ])
        clear hK
        generalize W2.alloc (.cells #[.slice none 0 0, .slice none 0 0] 26) = W3 at HM ⊢
        generalize W2.heap.size = g9 at HM ⊢
        refine till_step (i := 5) rfl (by kernel_rfl) (fun K hK => ?_)
        refine step_append_lies _ (by rfl) _ _ 24 (by rfl) V.heap.size 30 i3 (.slice none 0 0) 1 24 Try.underlying24 hi3 hz0 hz1 hz2 rfl (by omega) _ 0 [] (by rfl) (HM.out.p2 _ rfl) _ m cb N (by rfl) (by rw [HN.out, Nat.mul_one]) (HM.out.src hb HSR.out) H1.out hm0 (by unfold maxLen; omega) (by omega) HM.out.bel.size _ rfl ?_
        intro g5 c5 W4 hown hgrow hat hlt
        replace HM := (show Hid (M7 _ _ _ _ _ _ _ _ _) from HM.out.app5 hown hgrow hat)
        clear hown hgrow hat hlt
        rw [Nat.zero_add]
        refine hK.out _ _ (fun _ => HM.out.S HPB.out) ?_
        (try simp only [Act.put, List.setIfInBounds_toArray, List.set_cons_zero, List.set_cons_succ])
        clear hK
        refine till_step (i := 7) rfl (by kernel_rfl) (fun K hK => ?_)
        refine step_append_lies _ (by rfl) _ _ 24 (by rfl) V.heap.size 30 i3 (.slice none 0 0) 1 24 Try.underlying24 hi3 hz0 hz1 hz2 rfl (by omega) _ m N (by rfl) (HM.out.p5 _ rfl) _ 1 1 [.slice none 0 0] (by rfl) rfl HM.out.src6 (by intro u hu; simp at hu; subst hu; rfl) (by omega) (by unfold maxLen; omega) (by omega) HM.out.bel.size _ rfl ?_
        intro g7 c7 W5 hown hgrow hat hlt
        replace HM := (show Hid (M7 _ _ _ _ _ _ _ _ _) from HM.out.app7 hown hgrow)
        clear hown hgrow hat hlt
        refine hK.out _ _ (fun _ => HM.out.S HPB.out) ?_
        (try simp only [Act.put, List.setIfInBounds_toArray, List.set_cons_zero, List.set_cons_succ])
        clear hK
        refine till_take (i := 8) (v := (.agg #[.slice ac nc cc, .slice (some ⟨g7, 0, none⟩) (m + 1) c7])) rfl (by kernel_rfl) (fun _ _ _ h => h) (by rfl) ?_ (HM.out.S HPB.out) ?_
        · (intro w hSw; obtain ⟨s1, s2⟩ := hSw; go_simp)
        (try simp only [Act.put, List.setIfInBounds_toArray, List.set_cons_zero, List.set_cons_succ])
        obtain ⟨hbx, hgx⟩ := HM.out.box
        obtain ⟨y0, y1, y2, y3⟩ := hbx.cells
        have y4 := hbx.lt
        obtain ⟨z0, z1, z2⟩ := HM.out.fin (cv := .slice ac nc cc) (bv := .slice (some ⟨g7, 0, none⟩) (m + 1) c7)
        have HZ := (show Hid (PBox _ _ _ _ ∧ _ ∧ _) from ⟨z0, z1, z2⟩)
        clear z0 z1 z2 hbx
        refine till_step (i := 10) rfl (by kernel_rfl) (fun K hK => ?_)
        go_simp
        refine hK.out _ _ (fun h => absurd rfl h) ?_
        clear hK
        refine till_done (by kernel_rfl) ?_ _
        exact hQ.out _ _ _ _ _ _ _ _ _ _ _ _ _ hgx HZ.out.1 HZ.out.2.1 HZ.out.2.2
    · skip
      go_simp
      replace HM := (show Hid (M7 _ _ _ _ _ _ _ _ _) from HM.out.mk9)
      refine hK.out _ _ (fun _ => HM.out.S HPB.out) ?_
      (try simp only [Act.put, List.setIfInBounds_toArray, List.set_cons_zero, List.set_cons_succ])
      clear hK
      generalize W1.alloc (.cells #[.slice none 0 0, .slice none 0 0] 26) = W2 at HM ⊢
      generalize W1.heap.size = g9 at HM ⊢
      refine till_step (i := 2) rfl (by kernel_rfl) (fun K hK => ?_)
      go_simp
      replace HM := (show Hid (M7 _ _ _ _ _ _ _ _ _) from HM.out.mk2)
      refine hK.out _ _ (fun _ => HM.out.S HPB.out) ?_
      (try simp only [Act.put, List.setIfInBounds_toArray, List.set_cons_zero, List.set_cons_succ])
      clear hK
      generalize W2.alloc (.cells #[] 30) = W3 at HM ⊢
      generalize W2.heap.size = g2 at HM ⊢
      refine till_step (i := 5) rfl (by kernel_rfl) (fun K hK => ?_)
      refine step_append_lies _ (by rfl) _ _ 24 (by rfl) V.heap.size 30 i3 (.slice none 0 0) 1 24 Try.underlying24 hi3 hz0 hz1 hz2 rfl (by omega) _ 0 [] (by rfl) (HM.out.p2 _ rfl) _ m cb N (by rfl) (by rw [HN.out, Nat.mul_one]) (HM.out.src hb HSR.out) H1.out hm0 (by unfold maxLen; omega) (by omega) HM.out.bel.size _ rfl ?_
      intro g5 c5 W4 hown hgrow hat hlt
      replace HM := (show Hid (M7 _ _ _ _ _ _ _ _ _) from HM.out.app5 hown hgrow hat)
      clear hown hgrow hat hlt
      rw [Nat.zero_add]
      refine hK.out _ _ (fun _ => HM.out.S HPB.out) ?_
      (try simp only [Act.put, List.setIfInBounds_toArray, List.set_cons_zero, List.set_cons_succ])
      clear hK
      refine till_step (i := 7) rfl (by kernel_rfl) (fun K hK => ?_)
      refine step_append_lies _ (by rfl) _ _ 24 (by rfl) V.heap.size 30 i3 (.slice none 0 0) 1 24 Try.underlying24 hi3 hz0 hz1 hz2 rfl (by omega) _ m N (by rfl) (HM.out.p5 _ rfl) _ 1 1 [.slice none 0 0] (by rfl) rfl HM.out.src6 (by intro u hu; simp at hu; subst hu; rfl) (by omega) (by unfold maxLen; omega) (by omega) HM.out.bel.size _ rfl ?_
      intro g7 c7 W5 hown hgrow hat hlt
      replace HM := (show Hid (M7 _ _ _ _ _ _ _ _ _) from HM.out.app7 hown hgrow)
      clear hown hgrow hat hlt
      refine hK.out _ _ (fun _ => HM.out.S HPB.out) ?_
      (try simp only [Act.put, List.setIfInBounds_toArray, List.set_cons_zero, List.set_cons_succ])
      clear hK
      refine till_take (i := 8) (v := (.agg #[.slice ac nc cc, .slice (some ⟨g7, 0, none⟩) (m + 1) c7])) rfl (by kernel_rfl) (fun _ _ _ h => h) (by rfl) ?_ (HM.out.S HPB.out) ?_
      · (intro w hSw; obtain ⟨s1, s2⟩ := hSw; go_simp)
      (try simp only [Act.put, List.setIfInBounds_toArray, List.set_cons_zero, List.set_cons_succ])
      obtain ⟨hbx, hgx⟩ := HM.out.box
      obtain ⟨y0, y1, y2, y3⟩ := hbx.cells
      have y4 := hbx.lt
      obtain ⟨z0, z1, z2⟩ := HM.out.fin (cv := .slice ac nc cc) (bv := .slice (some ⟨g7, 0, none⟩) (m + 1) c7)
      have HZ := (show Hid (PBox _ _ _ _ ∧ _ ∧ _) from ⟨z0, z1, z2⟩)
      clear z0 z1 z2 hbx
      refine till_step (i := 10) rfl (by kernel_rfl) (fun K hK => ?_)
      go_simp
      refine hK.out _ _ (fun h => absurd rfl h) ?_
      clear hK
      refine till_done (by kernel_rfl) ?_ _
      exact hQ.out _ _ _ _ _ _ _ _ _ _ _ _ _ hgx HZ.out.1 HZ.out.2.1 HZ.out.2.2
  · skip
    go_simp
    replace HM := (show Hid (M7 _ _ _ _ _ _ _ _ _) from HM.out.mk9)
    refine hK.out _ _ (fun _ => HM.out.S HPB.out) ?_
    (try simp only [Act.put, List.setIfInBounds_toArray, List.set_cons_zero, List.set_cons_succ])
    clear hK
    generalize W0.alloc (.cells #[.slice none 0 0, .slice none 0 0] 26) = W1 at HM ⊢
    generalize W0.heap.size = g9 at HM ⊢
    refine till_two (i := 2) (j := 6) rfl rfl (by kernel_rfl) (fun K hK => ?_) (fun K hK => ?_)
    · skip
      go_simp
      replace HM := (show Hid (M7 _ _ _ _ _ _ _ _ _) from HM.out.mk2)
      refine hK.out _ _ (fun _ => HM.out.S HPB.out) ?_
      (try simp only [Act.put, List.setIfInBounds_toArray, List.set_cons_zero, List.set_cons_succ])
      clear hK
      generalize W1.alloc (.cells #[] 30) = W2 at HM ⊢
      generalize W1.heap.size = g2 at HM ⊢
      refine till_two (i := 5) (j := 6) rfl rfl (by kernel_rfl) (fun K hK => ?_) (fun K hK => ?_)
      · skip
        refine step_append_lies _ (by rfl) _ _ 24 (by rfl) V.heap.size 30 i3 (.slice none 0 0) 1 24 Try.underlying24 hi3 hz0 hz1 hz2 rfl (by omega) _ 0 [] (by rfl) (HM.out.p2 _ rfl) _ m cb N (by rfl) (by rw [HN.out, Nat.mul_one]) (HM.out.src hb HSR.out) H1.out hm0 (by unfold maxLen; omega) (by omega) HM.out.bel.size _ rfl ?_
        intro g5 c5 W3 hown hgrow hat hlt
        replace HM := (show Hid (M7 _ _ _ _ _ _ _ _ _) from HM.out.app5 hown hgrow hat)
        clear hown hgrow hat hlt
        rw [Nat.zero_add]
        refine hK.out _ _ (fun _ => HM.out.S HPB.out) ?_
        (try simp only [Act.put, List.setIfInBounds_toArray, List.set_cons_zero, List.set_cons_succ])
        clear hK
        refine till_step (i := 6) rfl (by kernel_rfl) (fun K hK => ?_)
        go_simp
        replace HM := (show Hid (M7 _ _ _ _ _ _ _ _ _) from HM.out.mk6)
        refine hK.out _ _ (fun _ => HM.out.S HPB.out) ?_
        (try simp only [Act.put, List.setIfInBounds_toArray, List.set_cons_zero, List.set_cons_succ])
        clear hK
        generalize W3.alloc (.cells #[.slice none 0 0] 30) = W4 at HM ⊢
        generalize W3.heap.size = g6 at HM ⊢
        refine till_step (i := 7) rfl (by kernel_rfl) (fun K hK => ?_)
        refine step_append_lies _ (by rfl) _ _ 24 (by rfl) V.heap.size 30 i3 (.slice none 0 0) 1 24 Try.underlying24 hi3 hz0 hz1 hz2 rfl (by omega) _ m N (by rfl) (HM.out.p5 _ rfl) _ 1 1 [.slice none 0 0] (by rfl) rfl HM.out.src6 (by intro u hu; simp at hu; subst hu; rfl) (by omega) (by unfold maxLen; omega) (by omega) HM.out.bel.size _ rfl ?_
        intro g7 c7 W5 hown hgrow hat hlt
        replace HM := (show Hid (M7 _ _ _ _ _ _ _ _ _) from HM.out.app7 hown hgrow)
        clear hown hgrow hat hlt
        refine hK.out _ _ (fun _ => HM.out.S HPB.out) ?_
        (try simp only [Act.put, List.setIfInBounds_toArray, List.set_cons_zero, List.set_cons_succ])
        clear hK
        refine till_take (i := 8) (v := (.agg #[.slice ac nc cc, .slice (some ⟨g7, 0, none⟩) (m + 1) c7])) rfl (by kernel_rfl) (fun _ _ _ h => h) (by rfl) ?_ (HM.out.S HPB.out) ?_
        · (intro w hSw; obtain ⟨s1, s2⟩ := hSw; go_simp)
        (try simp only [Act.put, List.setIfInBounds_toArray, List.set_cons_zero, List.set_cons_succ])
        obtain ⟨hbx, hgx⟩ := HM.out.box
        obtain ⟨y0, y1, y2, y3⟩ := hbx.cells
        have y4 := hbx.lt
        obtain ⟨z0, z1, z2⟩ := HM.out.fin (cv := .slice ac nc cc) (bv := .slice (some ⟨g7, 0, none⟩) (m + 1) c7)
        have HZ := (show Hid (PBox _ _ _ _ ∧ _ ∧ _) from ⟨z0, z1, z2⟩)
        clear z0 z1 z2 hbx
        refine till_step (i := 10) rfl (by kernel_rfl) (fun K hK => ?_)
        go_simp
        refine hK.out _ _ (fun h => absurd rfl h) ?_
        clear hK
        refine till_done (by kernel_rfl) ?_ _
        exact hQ.out _ _ _ _ _ _ _ _ _ _ _ _ _ hgx HZ.out.1 HZ.out.2.1 HZ.out.2.2
      · skip
        go_simp
        replace HM := (show Hid (M7 _ _ _ _ _ _ _ _ _) from HM.out.mk6)
        refine hK.out _ _ (fun _ => HM.out.S HPB.out) ?_
        (try simp only [Act.put, List.setIfInBounds_toArray, List.set_cons_zero, List.set_cons_succ])
        clear hK
        generalize W2.alloc (.cells #[.slice none 0 0] 30) = W3 at HM ⊢
        generalize W2.heap.size = g6 at HM ⊢
        refine till_step (i := 5) rfl (by kernel_rfl) (fun K hK => ?_)
        refine step_append_lies _ (by rfl) _ _ 24 (by rfl) V.heap.size 30 i3 (.slice none 0 0) 1 24 Try.underlying24 hi3 hz0 hz1 hz2 rfl (by omega) _ 0 [] (by rfl) (HM.out.p2 _ rfl) _ m cb N (by rfl) (by rw [HN.out, Nat.mul_one]) (HM.out.src hb HSR.out) H1.out hm0 (by unfold maxLen; omega) (by omega) HM.out.bel.size _ rfl ?_
        intro g5 c5 W4 hown hgrow hat hlt
        replace HM := (show Hid (M7 _ _ _ _ _ _ _ _ _) from HM.out.app5 hown hgrow hat)
        clear hown hgrow hat hlt
        rw [Nat.zero_add]
        refine hK.out _ _ (fun _ => HM.out.S HPB.out) ?_
        (try simp only [Act.put, List.setIfInBounds_toArray, List.set_cons_zero, List.set_cons_succ])
        clear hK
        refine till_step (i := 7) rfl (by kernel_rfl) (fun K hK => ?_)
        refine step_append_lies _ (by rfl) _ _ 24 (by rfl) V.heap.size 30 i3 (.slice none 0 0) 1 24 Try.underlying24 hi3 hz0 hz1 hz2 rfl (by omega) _ m N (by rfl) (HM.out.p5 _ rfl) _ 1 1 [.slice none 0 0] (by rfl) rfl HM.out.src6 (by intro u hu; simp at hu; subst hu; rfl) (by omega) (by unfold maxLen; omega) (by omega) HM.out.bel.size _ rfl ?_
        intro g7 c7 W5 hown hgrow hat hlt
        replace HM := (show Hid (M7 _ _ _ _ _ _ _ _ _) from HM.out.app7 hown hgrow)
        clear hown hgrow hat hlt
        refine hK.out _ _ (fun _ => HM.out.S HPB.out) ?_
        (try simp only [Act.put, List.setIfInBounds_toArray, List.set_cons_zero, List.set_cons_succ])
        clear hK
        refine till_take (i := 8) (v := (.agg #[.slice ac nc cc, .slice (some ⟨g7, 0, none⟩) (m + 1) c7])) rfl (by kernel_rfl) (fun _ _ _ h => h) (by rfl) ?_ (HM.out.S HPB.out) ?_
        · (intro w hSw; obtain ⟨s1, s2⟩ := hSw; go_simp)
        (try simp only [Act.put, List.setIfInBounds_toArray, List.set_cons_zero, List.set_cons_succ])
        obtain ⟨hbx, hgx⟩ := HM.out.box
        obtain ⟨y0, y1, y2, y3⟩ := hbx.cells
        have y4 := hbx.lt
        obtain ⟨z0, z1, z2⟩ := HM.out.fin (cv := .slice ac nc cc) (bv := .slice (some ⟨g7, 0, none⟩) (m + 1) c7)
        have HZ := (show Hid (PBox _ _ _ _ ∧ _ ∧ _) from ⟨z0, z1, z2⟩)
        clear z0 z1 z2 hbx
        refine till_step (i := 10) rfl (by kernel_rfl) (fun K hK => ?_)
        go_simp
        refine hK.out _ _ (fun h => absurd rfl h) ?_
        clear hK
        refine till_done (by kernel_rfl) ?_ _
        exact hQ.out _ _ _ _ _ _ _ _ _ _ _ _ _ hgx HZ.out.1 HZ.out.2.1 HZ.out.2.2
    · skip
      go_simp
      replace HM := (show Hid (M7 _ _ _ _ _ _ _ _ _) from HM.out.mk6)
      refine hK.out _ _ (fun _ => HM.out.S HPB.out) ?_
      (try simp only [Act.put, List.setIfInBounds_toArray, List.set_cons_zero, List.set_cons_succ])
      clear hK
      generalize W1.alloc (.cells #[.slice none 0 0] 30) = W2 at HM ⊢
      generalize W1.heap.size = g6 at HM ⊢
      refine till_step (i := 2) rfl (by kernel_rfl) (fun K hK => ?_)
      go_simp
      replace HM := (show Hid (M7 _ _ _ _ _ _ _ _ _) from HM.out.mk2)
      refine hK.out _ _ (fun _ => HM.out.S HPB.out) ?_
      (try simp only [Act.put, List.setIfInBounds_toArray, List.set_cons_zero, List.set_cons_succ])
      clear hK
      generalize W2.alloc (.cells #[] 30) = W3 at HM ⊢
      generalize W2.heap.size = g2 at HM ⊢
      refine till_step (i := 5) rfl (by kernel_rfl) (fun K hK => ?_)
      refine step_append_lies _ (by rfl) _ _ 24 (by rfl) V.heap.size 30 i3 (.slice none 0 0) 1 24 Try.underlying24 hi3 hz0 hz1 hz2 rfl (by omega) _ 0 [] (by rfl) (HM.out.p2 _ rfl) _ m cb N (by rfl) (by rw [HN.out, Nat.mul_one]) (HM.out.src hb HSR.out) H1.out hm0 (by unfold maxLen; omega) (by omega) HM.out.bel.size _ rfl ?_
      intro g5 c5 W4 hown hgrow hat hlt
      replace HM := (show Hid (M7 _ _ _ _ _ _ _ _ _) from HM.out.app5 hown hgrow hat)
      clear hown hgrow hat hlt
      rw [Nat.zero_add]
      refine hK.out _ _ (fun _ => HM.out.S HPB.out) ?_
      (try simp only [Act.put, List.setIfInBounds_toArray, List.set_cons_zero, List.set_cons_succ])
      clear hK
      refine till_step (i := 7) rfl (by kernel_rfl) (fun K hK => ?_)
      refine step_append_lies _ (by rfl) _ _ 24 (by rfl) V.heap.size 30 i3 (.slice none 0 0) 1 24 Try.underlying24 hi3 hz0 hz1 hz2 rfl (by omega) _ m N (by rfl) (HM.out.p5 _ rfl) _ 1 1 [.slice none 0 0] (by rfl) rfl HM.out.src6 (by intro u hu; simp at hu; subst hu; rfl) (by omega) (by unfold maxLen; omega) (by omega) HM.out.bel.size _ rfl ?_
      intro g7 c7 W5 hown hgrow hat hlt
      replace HM := (show Hid (M7 _ _ _ _ _ _ _ _ _) from HM.out.app7 hown hgrow)
      clear hown hgrow hat hlt
      refine hK.out _ _ (fun _ => HM.out.S HPB.out) ?_
      (try simp only [Act.put, List.setIfInBounds_toArray, List.set_cons_zero, List.set_cons_succ])
      clear hK
      refine till_take (i := 8) (v := (.agg #[.slice ac nc cc, .slice (some ⟨g7, 0, none⟩) (m + 1) c7])) rfl (by kernel_rfl) (fun _ _ _ h => h) (by rfl) ?_ (HM.out.S HPB.out) ?_
      · (intro w hSw; obtain ⟨s1, s2⟩ := hSw; go_simp)
      (try simp only [Act.put, List.setIfInBounds_toArray, List.set_cons_zero, List.set_cons_succ])
      obtain ⟨hbx, hgx⟩ := HM.out.box
      obtain ⟨y0, y1, y2, y3⟩ := hbx.cells
      have y4 := hbx.lt
      obtain ⟨z0, z1, z2⟩ := HM.out.fin (cv := .slice ac nc cc) (bv := .slice (some ⟨g7, 0, none⟩) (m + 1) c7)
      have HZ := (show Hid (PBox _ _ _ _ ∧ _ ∧ _) from ⟨z0, z1, z2⟩)
      clear z0 z1 z2 hbx
      refine till_step (i := 10) rfl (by kernel_rfl) (fun K hK => ?_)
      go_simp
      refine hK.out _ _ (fun h => absurd rfl h) ?_
      clear hK
      refine till_done (by kernel_rfl) ?_ _
      exact hQ.out _ _ _ _ _ _ _ _ _ _ _ _ _ hgx HZ.out.1 HZ.out.2.1 HZ.out.2.2

end Go.Proofs.Ytcdldgppjmpbpaa
