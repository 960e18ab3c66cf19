/-
  A law's step: a program with its bodies copied.
-/
import Derived.Test.YtpehlekjfnkhoaaDoorD20
import Derived.Test.YtpehlekjfnkhoaaDoorD13
namespace Go.Proofs.YtpehlekjfnkhoaaDoor
open Go.RowKit
set_option linter.unusedSimpArgs false
set_option linter.unusedVariables false

/-- how far the copy has come: what was made empty, copied, and the box -/
structure M8 (m : Nat) (N : List Value) (V W : World) (o2 : Option Nat) (o5 : Option (Nat × Nat)) (o9 : Option Nat) : Prop where
  bel : Below V.heap.size V W
  p2 : ∀ g, o2 = some g → W.ownsRow V.heap.size 31 1 (.slice (some ⟨g, 0, none⟩) 0 0) 0 []
  p5 : ∀ q, o5 = some q → W.ownsRow V.heap.size 31 1 (.slice (some ⟨q.1, 0, none⟩) m q.2) m N
  p9 : ∀ g, o9 = some g → PBox W g (.slice none 0 0) (.slice none 0 0) ∧ V.heap.size ≤ g
theorem M8.start (m : Nat) (N : List Value) (V : World) : M8 m N V V.drew none none none :=
  ⟨(Below.refl _ _).drew, by simp, by simp, by simp⟩
theorem M8.mk2 {m : Nat} {N : List Value} {V W : World} {o9 : Option Nat} (h : M8 m N V W none none o9) : M8 m N V (W.alloc (.cells #[] 31)) (some W.heap.size) none o9 :=
  ⟨h.bel.alloc h.bel.size _, fun g hg => by injection hg with hg; subst hg; exact World.ownsRow_made W #[] 0 h.bel.size (by unfold maxLen; omega) (by simp), by simp, fun g hg => ⟨(h.p9 g hg).1.alloc _, (h.p9 g hg).2⟩⟩
theorem M8.mk7 {m : Nat} {N : List Value} {V W : World} {o2 : Option Nat} {o5 : Option (Nat × Nat)} (h : M8 m N V W o2 o5 none) : M8 m N V (W.alloc (.cells #[.slice none 0 0, .slice none 0 0] 26)) o2 o5 (some W.heap.size) :=
  ⟨h.bel.alloc h.bel.size _, fun g hg => (h.p2 g hg).alloc _, fun q hq => (h.p5 q hq).alloc _, fun g hg => by injection hg with hg; subst hg; exact ⟨heap_alloc_new W _, h.bel.size⟩⟩
theorem M8.app5 {m : Nat} {N : List Value} {V W W' : World} {g2 g5 c5 : Nat} {o9 : Option Nat} (h : M8 m N V W (some g2) none o9)
    (ho : W'.ownsRow V.heap.size 31 1 (.slice (some ⟨g5, 0, none⟩) (0 + m) c5) (0 + m) ([] ++ N)) (hg : W.grownBy W' (Value.slice (some ⟨g2, 0, none⟩) 0 0).ownBlock) : M8 m N V W' none (some (g5, c5)) o9 := by
  have h2 := h.p2 g2 rfl
  have TK := TagKept.grown h2 hg
  rw [Nat.zero_add, List.nil_append] at ho
  exact ⟨h.bel.grown hg h.bel.size (fun b e => (h2.lt b e).1), by simp, fun q hq => by injection hq with hq; subst hq; exact ho, fun g h9 => ⟨(h.p9 g h9).1.tag TK (by decide), (h.p9 g h9).2⟩⟩
theorem M8.src {m b off : Nat} {N : List Value} {V W : World} {o2 o9 : Option Nat} {o5 : Option (Nat × Nat)} (h : M8 m N V W o2 o5 o9) (hb : b < V.heap.size) (hs : ∀ j u, N[j]? = some u → V.cell? ((⟨b, off, none⟩ : Addr).add j) = some u) : ∀ j u, N[j]? = some u → W.cell? ((⟨b, off, none⟩ : Addr).add j) = some u := fun j u hj => by
  have := hs j u hj
  rw [Go.WideShapes.add_plain] at this ⊢
  rw [h.bel.cell (p := ⟨b, _, none⟩) hb]; exact this
theorem M8.S {m P : Nat} {N : List Value} {cv bv : Value} {V W : World} {o2 o9 : Option Nat} {o5 : Option (Nat × Nat)} (h : M8 m N V W o2 o5 o9) (hP : PBox V P cv bv) : W.cell? ⟨P, 0, none⟩ = some cv ∧ W.cell? ⟨P, 1, none⟩ = some bv :=
  ⟨(h.bel.cell (p := ⟨P, 0, none⟩) hP.lt).trans hP.cells.1, (h.bel.cell (p := ⟨P, 1, none⟩) hP.lt).trans hP.cells.2.1⟩
theorem M8.fin {m g : Nat} {q : Nat × Nat} {cv bv : Value} {N : List Value} {V W : World} (h : M8 m N V W none (some q) (some g)) : PBox ((W.setCell ⟨g, 0, none⟩ cv).setCell ⟨g, 1, none⟩ bv) g cv bv ∧ ((W.setCell ⟨g, 0, none⟩ cv).setCell ⟨g, 1, none⟩ bv).ownsRow V.heap.size 31 1 (.slice (some ⟨q.1, 0, none⟩) m q.2) m N ∧ Below V.heap.size V ((W.setCell ⟨g, 0, none⟩ cv).setCell ⟨g, 1, none⟩ bv) := by
  obtain ⟨h9, h9'⟩ := h.p9 g rfl
  refine ⟨(h9.set0 _).set1 _, own_tag (own_tag (h.p5 q rfl) (PBox.kept h9) (by decide)) (PBox.kept (h9.set0 _)) (by decide), (h.bel.setCell (by simpa using h9') _).setCell (by simpa using h9') _⟩

noncomputable def failReg (k : Nat) : Code := ((Tryd.f3.body.bind (findReg k)).getD .skip)

set_option maxRecDepth 100000 in
set_option maxHeartbeats 4000000 in
theorem fail_reg8 (V : World) (P : Nat) (ac : Option Addr) (nc cc b off cb m : Nat) (N : List Value) (HPB : Hid (PBox V P (.slice ac nc cc) (.slice (some ⟨b, off, none⟩) m cb))) (HN : Hid (N.length = m)) (H1 : Hid (∀ u, u ∈ N → u.oneCell' = true)) (HSR : Hid (∀ j u, N[j]? = some u → V.cell? ((⟨b, off, none⟩ : Addr).add j) = some u)) (hb : b < V.heap.size) (hm0 : 0 < m) (hm : m ≤ 10) (Q : Exit → Act → World → Prop) (u0 u1 u2 u4 u5 u6 u7 u8 u9 u10 u11 u12 u13 u14 u15 u16 u17 u18 u19 u20 u21 u22 u23 u24 u25 u26 u27 u28 u29 u30 u31 u32 u33 u34 u35 u36 u37 u38 u39 u40 u41 u42 u43 u44 u45 u46 u47 u48 u49 u50 u51 u52 u53 u54 u55 u56 u57 u58 u59 u60 u61 u62 u63 u64 u65 u66 u67 u68 u69 u70 u71 u72 u73 u74 u75 u76 u77 u78 u79 u80 u81 u82 u83 u84 u85 u86 u87 u88 u89 u90 u91 u92 u93 u94 u95 u96 u97 u98 u99 u100 u101 : Value)
    (hQ : Hid (∀ (v62 v63 v64 v65 v66 v67 v68 : Value) (W : World) (G g5 c5 : Nat), V.heap.size ≤ G → PBox W G (.slice ac nc cc) (.slice (some ⟨g5, 0, none⟩) m c5) → W.ownsRow V.heap.size 31 1 (.slice (some ⟨g5, 0, none⟩) m c5) m N → Below V.heap.size V W → Q .normal ⟨(u0 :: u1 :: u2 :: .pointer (some ⟨P, 0, none⟩) :: u4 :: u5 :: u6 :: u7 :: u8 :: u9 :: .pointer (some ⟨G, 0, none⟩) :: u11 :: u12 :: u13 :: u14 :: u15 :: u16 :: u17 :: u18 :: u19 :: u20 :: u21 :: u22 :: u23 :: u24 :: u25 :: u26 :: u27 :: u28 :: u29 :: u30 :: u31 :: u32 :: u33 :: u34 :: u35 :: u36 :: u37 :: u38 :: u39 :: u40 :: u41 :: u42 :: u43 :: u44 :: u45 :: u46 :: u47 :: u48 :: u49 :: u50 :: u51 :: u52 :: u53 :: u54 :: u55 :: u56 :: u57 :: u58 :: u59 :: u60 :: u61 :: v62 :: v63 :: v64 :: v65 :: v66 :: v67 :: v68 :: u69 :: u70 :: u71 :: u72 :: u73 :: u74 :: u75 :: u76 :: u77 :: u78 :: u79 :: u80 :: u81 :: u82 :: u83 :: u84 :: u85 :: u86 :: u87 :: u88 :: u89 :: u90 :: u91 :: u92 :: u93 :: u94 :: u95 :: u96 :: u97 :: u98 :: u99 :: u100 :: u101 :: []).toArray, []⟩ W)) :
    Code.wp Tryd.prog (failReg 8) Q ⟨(u0 :: u1 :: u2 :: .pointer (some ⟨P, 0, none⟩) :: u4 :: u5 :: u6 :: u7 :: u8 :: u9 :: u10 :: u11 :: u12 :: u13 :: u14 :: u15 :: u16 :: u17 :: u18 :: u19 :: u20 :: u21 :: u22 :: u23 :: u24 :: u25 :: u26 :: u27 :: u28 :: u29 :: u30 :: u31 :: u32 :: u33 :: u34 :: u35 :: u36 :: u37 :: u38 :: u39 :: u40 :: u41 :: u42 :: u43 :: u44 :: u45 :: u46 :: u47 :: u48 :: u49 :: u50 :: u51 :: u52 :: u53 :: u54 :: u55 :: u56 :: u57 :: u58 :: u59 :: u60 :: u61 :: u62 :: u63 :: u64 :: u65 :: u66 :: u67 :: u68 :: u69 :: u70 :: u71 :: u72 :: u73 :: u74 :: u75 :: u76 :: u77 :: u78 :: u79 :: u80 :: u81 :: u82 :: u83 :: u84 :: u85 :: u86 :: u87 :: u88 :: u89 :: u90 :: u91 :: u92 :: u93 :: u94 :: u95 :: u96 :: u97 :: u98 :: u99 :: u100 :: u101 :: []).toArray, []⟩ V := by
  obtain ⟨i3, hi3, hz0, hz1, hz2⟩ := info_parts Tryd.info_acts
  conv => arg 2; whnf
  refine wp_region_noPanic ?_
  have HM : Hid (M8 m N V V.drew none none none) := M8.start m N V
  have HS0 := (show Hid (PBox _ _ _ _) from HPB.out)
  refine till_begin (S := fun w' => w'.cell? ⟨P, 0, none⟩ = some (.slice ac nc cc) ∧ w'.cell? ⟨P, 1, none⟩ = some (.slice (some ⟨b, off, none⟩) m cb)) (z := 8) (by kernel_rfl) ?_
  generalize V.drew = W0 at HM ⊢
  refine till_take (i := 0) (v := (.pointer (some ⟨P, 0, none⟩))) rfl (by kernel_rfl) (fun _ _ _ h => h) (by rfl) ?_ (HM.out.S HS0.out) ?_
  · (intro w hSw; obtain ⟨s0, s1⟩ := hSw; go_simp)
  (try simp only [Act.put, List.setIfInBounds_toArray, List.set_cons_zero, List.set_cons_succ])
  refine till_take (i := 1) (v := (.slice ac nc cc)) rfl (by kernel_rfl) (fun _ _ _ h => h) (by rfl) ?_ (HM.out.S HS0.out) ?_
  · (intro w hSw; obtain ⟨s0, s1⟩ := hSw; go_simp)
  (try simp only [Act.put, List.setIfInBounds_toArray, List.set_cons_zero, List.set_cons_succ])
  refine till_take (i := 3) (v := (.pointer (some ⟨P, 1, none⟩))) rfl (by kernel_rfl) (fun _ _ _ h => h) (by rfl) ?_ (HM.out.S HS0.out) ?_
  · (intro w hSw; obtain ⟨s0, s1⟩ := hSw; go_simp)
  (try simp only [Act.put, List.setIfInBounds_toArray, List.set_cons_zero, List.set_cons_succ])
  refine till_take (i := 4) (v := (.slice (some ⟨b, off, none⟩) m cb)) rfl (by kernel_rfl) (fun _ _ _ h => h) (by rfl) ?_ (HM.out.S HS0.out) ?_
  · (intro w hSw; obtain ⟨s0, s1⟩ := hSw; go_simp)
  (try simp only [Act.put, List.setIfInBounds_toArray, List.set_cons_zero, List.set_cons_succ])
  refine till_two (i := 2) (j := 7) rfl rfl (by kernel_rfl) (fun K hK => ?_) (fun K hK => ?_)
  · skip
    go_simp
    replace HM := (show Hid (M8 _ _ _ _ _ _ _) from HM.out.mk2)
    refine hK.out _ _ (fun _ => HM.out.S HS0.out) ?_
    (try simp only [Act.put, List.setIfInBounds_toArray, List.set_cons_zero, List.set_cons_succ])
    clear hK
    generalize W0.alloc (.cells #[] 31) = W1 at HM ⊢
    generalize W0.heap.size = g2 at HM ⊢
    refine till_two (i := 5) (j := 7) rfl rfl (by kernel_rfl) (fun K hK => ?_) (fun K hK => ?_)
    · skip
      refine step_append_lies _ (by rfl) _ _ 24 (by rfl) V.heap.size 31 i3 (.slice none 0 0) 1 24 Tryd.underlying24 hi3 hz0 hz1 hz2 rfl (by omega) _ 0 [] (by rfl) (HM.out.p2 _ rfl) _ m cb N (by rfl) (by rw [HN.out, Nat.mul_one]) (HM.out.src hb HSR.out) H1.out hm0 (by unfold maxLen; omega) (by omega) HM.out.bel.size _ rfl ?_
      intro g5 c5 W2 hown hgrow hat hlt
      replace HM := (show Hid (M8 _ _ _ _ _ _ _) from HM.out.app5 hown hgrow)
      clear hown hgrow hat hlt
      rw [Nat.zero_add]
      refine hK.out _ _ (fun _ => HM.out.S HS0.out) ?_
      (try simp only [Act.put, List.setIfInBounds_toArray, List.set_cons_zero, List.set_cons_succ])
      clear hK
      refine till_take (i := 6) (v := (.agg #[.slice ac nc cc, .slice (some ⟨g5, 0, none⟩) m c5])) rfl (by kernel_rfl) (fun _ _ _ h => h) (by rfl) ?_ (HM.out.S HS0.out) ?_
      · (intro w hSw; obtain ⟨s0, s1⟩ := hSw; go_simp)
      (try simp only [Act.put, List.setIfInBounds_toArray, List.set_cons_zero, List.set_cons_succ])
      refine till_step (i := 7) rfl (by kernel_rfl) (fun K hK => ?_)
      go_simp
      replace HM := (show Hid (M8 _ _ _ _ _ _ _) from HM.out.mk7)
      refine hK.out _ _ (fun _ => HM.out.S HS0.out) ?_
      (try simp only [Act.put, List.setIfInBounds_toArray, List.set_cons_zero, List.set_cons_succ])
      clear hK
      generalize W2.alloc (.cells #[.slice none 0 0, .slice none 0 0] 26) = W3 at HM ⊢
      generalize W2.heap.size = g7 at HM ⊢
      obtain ⟨hbx, hgx⟩ := HM.out.p9 _ rfl
      obtain ⟨y0, y1, y2, y3⟩ := hbx.cells
      have y4 := hbx.lt
      obtain ⟨z0, z1, z2⟩ := HM.out.fin (cv := .slice ac nc cc) (bv := .slice (some ⟨g5, 0, none⟩) m c5)
      have HZ := (show Hid (PBox _ _ _ _ ∧ _ ∧ _) from ⟨z0, z1, z2⟩)
      clear z0 z1 z2 hbx
      refine till_step (i := 8) rfl (by kernel_rfl) (fun K hK => ?_)
      go_simp
      refine hK.out _ _ (fun h => absurd rfl h) ?_
      clear hK
      refine till_done (by kernel_rfl) ?_ _
      exact hQ.out _ _ _ _ _ _ _ _ _ _ _ hgx HZ.out.1 HZ.out.2.1 HZ.out.2.2
    · skip
      go_simp
      replace HM := (show Hid (M8 _ _ _ _ _ _ _) from HM.out.mk7)
      refine hK.out _ _ (fun _ => HM.out.S HS0.out) ?_
      (try simp only [Act.put, List.setIfInBounds_toArray, List.set_cons_zero, List.set_cons_succ])
      clear hK
      generalize W1.alloc (.cells #[.slice none 0 0, .slice none 0 0] 26) = W2 at HM ⊢
      generalize W1.heap.size = g7 at HM ⊢
      refine till_step (i := 5) rfl (by kernel_rfl) (fun K hK => ?_)
      refine step_append_lies _ (by rfl) _ _ 24 (by rfl) V.heap.size 31 i3 (.slice none 0 0) 1 24 Tryd.underlying24 hi3 hz0 hz1 hz2 rfl (by omega) _ 0 [] (by rfl) (HM.out.p2 _ rfl) _ m cb N (by rfl) (by rw [HN.out, Nat.mul_one]) (HM.out.src hb HSR.out) H1.out hm0 (by unfold maxLen; omega) (by omega) HM.out.bel.size _ rfl ?_
      intro g5 c5 W3 hown hgrow hat hlt
      replace HM := (show Hid (M8 _ _ _ _ _ _ _) from HM.out.app5 hown hgrow)
      clear hown hgrow hat hlt
      rw [Nat.zero_add]
      refine hK.out _ _ (fun _ => HM.out.S HS0.out) ?_
      (try simp only [Act.put, List.setIfInBounds_toArray, List.set_cons_zero, List.set_cons_succ])
      clear hK
      refine till_take (i := 6) (v := (.agg #[.slice ac nc cc, .slice (some ⟨g5, 0, none⟩) m c5])) rfl (by kernel_rfl) (fun _ _ _ h => h) (by rfl) ?_ (HM.out.S HS0.out) ?_
      · (intro w hSw; obtain ⟨s0, s1⟩ := hSw; go_simp)
      (try simp only [Act.put, List.setIfInBounds_toArray, List.set_cons_zero, List.set_cons_succ])
      obtain ⟨hbx, hgx⟩ := HM.out.p9 _ rfl
      obtain ⟨y0, y1, y2, y3⟩ := hbx.cells
      have y4 := hbx.lt
      obtain ⟨z0, z1, z2⟩ := HM.out.fin (cv := .slice ac nc cc) (bv := .slice (some ⟨g5, 0, none⟩) m c5)
      have HZ := (show Hid (PBox _ _ _ _ ∧ _ ∧ _) from ⟨z0, z1, z2⟩)
      clear z0 z1 z2 hbx
      refine till_step (i := 8) rfl (by kernel_rfl) (fun K hK => ?_)
      go_simp
      refine hK.out _ _ (fun h => absurd rfl h) ?_
      clear hK
      refine till_done (by kernel_rfl) ?_ _
      exact hQ.out _ _ _ _ _ _ _ _ _ _ _ hgx HZ.out.1 HZ.out.2.1 HZ.out.2.2
  · skip
    go_simp
    replace HM := (show Hid (M8 _ _ _ _ _ _ _) from HM.out.mk7)
    refine hK.out _ _ (fun _ => HM.out.S HS0.out) ?_
    (try simp only [Act.put, List.setIfInBounds_toArray, List.set_cons_zero, List.set_cons_succ])
    clear hK
    generalize W0.alloc (.cells #[.slice none 0 0, .slice none 0 0] 26) = W1 at HM ⊢
    generalize W0.heap.size = g7 at HM ⊢
    refine till_step (i := 2) rfl (by kernel_rfl) (fun K hK => ?_)
    go_simp
    replace HM := (show Hid (M8 _ _ _ _ _ _ _) from HM.out.mk2)
    refine hK.out _ _ (fun _ => HM.out.S HS0.out) ?_
    (try simp only [Act.put, List.setIfInBounds_toArray, List.set_cons_zero, List.set_cons_succ])
    clear hK
    generalize W1.alloc (.cells #[] 31) = W2 at HM ⊢
    generalize W1.heap.size = g2 at HM ⊢
    refine till_step (i := 5) rfl (by kernel_rfl) (fun K hK => ?_)
    refine step_append_lies _ (by rfl) _ _ 24 (by rfl) V.heap.size 31 i3 (.slice none 0 0) 1 24 Tryd.underlying24 hi3 hz0 hz1 hz2 rfl (by omega) _ 0 [] (by rfl) (HM.out.p2 _ rfl) _ m cb N (by rfl) (by rw [HN.out, Nat.mul_one]) (HM.out.src hb HSR.out) H1.out hm0 (by unfold maxLen; omega) (by omega) HM.out.bel.size _ rfl ?_
    intro g5 c5 W3 hown hgrow hat hlt
    replace HM := (show Hid (M8 _ _ _ _ _ _ _) from HM.out.app5 hown hgrow)
    clear hown hgrow hat hlt
    rw [Nat.zero_add]
    refine hK.out _ _ (fun _ => HM.out.S HS0.out) ?_
    (try simp only [Act.put, List.setIfInBounds_toArray, List.set_cons_zero, List.set_cons_succ])
    clear hK
    refine till_take (i := 6) (v := (.agg #[.slice ac nc cc, .slice (some ⟨g5, 0, none⟩) m c5])) rfl (by kernel_rfl) (fun _ _ _ h => h) (by rfl) ?_ (HM.out.S HS0.out) ?_
    · (intro w hSw; obtain ⟨s0, s1⟩ := hSw; go_simp)
    (try simp only [Act.put, List.setIfInBounds_toArray, List.set_cons_zero, List.set_cons_succ])
    obtain ⟨hbx, hgx⟩ := HM.out.p9 _ rfl
    obtain ⟨y0, y1, y2, y3⟩ := hbx.cells
    have y4 := hbx.lt
    obtain ⟨z0, z1, z2⟩ := HM.out.fin (cv := .slice ac nc cc) (bv := .slice (some ⟨g5, 0, none⟩) m c5)
    have HZ := (show Hid (PBox _ _ _ _ ∧ _ ∧ _) from ⟨z0, z1, z2⟩)
    clear z0 z1 z2 hbx
    refine till_step (i := 8) rfl (by kernel_rfl) (fun K hK => ?_)
    go_simp
    refine hK.out _ _ (fun h => absurd rfl h) ?_
    clear hK
    refine till_done (by kernel_rfl) ?_ _
    exact hQ.out _ _ _ _ _ _ _ _ _ _ _ hgx HZ.out.1 HZ.out.2.1 HZ.out.2.2

end Go.Proofs.YtpehlekjfnkhoaaDoor
