import Derived.Test.YtgbgjljflgbcaaaBase25
import Derived.BigQuiet
import Derived.Deep.QuietTactic
namespace Go.Proofs.Ytgbgjljflgbcaaa
open Go.RowKit
set_option linter.unusedSimpArgs false
set_option linter.unusedVariables false
structure Mo (t : En) (ys : List Value) (q : Nat) (V W : World) (o0 : Option Nat) (o4 : Option Value) (o9 : Option (Value × Value)) (o10 : Option Nat) : Prop where
  bel : Below V.heap.size V W
  p0 : ∀ g, o0 = some g → W.ownsRow V.heap.size 55 6 (.slice (some ⟨g, 0, none⟩) 0 0) 0 []
  p4 : ∀ v, o4 = some v → W.ownsRow V.heap.size 55 6 v q ys
  p9 : ∀ d u, o9 = some (d, u) → PuR V.heap.size W d t.reads ∧ PuR V.heap.size W u t.puts
  p10 : ∀ g d u, o10 = some g → o9 = some (d, u) → W.heap[g]? = some (.cells #[.int .i64 t.task, .int .i64 t.act, .int .i64 t.when_, d, u, .int .i64 t.from_] 55 (0, 0)) ∧ ∀ g', o0 = some g' → g' ≠ g
theorem Mo.start (t : En) (ys : List Value) (q : Nat) (V : World) : Mo t ys q V V.drew none none none none :=
  ⟨(Below.refl _ _).drew, by simp, by simp, by simp, by simp⟩
theorem Mo.mk0 {t : En} {ys : List Value} {q : Nat} {V W : World} {o9 : Option (Value × Value)} {o10 : Option Nat} (h : Mo t ys q V W none none o9 o10) : Mo t ys q V (W.alloc (.cells #[] 55)) (some W.heap.size) none o9 o10 :=
  ⟨h.bel.alloc h.bel.size _, fun g hg => by injection hg with hg; subst hg; exact World.ownsRow_made W #[] 0 h.bel.size (by unfold maxLen; omega) (by simp), by simp,
    fun d u e => ⟨(h.p9 d u e).1.go fun g _ hg => Below.heap_alloc W _ g hg, (h.p9 d u e).2.go fun g _ hg => Below.heap_alloc W _ g hg⟩,
    fun g d u e1 e2 => ⟨(Below.heap_alloc W _ g (bx_lt (h.p10 g d u e1 e2).1)).trans (h.p10 g d u e1 e2).1, fun g' hg' => by injection hg' with hg'; subst hg'; have := bx_lt (h.p10 g d u e1 e2).1; omega⟩⟩
theorem Mo.app4 {t : En} {ys : List Value} {q g0 : Nat} {V W W' : World} {v : Value} {o9 : Option (Value × Value)} {o10 : Option Nat} (h : Mo t ys q V W (some g0) none o9 o10)
    (ho : W'.ownsRow V.heap.size 55 6 v (0 + q) ([] ++ ys)) (hg : W.grownBy W' (Value.slice (some ⟨g0, 0, none⟩) 0 0).ownBlock) : Mo t ys q V W' none (some v) o9 o10 := by
  have h2 := h.p0 g0 rfl
  have TK := TagKept.grown h2 hg
  rw [Nat.zero_add, List.nil_append] at ho
  refine ⟨h.bel.grown hg h.bel.size (fun b e => (h2.lt b e).1), by simp, fun v' hq => by injection hq with hq; subst hq; exact ho, fun d u e => ⟨own_tag (h.p9 d u e).1 TK (by decide), own_tag (h.p9 d u e).2 TK (by decide)⟩, fun g d u e1 e2 => ⟨?_, by simp⟩⟩
  have h3 := h.p10 g d u e1 e2
  exact (hg.block g (bx_lt h3.1) (fun e => by simp [Value.ownBlock] at e; exact h3.2 g0 rfl e.symm)).trans h3.1
theorem Mo.call9 {t : En} {ys : List Value} {q : Nat} {V W W' : World} {o0 : Option Nat} {o4 : Option Value} {d u : Value} (h : Mo t ys q V W o0 o4 none none) (hb : Below W.heap.size W W') (hd : PuR W.heap.size W' d t.reads) (hu : PuR W.heap.size W' u t.puts) : Mo t ys q V W' o0 o4 (some (d, u)) none :=
  ⟨h.bel.trans (hb.mono h.bel.size), fun g e => row_heap (h.p0 g e) fun b hb' => hb.block b ((h.p0 g e).lt b hb').2, fun v e => row_heap (h.p4 v e) fun b hb' => hb.block b ((h.p4 v e).lt b hb').2,
    fun d' u' e => by injection e with e; injection e with e1 e2; subst e1 e2; exact ⟨hd.base h.bel.size, hu.base h.bel.size⟩, by simp⟩
theorem Mo.mk10 {t : En} {ys : List Value} {q : Nat} {V W : World} {o0 : Option Nat} {o4 : Option Value} {d u : Value} (h : Mo t ys q V W o0 o4 (some (d, u)) none) : Mo t ys q V (W.alloc (.cells #[.int .i64 t.task, .int .i64 t.act, .int .i64 t.when_, d, u, .int .i64 t.from_] 55)) o0 o4 (some (d, u)) (some W.heap.size) :=
  ⟨h.bel.alloc h.bel.size _, fun g e => (h.p0 g e).alloc _, fun v e => (h.p4 v e).alloc _, fun d' u' e => ⟨(h.p9 d' u' e).1.go fun g _ hg => Below.heap_alloc W _ g hg, (h.p9 d' u' e).2.go fun g _ hg => Below.heap_alloc W _ g hg⟩,
    fun g d' u' e1 e2 => by
      injection e1 with e1; subst e1
      injection e2 with e2; injection e2 with e2 e3; subst e2 e3
      exact ⟨heap_alloc_new W _, fun g' hg' => by have := ((h.p0 g' hg').lt g' rfl).2; omega⟩⟩
theorem Mo.S {t : En} {ys : List Value} {q b o : Nat} {V W : World} {o0 : Option Nat} {o4 : Option Value} {o9 : Option (Value × Value)} {o10 : Option Nat} {x3 x4 : Value} (h : Mo t ys q V W o0 o4 o9 o10)
    (hY : b < V.heap.size ∧ V.cell? ⟨b, o, none⟩ = some (.int .i64 t.task) ∧ V.cell? ⟨b, o + 1, none⟩ = some (.int .i64 t.act) ∧ V.cell? ⟨b, o + 2, none⟩ = some (.int .i64 t.when_) ∧ V.cell? ⟨b, o + 3, none⟩ = some x3 ∧ V.cell? ⟨b, o + 4, none⟩ = some x4 ∧ V.cell? ⟨b, o + 5, none⟩ = some (.int .i64 t.from_)) :
    W.cell? ⟨b, o, none⟩ = some (.int .i64 t.task) ∧ W.cell? ⟨b, o + 1, none⟩ = some (.int .i64 t.act) ∧ W.cell? ⟨b, o + 2, none⟩ = some (.int .i64 t.when_) ∧ W.cell? ⟨b, o + 3, none⟩ = some x3 ∧ W.cell? ⟨b, o + 4, none⟩ = some x4 ∧ W.cell? ⟨b, o + 5, none⟩ = some (.int .i64 t.from_) :=
  ⟨(h.bel.cell (p := ⟨b, _, none⟩) hY.1).trans hY.2.1, (h.bel.cell (p := ⟨b, _, none⟩) hY.1).trans hY.2.2.1, (h.bel.cell (p := ⟨b, _, none⟩) hY.1).trans hY.2.2.2.1, (h.bel.cell (p := ⟨b, _, none⟩) hY.1).trans hY.2.2.2.2.1, (h.bel.cell (p := ⟨b, _, none⟩) hY.1).trans hY.2.2.2.2.2.1, (h.bel.cell (p := ⟨b, _, none⟩) hY.1).trans hY.2.2.2.2.2.2⟩
theorem Mo.src {t : En} {ys : List Value} {q g : Nat} {V W : World} {o0 : Option Nat} {o4 : Option Value} {o9 : Option (Value × Value)} {o10 : Option Nat} (h : Mo t ys q V W o0 o4 o9 o10)
    (hs : g < V.heap.size ∧ ∀ j u, ys[j]? = some u → V.cell? ⟨g, j, none⟩ = some u) : q = 0 ∨ ∃ ad, (some ⟨g, 0, none⟩ : Option Addr) = some ad ∧ ∀ j u, ys[j]? = some u → W.cell? (ad.add j) = some u := by
  refine .inr ⟨⟨g, 0, none⟩, rfl, fun j u hj => ?_⟩
  have h1 := hs.2 j u hj
  rw [Go.WideShapes.add_plain, Nat.zero_add]
  rw [h.bel.cell (p := ⟨g, _, none⟩) hs.1]; exact h1
structure MoF (t : En) (ys : List Value) (q : Nat) (V W : World) (v d u : Value) : Prop where
  bel : Below V.heap.size V W
  r : W.ownsRow V.heap.size 55 6 v (q + 1) (ys ++ [.int .i64 t.task, .int .i64 t.act, .int .i64 t.when_, d, u, .int .i64 t.from_])
  d : PuR V.heap.size W d t.reads
  u : PuR V.heap.size W u t.puts
theorem Mo.fin {t : En} {ys : List Value} {q : Nat} {V W W' : World} {v v' d u : Value} {o0 o10 : Option Nat} (h : Mo t ys q V W o0 (some v) (some (d, u)) o10)
    (ho : W'.ownsRow V.heap.size 55 6 v' (q + 1) (ys ++ [.int .i64 t.task, .int .i64 t.act, .int .i64 t.when_, d, u, .int .i64 t.from_])) (hg : W.grownBy W' v.ownBlock) : MoF t ys q V W' v' d u := by
  have h4 := h.p4 v rfl
  have TK := TagKept.grown h4 hg
  exact ⟨h.bel.grown hg h.bel.size (fun b e => (h4.lt b e).1), ho, own_tag (h.p9 d u rfl).1 TK (by decide), own_tag (h.p9 d u rfl).2 TK (by decide)⟩
noncomputable def loReg (k : Nat) : Code := ((Try.f57.body.bind (regAt k)).getD .skip)
set_option maxRecDepth 100000 in
set_option maxHeartbeats 8000000 in
theorem lo_reg8 (V : World) (b off m lc g n c i q : Nat) (a3 a4 : Option Addr) (k3 k4 : Nat) (t : En) (ys : List Value)
    (HS0 : Hid (b < V.heap.size ∧ V.cell? ⟨b, off + i * 6, none⟩ = some (.int .i64 t.task) ∧ V.cell? ⟨b, off + i * 6 + 1, none⟩ = some (.int .i64 t.act) ∧ V.cell? ⟨b, off + i * 6 + 2, none⟩ = some (.int .i64 t.when_) ∧ V.cell? ⟨b, off + i * 6 + 3, none⟩ = some (.slice a3 t.reads.length k3) ∧ V.cell? ⟨b, off + i * 6 + 4, none⟩ = some (.slice a4 t.puts.length k4) ∧ V.cell? ⟨b, off + i * 6 + 5, none⟩ = some (.int .i64 t.from_)))
    (H3 : Hid (PusAt V (.slice a3 t.reads.length k3) t.reads)) (H4 : Hid (PusAt V (.slice a4 t.puts.length k4) t.puts)) (HSM : Hid (SmEn t))
    (HSR : Hid (g < V.heap.size ∧ ∀ j u, ys[j]? = some u → V.cell? ⟨g, j, none⟩ = some u)) (HL : Hid (ys.length = q * 6 ∧ ∀ u, u ∈ ys → u.oneCell' = true))
    (him : (i : Int) < (m : Int)) (hqn : q ≤ n) (hnc : n ≤ c) (hqc : (q : Int) ≤ (c : Int)) (hn : n ≤ 1048576) (Q : Exit → Act → World → Prop) (u1 u2 u6 u7 u8 u9 u10 u11 u12 u13 u14 u15 u16 u17 u18 u19 u20 u21 u22 u23 u24 u25 u26 u27 u28 u29 u30 u31 u32 u33 u34 u35 u36 u37 u38 u39 u40 u41 u42 u43 u44 u45 u46 u47 u48 u49 : Value)
    (hQ : Hid (∀ (v32 v33 v34 v35 v36 v37 v38 v39 v40 v41 v42 v43 : Value) (W : World) (d u : Value), MoF t ys q V W v43 d u → Q .normal ⟨(.slice (some ⟨b, off, none⟩) m lc :: u1 :: u2 :: .slice (some ⟨g, 0, none⟩) n c :: .int .i64 (i : Int) :: .int .i64 (q : Int) :: v43 :: u7 :: u8 :: u9 :: u10 :: u11 :: u12 :: u13 :: u14 :: u15 :: u16 :: u17 :: u18 :: u19 :: u20 :: u21 :: u22 :: u23 :: u24 :: u25 :: u26 :: u27 :: u28 :: u29 :: u30 :: u31 :: v32 :: v33 :: v34 :: v35 :: v36 :: v37 :: v38 :: v39 :: v40 :: v41 :: v42 :: v43 :: u44 :: u45 :: u46 :: u47 :: u48 :: u49 :: []).toArray, []⟩ W)) :
    Code.wp Try.prog (loReg 8) Q ⟨(.slice (some ⟨b, off, none⟩) m lc :: u1 :: u2 :: .slice (some ⟨g, 0, none⟩) n c :: .int .i64 (i : Int) :: .int .i64 (q : Int) :: u6 :: u7 :: u8 :: u9 :: u10 :: u11 :: u12 :: u13 :: u14 :: u15 :: u16 :: u17 :: u18 :: u19 :: u20 :: u21 :: u22 :: u23 :: u24 :: u25 :: u26 :: u27 :: u28 :: u29 :: u30 :: u31 :: u32 :: u33 :: u34 :: u35 :: u36 :: u37 :: u38 :: u39 :: u40 :: u41 :: u42 :: u43 :: u44 :: u45 :: u46 :: u47 :: u48 :: u49 :: []).toArray, []⟩ V := by
  obtain ⟨i0, hi0, hz0, hz1, hz2⟩ := info_parts (P := Try.prog) (e := 55) (z := (.agg #[.int .i64 0, .int .i64 0, .int .i64 0, .slice none 0 0, .slice none 0 0, .int .i64 0])) (size := 6) (bytes := 80) (by kernel_rfl)
  conv => arg 2; whnf
  refine wp_region_noPanic ?_
  have HM : Hid (Mo t ys q V V.drew none none none none) := Mo.start _ _ _ V
  refine till_begin (S := fun w' => w'.cell? ⟨b, off + i * 6, none⟩ = some (.int .i64 t.task) ∧ w'.cell? ⟨b, off + i * 6 + 1, none⟩ = some (.int .i64 t.act) ∧ w'.cell? ⟨b, off + i * 6 + 2, none⟩ = some (.int .i64 t.when_) ∧ w'.cell? ⟨b, off + i * 6 + 3, none⟩ = some (.slice a3 t.reads.length k3) ∧ w'.cell? ⟨b, off + i * 6 + 4, none⟩ = some (.slice a4 t.puts.length k4) ∧ w'.cell? ⟨b, off + i * 6 + 5, none⟩ = some (.int .i64 t.from_)) (z := 12) (by kernel_rfl) ?_
  generalize V.drew = W0 at HM ⊢
  refine till_take (i := 1) (v := (.slice (some ⟨g, 0, none⟩) n c)) rfl (by kernel_rfl) (fun _ _ _ h => h) (by rfl) ?_ (HM.out.S HS0.out) ?_
  · (intro w hSw; obtain ⟨s0, s1, s2, s3, s4, s5⟩ := hSw; go_simp)
  (try simp only [Act.put, List.setIfInBounds_toArray, List.set_cons_zero, List.set_cons_succ])
  refine till_take (i := 2) (v := (.int .i64 (q : Int))) rfl (by kernel_rfl) (fun _ _ _ h => h) (by rfl) ?_ (HM.out.S HS0.out) ?_
  · (intro w hSw; obtain ⟨s0, s1, s2, s3, s4, s5⟩ := hSw; go_simp)
  (try simp only [Act.put, List.setIfInBounds_toArray, List.set_cons_zero, List.set_cons_succ])
  refine till_take (i := 3) (v := (.slice (some ⟨g, 0, none⟩) q c)) rfl (by kernel_rfl) (fun _ _ _ h => h) (by rfl) ?_ (HM.out.S HS0.out) ?_
  · (intro w hSw; obtain ⟨s0, s1, s2, s3, s4, s5⟩ := hSw; go_simp)
  (try simp only [Act.put, List.setIfInBounds_toArray, List.set_cons_zero, List.set_cons_succ])
  refine till_take (i := 5) (v := (.slice (some ⟨b, off, none⟩) m lc)) rfl (by kernel_rfl) (fun _ _ _ h => h) (by rfl) ?_ (HM.out.S HS0.out) ?_
  · (intro w hSw; obtain ⟨s0, s1, s2, s3, s4, s5⟩ := hSw; go_simp)
  (try simp only [Act.put, List.setIfInBounds_toArray, List.set_cons_zero, List.set_cons_succ])
  refine till_take (i := 6) (v := (.int .i64 (i : Int))) rfl (by kernel_rfl) (fun _ _ _ h => h) (by rfl) ?_ (HM.out.S HS0.out) ?_
  · (intro w hSw; obtain ⟨s0, s1, s2, s3, s4, s5⟩ := hSw; go_simp)
  (try simp only [Act.put, List.setIfInBounds_toArray, List.set_cons_zero, List.set_cons_succ])
  refine till_take (i := 7) (v := (.pointer (some ⟨b, off + i * 6, none⟩))) rfl (by kernel_rfl) (fun _ _ _ h => h) (by rfl) ?_ (HM.out.S HS0.out) ?_
  · (intro w hSw; obtain ⟨s0, s1, s2, s3, s4, s5⟩ := hSw; go_simp)
  (try simp only [Act.put, List.setIfInBounds_toArray, List.set_cons_zero, List.set_cons_succ])
  refine till_take (i := 8) (v := (.agg #[.int .i64 t.task, .int .i64 t.act, .int .i64 t.when_, .slice a3 t.reads.length k3, .slice a4 t.puts.length k4, .int .i64 t.from_])) rfl (by kernel_rfl) (fun _ _ _ h => h) (by rfl) ?_ (HM.out.S HS0.out) ?_
  · (intro w hSw; obtain ⟨s0, s1, s2, s3, s4, s5⟩ := hSw; go_simp)
  (try simp only [Act.put, List.setIfInBounds_toArray, List.set_cons_zero, List.set_cons_succ])
  refine till_step (i := 0) rfl (by kernel_rfl) (fun K hK => ?_)
  go_simp
  replace HM := (show Hid (Mo _ _ _ _ _ _ _ _ _) from HM.out.mk0)
  refine hK.out _ _ (fun _ => HM.out.S HS0.out) ?_
  (try simp only [Act.put, List.setIfInBounds_toArray, List.set_cons_zero, List.set_cons_succ])
  clear hK
  generalize W0.alloc (.cells #[] 55) = W1 at HM ⊢
  generalize W0.heap.size = g0 at HM ⊢
  refine till_step (i := 4) rfl (by kernel_rfl) (fun K hK => ?_)
  refine step_append_src (by rfl) _ _ 30 (by rfl) V.heap.size 55 i0 (.agg #[.int .i64 0, .int .i64 0, .int .i64 0, .slice none 0 0, .slice none 0 0, .int .i64 0]) 6 80 Try.underlying30 hi0 hz0 hz1 hz2 rfl (by decide) _ 0 [] (by rfl) (HM.out.p0 _ rfl) (some ⟨g, 0, none⟩) q c ys (by rfl) HL.out.1 (HM.out.src HSR.out) HL.out.2 (by unfold maxLen; omega) (by omega) HM.out.bel.size ?_
  intro v4 W2 hown hgrow
  replace HM := (show Hid (Mo _ _ _ _ _ _ _ _ _) from HM.out.app4 hown hgrow)
  clear hown hgrow
  refine hK.out _ _ (fun _ => HM.out.S HS0.out) ?_
  (try simp only [Act.put, List.setIfInBounds_toArray, List.set_cons_zero, List.set_cons_succ])
  clear hK
  refine till_step (i := 9) rfl (by kernel_rfl) (fun K hK => ?_)
  go_simp
  refine (l13Entry_any t a3 a4 k3 k4 _ (H3.out.mono HM.out.bel) (H4.out.mono HM.out.bel) HSM.out).mono ?_
  rintro r W3 ⟨d, u, rfl, hd, hu, hb⟩
  replace HM := (show Hid (Mo _ _ _ _ _ _ _ _ _) from HM.out.call9 hb hd hu)
  clear hd hu hb
  refine hK.out _ _ (fun _ => HM.out.S HS0.out) ?_
  (try simp only [Act.put, List.setIfInBounds_toArray, List.set_cons_zero, List.set_cons_succ])
  clear hK
  refine till_step (i := 10) rfl (by kernel_rfl) (fun K hK => ?_)
  go_simp
  replace HM := (show Hid (Mo _ _ _ _ _ _ _ _ _) from HM.out.mk10)
  refine hK.out _ _ (fun _ => HM.out.S HS0.out) ?_
  (try simp only [Act.put, List.setIfInBounds_toArray, List.set_cons_zero, List.set_cons_succ])
  clear hK
  generalize W3.alloc (.cells #[.int .i64 t.task, .int .i64 t.act, .int .i64 t.when_, d, u, .int .i64 t.from_] 55) = W4 at HM ⊢
  generalize W3.heap.size = g10 at HM ⊢
  all_goals
    obtain ⟨hbx, _⟩ := HM.out.p10 _ _ _ rfl rfl
    refine till_step (i := 11) rfl (by kernel_rfl) (fun K hK => ?_)
    refine step_append_src (by rfl) _ _ 30 (by rfl) V.heap.size 55 i0 (.agg #[.int .i64 0, .int .i64 0, .int .i64 0, .slice none 0 0, .slice none 0 0, .int .i64 0]) 6 80 Try.underlying30 hi0 hz0 hz1 hz2 rfl (by decide) _ q ys (by rfl) (HM.out.p4 _ rfl) (some ⟨g10, 0, none⟩) 1 1 [.int .i64 t.task, .int .i64 t.act, .int .i64 t.when_, d, u, .int .i64 t.from_] (by rfl) rfl (.inr ⟨⟨g10, 0, none⟩, rfl, World.news_of_block hbx⟩) ?_ (by unfold maxLen; omega) (by omega) HM.out.bel.size ?_
    · intro x hx
      simp at hx
      have h9 := HM.out.p9 _ _ rfl
      obtain ⟨_, _, e3, _⟩ := own_shape h9.1
      obtain ⟨_, _, e4, _⟩ := own_shape h9.2
      rcases hx with rfl | rfl | rfl | rfl | rfl | rfl
      · rfl
      · rfl
      · rfl
      · rw [e3]; rfl
      · rw [e4]; rfl
      · rfl
    intro v11 W9 hown hgrow
    have HF := (show Hid (MoF _ _ _ _ _ _ _ _) from HM.out.fin hown hgrow)
    clear hown hgrow hbx
    refine hK.out _ _ (fun _ => ?_) ?_
    · have hbl := HF.out.bel
      have hY := HS0.out
      exact ⟨(hbl.cell (p := ⟨b, _, none⟩) hY.1).trans hY.2.1, (hbl.cell (p := ⟨b, _, none⟩) hY.1).trans hY.2.2.1, (hbl.cell (p := ⟨b, _, none⟩) hY.1).trans hY.2.2.2.1, (hbl.cell (p := ⟨b, _, none⟩) hY.1).trans hY.2.2.2.2.1, (hbl.cell (p := ⟨b, _, none⟩) hY.1).trans hY.2.2.2.2.2.1, (hbl.cell (p := ⟨b, _, none⟩) hY.1).trans hY.2.2.2.2.2.2⟩
    clear hK
    (try simp only [Act.put, List.setIfInBounds_toArray, List.set_cons_zero, List.set_cons_succ])
    refine till_step (i := 12) rfl (by kernel_rfl) (fun K hK => ?_)
    go_simp
    refine hK.out _ _ (fun h => absurd rfl h) ?_
    clear hK
    (try simp only [Act.put, List.setIfInBounds_toArray, List.set_cons_zero, List.set_cons_succ])
    refine till_done (by kernel_rfl) ?_ _
    exact hQ.out _ _ _ _ _ _ _ _ _ _ _ _ _ _ _ HF.out
set_option maxRecDepth 100000 in
set_option maxHeartbeats 8000000 in
theorem lo_reg6 (V : World) (b off m lc g n c i q : Nat) (a3 a4 b3 b4 : Option Addr) (k3 k4 d3 d4 : Nat) (t y : En)
    (HS0 : Hid (V.cell? ⟨b, off + i * 6, none⟩ = some (.int .i64 t.task) ∧ V.cell? ⟨b, off + i * 6 + 1, none⟩ = some (.int .i64 t.act) ∧ V.cell? ⟨b, off + i * 6 + 2, none⟩ = some (.int .i64 t.when_) ∧ V.cell? ⟨b, off + i * 6 + 3, none⟩ = some (.slice a3 t.reads.length k3) ∧ V.cell? ⟨b, off + i * 6 + 4, none⟩ = some (.slice a4 t.puts.length k4) ∧ V.cell? ⟨b, off + i * 6 + 5, none⟩ = some (.int .i64 t.from_) ∧ V.cell? ⟨g, (q - 1) * 6, none⟩ = some (.int .i64 y.task) ∧ V.cell? ⟨g, (q - 1) * 6 + 1, none⟩ = some (.int .i64 y.act) ∧ V.cell? ⟨g, (q - 1) * 6 + 2, none⟩ = some (.int .i64 y.when_) ∧ V.cell? ⟨g, (q - 1) * 6 + 3, none⟩ = some (.slice b3 y.reads.length d3) ∧ V.cell? ⟨g, (q - 1) * 6 + 4, none⟩ = some (.slice b4 y.puts.length d4) ∧ V.cell? ⟨g, (q - 1) * 6 + 5, none⟩ = some (.int .i64 y.from_))) (him : (i : Int) < (m : Int)) (hq0 : 0 < q) (hqn : ((q - 1 : Nat) : Int) < (n : Int)) (hwq : IntKind.i64.wrap ((q : Int) - 1) = ((q - 1 : Nat) : Int)) (hq1 : (0 : Int) ≤ ((q - 1 : Nat) : Int)) (Q : Exit → Act → World → Prop) (u1 u2 u6 u7 u8 u9 u10 u11 u12 u13 u14 u15 u16 u17 u18 u19 u20 u21 u22 u23 u24 u25 u26 u27 u28 u29 u30 u31 u32 u33 u34 u35 u36 u37 u38 u39 u40 u41 u42 u43 u44 u45 u46 u47 u48 u49 : Value)
    (hQ : Hid (∀ (v16 v17 v18 v19 v20 v21 v22 v23 v24 v25 v26 v27 v28 : Value) (W : World), Below V.heap.size V W → Q .normal ⟨(.slice (some ⟨b, off, none⟩) m lc :: u1 :: u2 :: .slice (some ⟨g, 0, none⟩) n c :: .int .i64 (i : Int) :: .int .i64 (q : Int) :: u6 :: u7 :: u8 :: u9 :: u10 :: u11 :: u12 :: u13 :: u14 :: u15 :: v16 :: v17 :: v18 :: v19 :: v20 :: v21 :: v22 :: v23 :: v24 :: v25 :: v26 :: v27 :: v28 :: .bool (ahB t y) :: u30 :: u31 :: u32 :: u33 :: u34 :: u35 :: u36 :: u37 :: u38 :: u39 :: u40 :: u41 :: u42 :: u43 :: u44 :: u45 :: u46 :: u47 :: u48 :: u49 :: []).toArray, []⟩ W)) (HLT : Hid (b < V.heap.size ∧ g < V.heap.size)) :
    Code.wp Try.prog (loReg 6) Q ⟨(.slice (some ⟨b, off, none⟩) m lc :: u1 :: u2 :: .slice (some ⟨g, 0, none⟩) n c :: .int .i64 (i : Int) :: .int .i64 (q : Int) :: u6 :: u7 :: u8 :: u9 :: u10 :: u11 :: u12 :: u13 :: u14 :: u15 :: u16 :: u17 :: u18 :: u19 :: u20 :: u21 :: u22 :: u23 :: u24 :: u25 :: u26 :: u27 :: u28 :: u29 :: u30 :: u31 :: u32 :: u33 :: u34 :: u35 :: u36 :: u37 :: u38 :: u39 :: u40 :: u41 :: u42 :: u43 :: u44 :: u45 :: u46 :: u47 :: u48 :: u49 :: []).toArray, []⟩ V := by
  conv => arg 2; whnf
  refine wp_region_noPanic ?_
  refine till_begin (S := fun w' => w'.cell? ⟨b, off + i * 6, none⟩ = some (.int .i64 t.task) ∧ w'.cell? ⟨b, off + i * 6 + 1, none⟩ = some (.int .i64 t.act) ∧ w'.cell? ⟨b, off + i * 6 + 2, none⟩ = some (.int .i64 t.when_) ∧ w'.cell? ⟨b, off + i * 6 + 3, none⟩ = some (.slice a3 t.reads.length k3) ∧ w'.cell? ⟨b, off + i * 6 + 4, none⟩ = some (.slice a4 t.puts.length k4) ∧ w'.cell? ⟨b, off + i * 6 + 5, none⟩ = some (.int .i64 t.from_) ∧ w'.cell? ⟨g, (q - 1) * 6, none⟩ = some (.int .i64 y.task) ∧ w'.cell? ⟨g, (q - 1) * 6 + 1, none⟩ = some (.int .i64 y.act) ∧ w'.cell? ⟨g, (q - 1) * 6 + 2, none⟩ = some (.int .i64 y.when_) ∧ w'.cell? ⟨g, (q - 1) * 6 + 3, none⟩ = some (.slice b3 y.reads.length d3) ∧ w'.cell? ⟨g, (q - 1) * 6 + 4, none⟩ = some (.slice b4 y.puts.length d4) ∧ w'.cell? ⟨g, (q - 1) * 6 + 5, none⟩ = some (.int .i64 y.from_)) (z := 13) (by kernel_rfl) ?_
  have HM : Hid (Below V.heap.size V V.drew) := (Below.refl _ _).drew
  have HT : Hid (V.drew.cell? ⟨b, off + i * 6, none⟩ = some (.int .i64 t.task) ∧ V.drew.cell? ⟨b, off + i * 6 + 1, none⟩ = some (.int .i64 t.act) ∧ V.drew.cell? ⟨b, off + i * 6 + 2, none⟩ = some (.int .i64 t.when_) ∧ V.drew.cell? ⟨b, off + i * 6 + 3, none⟩ = some (.slice a3 t.reads.length k3) ∧ V.drew.cell? ⟨b, off + i * 6 + 4, none⟩ = some (.slice a4 t.puts.length k4) ∧ V.drew.cell? ⟨b, off + i * 6 + 5, none⟩ = some (.int .i64 t.from_) ∧ V.drew.cell? ⟨g, (q - 1) * 6, none⟩ = some (.int .i64 y.task) ∧ V.drew.cell? ⟨g, (q - 1) * 6 + 1, none⟩ = some (.int .i64 y.act) ∧ V.drew.cell? ⟨g, (q - 1) * 6 + 2, none⟩ = some (.int .i64 y.when_) ∧ V.drew.cell? ⟨g, (q - 1) * 6 + 3, none⟩ = some (.slice b3 y.reads.length d3) ∧ V.drew.cell? ⟨g, (q - 1) * 6 + 4, none⟩ = some (.slice b4 y.puts.length d4) ∧ V.drew.cell? ⟨g, (q - 1) * 6 + 5, none⟩ = some (.int .i64 y.from_)) := HS0.out
  generalize V.drew = W0 at HM HT ⊢
  refine till_take (i := 0) (v := (.int .i64 (q : Int))) rfl (by kernel_rfl) (fun _ _ _ h => h) (by kernel_rfl) ?_ HT.out ?_
  · (intro w hSw; obtain ⟨s0, s1, s2, s3, s4, s5, r0, r1, r2, r3, r4, r5⟩ := hSw; go_simp)
  (try simp only [Act.put, List.setIfInBounds_toArray, List.set_cons_zero, List.set_cons_succ])
  refine till_take (i := 1) (v := (.bool true)) rfl (by kernel_rfl) (fun _ _ _ h => h) (by kernel_rfl) ?_ HT.out ?_
  · (intro w hSw; obtain ⟨s0, s1, s2, s3, s4, s5, r0, r1, r2, r3, r4, r5⟩ := hSw; go_simp)
  (try simp only [Act.put, List.setIfInBounds_toArray, List.set_cons_zero, List.set_cons_succ])
  refine till_take (i := 2) (v := (.bool true)) rfl (by kernel_rfl) (fun _ _ _ h => h) (by kernel_rfl) ?_ HT.out ?_
  · (intro w hSw; obtain ⟨s0, s1, s2, s3, s4, s5, r0, r1, r2, r3, r4, r5⟩ := hSw; go_simp)
  (try simp only [Act.put, List.setIfInBounds_toArray, List.set_cons_zero, List.set_cons_succ])
  refine till_take (i := 3) (v := (.slice (some ⟨b, off, none⟩) m lc)) rfl (by kernel_rfl) (fun _ _ _ h => h) (by kernel_rfl) ?_ HT.out ?_
  · (intro w hSw; obtain ⟨s0, s1, s2, s3, s4, s5, r0, r1, r2, r3, r4, r5⟩ := hSw; go_simp)
  (try simp only [Act.put, List.setIfInBounds_toArray, List.set_cons_zero, List.set_cons_succ])
  refine till_take (i := 4) (v := (.int .i64 (i : Int))) rfl (by kernel_rfl) (fun _ _ _ h => h) (by kernel_rfl) ?_ HT.out ?_
  · (intro w hSw; obtain ⟨s0, s1, s2, s3, s4, s5, r0, r1, r2, r3, r4, r5⟩ := hSw; go_simp)
  (try simp only [Act.put, List.setIfInBounds_toArray, List.set_cons_zero, List.set_cons_succ])
  refine till_take (i := 5) (v := (.pointer (some ⟨b, off + i * 6, none⟩))) rfl (by kernel_rfl) (fun _ _ _ h => h) (by kernel_rfl) ?_ HT.out ?_
  · (intro w hSw; obtain ⟨s0, s1, s2, s3, s4, s5, r0, r1, r2, r3, r4, r5⟩ := hSw; go_simp)
  (try simp only [Act.put, List.setIfInBounds_toArray, List.set_cons_zero, List.set_cons_succ])
  refine till_take (i := 6) (v := (.agg #[.int .i64 t.task, .int .i64 t.act, .int .i64 t.when_, .slice a3 t.reads.length k3, .slice a4 t.puts.length k4, .int .i64 t.from_])) rfl (by kernel_rfl) (fun _ _ _ h => h) (by kernel_rfl) ?_ HT.out ?_
  · (intro w hSw; obtain ⟨s0, s1, s2, s3, s4, s5, r0, r1, r2, r3, r4, r5⟩ := hSw; go_simp)
  (try simp only [Act.put, List.setIfInBounds_toArray, List.set_cons_zero, List.set_cons_succ])
  refine till_take (i := 7) (v := (.slice (some ⟨g, 0, none⟩) n c)) rfl (by kernel_rfl) (fun _ _ _ h => h) (by kernel_rfl) ?_ HT.out ?_
  · (intro w hSw; obtain ⟨s0, s1, s2, s3, s4, s5, r0, r1, r2, r3, r4, r5⟩ := hSw; go_simp)
  (try simp only [Act.put, List.setIfInBounds_toArray, List.set_cons_zero, List.set_cons_succ])
  refine till_take (i := 8) (v := (.int .i64 (q : Int))) rfl (by kernel_rfl) (fun _ _ _ h => h) (by kernel_rfl) ?_ HT.out ?_
  · (intro w hSw; obtain ⟨s0, s1, s2, s3, s4, s5, r0, r1, r2, r3, r4, r5⟩ := hSw; go_simp)
  (try simp only [Act.put, List.setIfInBounds_toArray, List.set_cons_zero, List.set_cons_succ])
  refine till_take (i := 9) (v := (.int .i64 ((q - 1 : Nat) : Int))) rfl (by kernel_rfl) (fun _ _ _ h => h) (by kernel_rfl) ?_ HT.out ?_
  · (intro w hSw; obtain ⟨s0, s1, s2, s3, s4, s5, r0, r1, r2, r3, r4, r5⟩ := hSw; go_simp)
  (try simp only [Act.put, List.setIfInBounds_toArray, List.set_cons_zero, List.set_cons_succ])
  refine till_take (i := 10) (v := (.pointer (some ⟨g, (q - 1) * 6, none⟩))) rfl (by kernel_rfl) (fun _ _ _ h => h) (by kernel_rfl) ?_ HT.out ?_
  · (intro w hSw; obtain ⟨s0, s1, s2, s3, s4, s5, r0, r1, r2, r3, r4, r5⟩ := hSw; go_simp)
  (try simp only [Act.put, List.setIfInBounds_toArray, List.set_cons_zero, List.set_cons_succ])
  refine till_take (i := 11) (v := (.agg #[.int .i64 y.task, .int .i64 y.act, .int .i64 y.when_, .slice b3 y.reads.length d3, .slice b4 y.puts.length d4, .int .i64 y.from_])) rfl (by kernel_rfl) (fun _ _ _ h => h) (by kernel_rfl) ?_ HT.out ?_
  · (intro w hSw; obtain ⟨s0, s1, s2, s3, s4, s5, r0, r1, r2, r3, r4, r5⟩ := hSw; go_simp)
  (try simp only [Act.put, List.setIfInBounds_toArray, List.set_cons_zero, List.set_cons_succ])
  refine till_step (i := 12) rfl (by kernel_rfl) (fun K hK => ?_)
  go_simp
  refine (l13Ahead_any t y _ _ _ _ _ _ _ _ _).mono ?_
  rintro e w1 ⟨rfl, hb⟩
  have HM1 : Hid (Below V.heap.size V w1) := HM.out.trans (hb.mono HM.out.size)
  clear hb
  refine hK.out _ _ (fun _ => ?_) ?_
  · have hbl := HM1.out
    have hY := HS0.out
    have l1 := HLT.out.1
    have l2 := HLT.out.2
    exact ⟨(hbl.cell (p := ⟨b, _, none⟩) l1).trans hY.1, (hbl.cell (p := ⟨b, _, none⟩) l1).trans hY.2.1, (hbl.cell (p := ⟨b, _, none⟩) l1).trans hY.2.2.1, (hbl.cell (p := ⟨b, _, none⟩) l1).trans hY.2.2.2.1, (hbl.cell (p := ⟨b, _, none⟩) l1).trans hY.2.2.2.2.1, (hbl.cell (p := ⟨b, _, none⟩) l1).trans hY.2.2.2.2.2.1, (hbl.cell (p := ⟨g, _, none⟩) l2).trans hY.2.2.2.2.2.2.1, (hbl.cell (p := ⟨g, _, none⟩) l2).trans hY.2.2.2.2.2.2.2.1, (hbl.cell (p := ⟨g, _, none⟩) l2).trans hY.2.2.2.2.2.2.2.2.1, (hbl.cell (p := ⟨g, _, none⟩) l2).trans hY.2.2.2.2.2.2.2.2.2.1, (hbl.cell (p := ⟨g, _, none⟩) l2).trans hY.2.2.2.2.2.2.2.2.2.2.1, (hbl.cell (p := ⟨g, _, none⟩) l2).trans hY.2.2.2.2.2.2.2.2.2.2.2⟩
  clear hK
  (try simp only [Act.put, List.setIfInBounds_toArray, List.set_cons_zero, List.set_cons_succ])
  refine till_step (i := 13) rfl (by kernel_rfl) (fun K hK => ?_)
  go_simp
  refine hK.out _ _ (fun h => absurd rfl h) ?_
  clear hK
  (try simp only [Act.put, List.setIfInBounds_toArray, List.set_cons_zero, List.set_cons_succ])
  refine till_done (by kernel_rfl) ?_ _
  exact hQ.out _ _ _ _ _ _ _ _ _ _ _ _ _ _ HM1.out
set_option maxRecDepth 100000 in
set_option maxHeartbeats 4000000 in
theorem lo_reg6z (V : World) (b off m lc g n c i q : Nat) (hq : q = 0) (Q : Exit → Act → World → Prop) (u1 u2 u6 u7 u8 u9 u10 u11 u12 u13 u14 u15 u16 u17 u18 u19 u20 u21 u22 u23 u24 u25 u26 u27 u28 u29 u30 u31 u32 u33 u34 u35 u36 u37 u38 u39 u40 u41 u42 u43 u44 u45 u46 u47 u48 u49 : Value)
    (hQ : Hid (∀ (v16 v17 v18 v19 v20 v21 v22 v23 v24 v25 v26 v27 v28 : Value) (W : World), Below V.heap.size V W → Q .normal ⟨(.slice (some ⟨b, off, none⟩) m lc :: u1 :: u2 :: .slice (some ⟨g, 0, none⟩) n c :: .int .i64 (i : Int) :: .int .i64 (q : Int) :: u6 :: u7 :: u8 :: u9 :: u10 :: u11 :: u12 :: u13 :: u14 :: u15 :: v16 :: v17 :: v18 :: v19 :: v20 :: v21 :: v22 :: v23 :: v24 :: v25 :: v26 :: v27 :: v28 :: .bool false :: u30 :: u31 :: u32 :: u33 :: u34 :: u35 :: u36 :: u37 :: u38 :: u39 :: u40 :: u41 :: u42 :: u43 :: u44 :: u45 :: u46 :: u47 :: u48 :: u49 :: []).toArray, []⟩ W)) :
    Code.wp Try.prog (loReg 6) Q ⟨(.slice (some ⟨b, off, none⟩) m lc :: u1 :: u2 :: .slice (some ⟨g, 0, none⟩) n c :: .int .i64 (i : Int) :: .int .i64 (q : Int) :: u6 :: u7 :: u8 :: u9 :: u10 :: u11 :: u12 :: u13 :: u14 :: u15 :: u16 :: u17 :: u18 :: u19 :: u20 :: u21 :: u22 :: u23 :: u24 :: u25 :: u26 :: u27 :: u28 :: u29 :: u30 :: u31 :: u32 :: u33 :: u34 :: u35 :: u36 :: u37 :: u38 :: u39 :: u40 :: u41 :: u42 :: u43 :: u44 :: u45 :: u46 :: u47 :: u48 :: u49 :: []).toArray, []⟩ V := by
  subst hq
  conv => arg 2; whnf
  go_quiet (fail)
  exact hQ.out _ _ _ _ _ _ _ _ _ _ _ _ _ _ (below_drewN (Below.refl _ _) _)
end Go.Proofs.Ytgbgjljflgbcaaa
