/-
  FnLogReplayRead (by mkl27.py).
-/
import Derived.Test.YtgbgjljflgbcaaaBase44
namespace Go.Proofs.Ytgbgjljflgbcaaa
open Go.RowKit
set_option linter.unusedSimpArgs false
set_option linter.unusedVariables false

/-- a list of entries, as what is appended -/
theorem ens_src {w : World} {a : Option Addr} {cap : Nat} {L : List En} (h : EnsAt w (.slice a L.length cap) L) : ∃ LL : List EE, LL.map (·.1) = L ∧ (∀ x, x ∈ LL → PusAt w x.2.d x.1.reads ∧ PusAt w x.2.u x.1.puts) ∧
    (L.length = 0 ∨ ∃ b off, a = some ⟨b, off, none⟩ ∧ b < w.heap.size ∧ ∀ j u, (LL.flatMap enC)[j]? = some u → w.cell? ⟨b, off + j, none⟩ = some u) := by
  by_cases h0 : L.length = 0
  · have e : L = [] := List.length_eq_zero_iff.1 h0
    subst e
    exact ⟨[], rfl, fun x hx => absurd hx (by simp), .inl rfl⟩
  obtain ⟨b, off, rfl⟩ := h.block (by omega)
  obtain ⟨_, _, e, _, hc⟩ := h
  injection e with e1
  subst e1
  have hf : ∀ i, ∃ V : EV, i < L.length → b < w.heap.size ∧ (∀ j u, (enC (nth En.z L i, V))[j]? = some u → w.cell? ⟨b, off + i * 6 + j, none⟩ = some u) ∧ PusAt w V.d (nth En.z L i).reads ∧ PusAt w V.u (nth En.z L i).puts := fun i => by
    by_cases hi : i < L.length
    · obtain ⟨b', off', v3, v4, eb, hbl, c0, c1, c2, c3, c4, c5, h3, h4⟩ := hc i hi
      injection eb with eb
      injection eb with eb1 eb2
      subst eb1 eb2
      refine ⟨⟨v3, v4⟩, fun _ => ⟨hbl, fun j u hj => ?_, h3, h4⟩⟩
      have hj6 : j < 6 := by
        rcases Nat.lt_or_ge j 6 with q | q
        · exact q
        · rw [List.getElem?_eq_none (by simpa [enC] using q)] at hj; cases hj
      rcases (by omega : j = 0 ∨ j = 1 ∨ j = 2 ∨ j = 3 ∨ j = 4 ∨ j = 5) with q | q | q | q | q | q <;> subst q <;> simp [enC] at hj <;> subst hj
      · exact c0
      · exact c1
      · exact c2
      · exact c3
      · exact c4
      · exact c5
    · exact ⟨⟨.slice none 0 0, .slice none 0 0⟩, fun h => absurd h hi⟩
  obtain ⟨f, hf⟩ := Classical.axiomOfChoice hf
  have hl : ((List.range L.length).map fun i => ((nth En.z L i, f i) : EE)).length = L.length := by simp
  have hn : ∀ i, i < L.length → nth EE.z ((List.range L.length).map fun i => ((nth En.z L i, f i) : EE)) i = (nth En.z L i, f i) := fun i hi => by
    rw [nth_eq _ _ i (by rw [hl]; exact hi)]; simp
  refine ⟨(List.range L.length).map fun i => ((nth En.z L i, f i) : EE), ?_, fun x hx => ?_, .inr ⟨b, off, rfl, (hf 0 (by omega)).1, fun j u hj => ?_⟩⟩
  · apply List.ext_getElem
    · simp
    · intro i h1 h2
      simp only [List.getElem_map, List.getElem_range]
      rw [nth_eq En.z L i h2]
  · obtain ⟨i, hi, rfl⟩ := List.mem_map.1 hx
    exact (hf i (List.mem_range.1 hi)).2.2
  · have hlen : j < L.length * 6 := by
      rcases Nat.lt_or_ge j (L.length * 6) with q | q
      · exact q
      · rw [List.getElem?_eq_none (by rw [flat_len 6 enC enC_len, hl]; exact q)] at hj; cases hj
    have hi : j / 6 < L.length := by omega
    have hr : j % 6 < 6 := Nat.mod_lt _ (by omega)
    have ej : j = j / 6 * 6 + j % 6 := by omega
    rw [ej, flat_at 6 enC enC_len EE.z (j % 6) hr _ (j / 6) (by rw [hl]; exact hi), hn _ hi] at hj
    have h1 := (hf (j / 6) hi).2.1 (j % 6) u hj
    have ea : off + j = off + j / 6 * 6 + j % 6 := by omega
    rw [ea]; exact h1
theorem ens_of_row {B : Nat} {w : World} {v : Value} {L : List EE} (hr : w.ownsRow B 55 6 v L.length (L.flatMap enC)) (he : ∀ x, x ∈ L → PusAt w x.2.d x.1.reads ∧ PusAt w x.2.u x.1.puts) : EnsAt w v (L.map (·.1)) := by
  obtain ⟨a, c, e, h1, h2⟩ := own_shape hr
  refine ⟨a, c, by rw [List.length_map]; exact e, ⟨by rw [List.length_map]; exact h1, h2⟩, fun i hi => ?_⟩
  rw [List.length_map] at hi
  obtain ⟨g, cap, e', hB, hg, _, _, _, hcell, _⟩ := row_cells (kz_row hr) (by omega) (by omega)
  rw [e] at e'
  injection e' with e1 e2 e3
  have hc : ∀ j, j < 6 → w.cell? ⟨g, i * 6 + j, none⟩ = (enC (nth EE.z L i))[j]? := fun j hj => by
    rw [hcell _ (by rw [flat_len 6 enC enC_len]; have : (i + 1) * 6 ≤ L.length * 6 := Nat.mul_le_mul_right _ hi; omega)]
    exact flat_at 6 enC enC_len EE.z j hj L i hi
  have hli := he _ (nth_mem EE.z L i hi)
  rw [map_nth (·.1) EE.z En.z L i hi]
  refine ⟨g, 0, _, _, e1, hg, ?_, ?_, ?_, ?_, ?_, ?_, hli.1, hli.2⟩
  · have := hc 0 (by omega); simpa [enC] using this
  · have := hc 1 (by omega); simpa [enC] using this
  · have := hc 2 (by omega); simpa [enC] using this
  · have := hc 3 (by omega); simpa [enC] using this
  · have := hc 4 (by omega); simpa [enC] using this
  · have := hc 5 (by omega); simpa [enC] using this
theorem rpO_more (cs : List Int) (es : List En) (e : En) : rpO cs (es ++ [e]) = rp1 (rpO cs es) e := by
  unfold rpO
  rw [List.foldl_append]
  rfl
theorem pl_zero {n : Nat} (h : 1 ≤ n) : plB 0 (n : Int) = true := by
  unfold plB
  simp
  omega
def enR (x : Int) : En := { task := 0, act := 0, when_ := 0, reads := [⟨0, x⟩], puts := [⟨0, 42⟩], from_ := 0 }
theorem rp_yes {cs r : List Int} {es : List En} (h : rpO cs es = some r) (h1 : 1 ≤ r.length) : rpO cs (es ++ [enR (nth 0 r 0)]) = some (r.set 0 42) := by
  rw [rpO_more, h]
  have hp := pl_zero h1
  simp [rp1, enR, hasB, rd1, putL, put1, hp]
theorem rp_no {cs r : List Int} {es : List En} (h : rpO cs es = some r) (x : Int) (hx : x ≠ nth 0 r 0) : rpO cs (es ++ [enR x]) = none := by
  rw [rpO_more, h]
  have hd : decide (nth 0 r 0 = x) = false := by simp; exact fun e => hx e.symm
  simp [rp1, enR, hasB, rd1, hd]
  exact fun _ e => hx e.symm
theorem other_num (x : Int) : (IntKind.i64.wrap (x + 1)).tmod 100 ≠ x := by
  intro h
  have h1 := Int.tmod_lt_of_pos (IntKind.i64.wrap (x + 1)) (show (0 : Int) < 100 by omega)
  have h2 := Int.lt_tmod_of_pos (IntKind.i64.wrap (x + 1)) (show (0 : Int) < 100 by omega)
  rw [h] at h1 h2
  have hw : IntKind.i64.wrap (x + 1) = x + 1 := by rw [IntKind.wrap_i64]; omega
  rw [hw] at h
  by_cases hx : 0 ≤ x + 1
  · rw [Int.tmod_eq_emod_of_nonneg hx] at h
    omega
  · have h3 := Int.neg_tmod (-(x + 1)) 100
    rw [Int.neg_neg] at h3
    rw [h3, Int.tmod_eq_emod_of_nonneg (by omega)] at h
    omega
/-- how far it has come -/
structure Mr (d u : Value) (ys : List Value) (q : Nat) (V W : World) (o1 : Option Nat) (o3 : Option Value) (o5 : Option Nat) : Prop where
  bel : Below V.heap.size V W
  p1 : ∀ g, o1 = some g → W.ownsRow V.heap.size 55 6 (.slice (some ⟨g, 0, none⟩) 0 0) 0 []
  p3 : ∀ v, o3 = some v → W.ownsRow V.heap.size 55 6 v q ys
  p5 : ∀ g, o5 = some g → W.heap[g]? = some (.cells #[.int .i64 0, .int .i64 0, .int .i64 0, d, u, .int .i64 0] 55 (0, 0)) ∧ ∀ g', o1 = some g' → g' ≠ g
theorem Mr.start (d u : Value) (ys : List Value) (q : Nat) (V : World) : Mr d u ys q V V.drew none none none :=
  ⟨(Below.refl _ _).drew, by simp, by simp, by simp⟩
theorem Mr.mk1 {d u : Value} {ys : List Value} {q : Nat} {V W : World} {o5 : Option Nat} (h : Mr d u ys q V W none none o5) : Mr d u ys q V (W.alloc (.cells #[] 55)) (some W.heap.size) none o5 :=
  ⟨h.bel.alloc h.bel.size _, fun g hg => by injection hg with hg; subst hg; exact World.ownsRow_made W #[] 0 h.bel.size (by unfold maxLen; omega) (by simp), by simp,
    fun g e1 => ⟨(Below.heap_alloc W _ g (bx_lt (h.p5 g e1).1)).trans (h.p5 g e1).1, fun g' hg' => by injection hg' with hg'; subst hg'; have := bx_lt (h.p5 g e1).1; omega⟩⟩
theorem Mr.app3 {d u : Value} {ys : List Value} {q g0 : Nat} {V W W' : World} {v : Value} {o5 : Option Nat} (h : Mr d u ys q V W (some g0) none o5)
    (ho : W'.ownsRow V.heap.size 55 6 v (0 + q) ([] ++ ys)) (hg : W.grownBy W' (Value.slice (some ⟨g0, 0, none⟩) 0 0).ownBlock) : Mr d u ys q V W' none (some v) o5 := by
  have h2 := h.p1 g0 rfl
  rw [Nat.zero_add, List.nil_append] at ho
  refine ⟨h.bel.grown hg h.bel.size (fun b e => (h2.lt b e).1), by simp, fun v' hq => by injection hq with hq; subst hq; exact ho, fun g e1 => ⟨?_, by simp⟩⟩
  have h3 := h.p5 g e1
  exact (hg.block g (bx_lt h3.1) (fun e => by simp [Value.ownBlock] at e; exact h3.2 g0 rfl e.symm)).trans h3.1
theorem Mr.mk5 {d u : Value} {ys : List Value} {q : Nat} {V W : World} {o1 : Option Nat} {o3 : Option Value} (h : Mr d u ys q V W o1 o3 none) : Mr d u ys q V (W.alloc (.cells #[.int .i64 0, .int .i64 0, .int .i64 0, d, u, .int .i64 0] 55)) o1 o3 (some W.heap.size) :=
  ⟨h.bel.alloc h.bel.size _, fun g e => (h.p1 g e).alloc _, fun v e => (h.p3 v e).alloc _,
    fun g e1 => by
      injection e1 with e1; subst e1
      exact ⟨heap_alloc_new W _, fun g' hg' => by have := ((h.p1 g' hg').lt g' rfl).2; omega⟩⟩
theorem Mr.S {d u : Value} {ys : List Value} {q X : Nat} {V W : World} {o1 : Option Nat} {o3 : Option Value} {o5 : Option Nat} (h : Mr d u ys q V W o1 o3 o5) (hY : V.heap[X]? = some (.cells #[.int .i64 0, .int .i64 0, .int .i64 0, d, u, .int .i64 0] 55 (0, 0))) : W.heap[X]? = some (.cells #[.int .i64 0, .int .i64 0, .int .i64 0, d, u, .int .i64 0] 55 (0, 0)) :=
  (h.bel.block X (bx_lt hY)).trans hY
theorem Mr.src {d u : Value} {ys : List Value} {q : Nat} {la : Option Addr} {V W : World} {o1 : Option Nat} {o3 : Option Value} {o5 : Option Nat} (h : Mr d u ys q V W o1 o3 o5)
    (hs : q = 0 ∨ ∃ b off, la = some ⟨b, off, none⟩ ∧ b < V.heap.size ∧ ∀ j u, ys[j]? = some u → V.cell? ⟨b, off + j, none⟩ = some u) : q = 0 ∨ ∃ ad, la = some ad ∧ ∀ j u, ys[j]? = some u → W.cell? (ad.add j) = some u := by
  rcases hs with h0 | ⟨b, off, e, hb, hc⟩
  · exact .inl h0
  · refine .inr ⟨⟨b, off, none⟩, e, fun j u hj => ?_⟩
    rw [Go.WideShapes.add_plain]
    rw [h.bel.cell (p := ⟨b, _, none⟩) hb]; exact hc j u hj
noncomputable def rrReg (k : Nat) : Code := ((Try.f7.body.bind (regAt k)).getD .skip)

set_option maxRecDepth 100000 in
set_option maxHeartbeats 8000000 in
theorem rr_reg9 (V : World) (X q lc : Nat) (la : Option Addr) (cv d u : Value) (ys : List Value) (bb : Bool) (res : List Int)
    (HS0 : Hid (V.heap[X]? = some (.cells #[.int .i64 0, .int .i64 0, .int .i64 0, d, u, .int .i64 0] 55 (0, 0)))) (hd : d.oneCell' = true) (hu : u.oneCell' = true)
    (HSR : Hid (q = 0 ∨ ∃ b off, la = some ⟨b, off, none⟩ ∧ b < V.heap.size ∧ ∀ j u, ys[j]? = some u → V.cell? ⟨b, off + j, none⟩ = some u)) (HL : Hid (ys.length = q * 6 ∧ ∀ u, u ∈ ys → u.oneCell' = true)) (hn : q ≤ 1048576)
    (HC : Hid (∀ (W : World) (v : Value), Below V.heap.size V W → W.ownsRow V.heap.size 55 6 v (q + 1) (ys ++ [.int .i64 0, .int .i64 0, .int .i64 0, d, u, .int .i64 0]) → Calls Try.prog 23 #[cv, v] W fun r w' => ∃ v', r = .returned (.tuple #[v', .bool bb]) ∧ OwnInt W.heap.size w' v' res ∧ Below W.heap.size W w'))
    (Q : Exit → Act → World → Prop) (u0 u1 u2 u5 u6 u7 u8 u10 u11 u12 u13 u14 u15 u16 u17 u18 u19 u20 u21 u22 u23 u24 u25 u26 u27 u28 u29 u30 u31 u32 u33 u34 u35 u36 u37 u38 u39 u40 u41 u42 u43 u44 u45 u46 u47 u48 u49 u50 u51 u52 u53 u54 u55 u56 u57 u58 u59 u60 u61 u62 u63 u64 u65 u66 u67 u68 u69 u70 u71 u72 u73 u74 u75 u76 u77 u78 u79 u80 u81 u82 u83 u84 u85 u86 u87 u88 u89 u90 u91 u92 u93 u94 u95 u96 u97 u98 u99 u100 u101 u102 u103 u104 u105 u106 u107 u108 u109 : Value)
    (hQ : Hid (∀ (v68 v69 v70 v71 v72 v73 v74 v75 v76 v77 v78 y : Value) (W : World), OwnInt V.heap.size W y res → Below V.heap.size V W → Q .normal ⟨(u0 :: u1 :: u2 :: cv :: .slice la q lc :: u5 :: u6 :: u7 :: u8 :: .pointer (some ⟨X, 0, none⟩) :: y :: .bool bb :: u12 :: u13 :: u14 :: u15 :: u16 :: u17 :: u18 :: u19 :: u20 :: u21 :: u22 :: u23 :: u24 :: u25 :: u26 :: u27 :: u28 :: u29 :: u30 :: u31 :: u32 :: u33 :: u34 :: u35 :: u36 :: u37 :: u38 :: u39 :: u40 :: u41 :: u42 :: u43 :: u44 :: u45 :: u46 :: u47 :: u48 :: u49 :: u50 :: u51 :: u52 :: u53 :: u54 :: u55 :: u56 :: u57 :: u58 :: u59 :: u60 :: u61 :: u62 :: u63 :: u64 :: u65 :: u66 :: u67 :: v68 :: v69 :: v70 :: v71 :: v72 :: v73 :: v74 :: v75 :: v76 :: v77 :: v78 :: u79 :: u80 :: u81 :: u82 :: u83 :: u84 :: u85 :: u86 :: u87 :: u88 :: u89 :: u90 :: u91 :: u92 :: u93 :: u94 :: u95 :: u96 :: u97 :: u98 :: u99 :: u100 :: u101 :: u102 :: u103 :: u104 :: u105 :: u106 :: u107 :: u108 :: u109 :: []).toArray, []⟩ W)) :
    Code.wp Try.prog (rrReg 9) Q ⟨(u0 :: u1 :: u2 :: cv :: .slice la q lc :: u5 :: u6 :: u7 :: u8 :: .pointer (some ⟨X, 0, none⟩) :: u10 :: u11 :: u12 :: u13 :: u14 :: u15 :: u16 :: u17 :: u18 :: u19 :: u20 :: u21 :: u22 :: u23 :: u24 :: u25 :: u26 :: u27 :: u28 :: u29 :: u30 :: u31 :: u32 :: u33 :: u34 :: u35 :: u36 :: u37 :: u38 :: u39 :: u40 :: u41 :: u42 :: u43 :: u44 :: u45 :: u46 :: u47 :: u48 :: u49 :: u50 :: u51 :: u52 :: u53 :: u54 :: u55 :: u56 :: u57 :: u58 :: u59 :: u60 :: u61 :: u62 :: u63 :: u64 :: u65 :: u66 :: u67 :: u68 :: u69 :: u70 :: u71 :: u72 :: u73 :: u74 :: u75 :: u76 :: u77 :: u78 :: u79 :: u80 :: u81 :: u82 :: u83 :: u84 :: u85 :: u86 :: u87 :: u88 :: u89 :: u90 :: u91 :: u92 :: u93 :: u94 :: u95 :: u96 :: u97 :: u98 :: u99 :: u100 :: u101 :: u102 :: u103 :: u104 :: u105 :: u106 :: u107 :: u108 :: u109 :: []).toArray, []⟩ V := by
  obtain ⟨i0, hi0, hz0, hz1, hz2⟩ := info_parts (P := Try.prog) (e := 55) (z := (.agg #[.int .i64 0, .int .i64 0, .int .i64 0, .slice none 0 0, .slice none 0 0, .int .i64 0])) (size := 6) (bytes := 80) (by kernel_rfl)
  conv => arg 2; whnf
  refine wp_region_noPanic ?_
  have HM : Hid (Mr d u ys q V V.drew none none none) := Mr.start _ _ _ _ V
  refine till_begin (S := fun w' => w'.heap[X]? = some (.cells #[.int .i64 0, .int .i64 0, .int .i64 0, d, u, .int .i64 0] 55 (0, 0))) (z := 12) (by kernel_rfl) ?_
  generalize V.drew = W0 at HM ⊢
  refine till_take (i := 0) (v := (cv)) rfl (by kernel_rfl) (fun _ _ _ h => h) (by rfl) ?_ (HM.out.S HS0.out) ?_
  · (intro w hSw; obtain ⟨⟨s0, s1, s2, s3, s4, s5⟩, _⟩ := ebox6c hSw; go_simp)
  (try simp only [Act.put, List.setIfInBounds_toArray, List.set_cons_zero, List.set_cons_succ])
  refine till_take (i := 2) (v := (.slice la q lc)) rfl (by kernel_rfl) (fun _ _ _ h => h) (by rfl) ?_ (HM.out.S HS0.out) ?_
  · (intro w hSw; obtain ⟨⟨s0, s1, s2, s3, s4, s5⟩, _⟩ := ebox6c hSw; go_simp)
  (try simp only [Act.put, List.setIfInBounds_toArray, List.set_cons_zero, List.set_cons_succ])
  refine till_take (i := 4) (v := (.agg #[.int .i64 0, .int .i64 0, .int .i64 0, d, u, .int .i64 0])) rfl (by kernel_rfl) (fun _ _ _ h => h) (by rfl) ?_ (HM.out.S HS0.out) ?_
  · (intro w hSw; obtain ⟨⟨s0, s1, s2, s3, s4, s5⟩, _⟩ := ebox6c hSw; go_simp)
  (try simp only [Act.put, List.setIfInBounds_toArray, List.set_cons_zero, List.set_cons_succ])
  refine till_two (i := 1) (j := 5) rfl rfl (by kernel_rfl) (fun K hK => ?b1) (fun K hK => ?b2)
  case' b1 =>
   go_simp
   replace HM := (show Hid (Mr _ _ _ _ _ _ _ _ _) from HM.out.mk1)
   refine hK.out _ _ (fun _ => HM.out.S HS0.out) ?_
   (try simp only [Act.put, List.setIfInBounds_toArray, List.set_cons_zero, List.set_cons_succ])
   clear hK
   generalize W0.alloc (.cells #[] 55) = W1 at HM ⊢
   generalize W0.heap.size = g0 at HM ⊢
   refine till_two (i := 3) (j := 5) rfl rfl (by kernel_rfl) (fun K hK => ?b3) (fun K hK => ?b4)
   case' b3 =>
    refine step_append_src (by rfl) _ _ 30 (by rfl) V.heap.size 55 i0 (.agg #[.int .i64 0, .int .i64 0, .int .i64 0, .slice none 0 0, .slice none 0 0, .int .i64 0]) 6 80 Try.underlying30 hi0 hz0 hz1 hz2 rfl (by decide) _ 0 [] (by rfl) (HM.out.p1 _ rfl) la q lc ys (by rfl) HL.out.1 (HM.out.src HSR.out) HL.out.2 (by unfold maxLen; omega) (by omega) HM.out.bel.size ?_
    intro v3 W2 hown hgrow
    replace HM := (show Hid (Mr _ _ _ _ _ _ _ _ _) from HM.out.app3 hown hgrow)
    clear hown hgrow
    refine hK.out _ _ (fun _ => HM.out.S HS0.out) ?_
    (try simp only [Act.put, List.setIfInBounds_toArray, List.set_cons_zero, List.set_cons_succ])
    clear hK
    refine till_step (i := 5) rfl (by kernel_rfl) (fun K hK => ?_)
    go_simp
    replace HM := (show Hid (Mr _ _ _ _ _ _ _ _ _) from HM.out.mk5)
    refine hK.out _ _ (fun _ => HM.out.S HS0.out) ?_
    (try simp only [Act.put, List.setIfInBounds_toArray, List.set_cons_zero, List.set_cons_succ])
    clear hK
    generalize W2.alloc (.cells #[.int .i64 0, .int .i64 0, .int .i64 0, d, u, .int .i64 0] 55) = W3 at HM ⊢
    generalize W2.heap.size = g5 at HM ⊢
   case' b4 =>
    go_simp
    replace HM := (show Hid (Mr _ _ _ _ _ _ _ _ _) from HM.out.mk5)
    refine hK.out _ _ (fun _ => HM.out.S HS0.out) ?_
    (try simp only [Act.put, List.setIfInBounds_toArray, List.set_cons_zero, List.set_cons_succ])
    clear hK
    generalize W1.alloc (.cells #[.int .i64 0, .int .i64 0, .int .i64 0, d, u, .int .i64 0] 55) = W2 at HM ⊢
    generalize W1.heap.size = g5 at HM ⊢
    refine till_step (i := 3) rfl (by kernel_rfl) (fun K hK => ?_)
    refine step_append_src (by rfl) _ _ 30 (by rfl) V.heap.size 55 i0 (.agg #[.int .i64 0, .int .i64 0, .int .i64 0, .slice none 0 0, .slice none 0 0, .int .i64 0]) 6 80 Try.underlying30 hi0 hz0 hz1 hz2 rfl (by decide) _ 0 [] (by rfl) (HM.out.p1 _ rfl) la q lc ys (by rfl) HL.out.1 (HM.out.src HSR.out) HL.out.2 (by unfold maxLen; omega) (by omega) HM.out.bel.size ?_
    intro v3 W3 hown hgrow
    replace HM := (show Hid (Mr _ _ _ _ _ _ _ _ _) from HM.out.app3 hown hgrow)
    clear hown hgrow
    refine hK.out _ _ (fun _ => HM.out.S HS0.out) ?_
    (try simp only [Act.put, List.setIfInBounds_toArray, List.set_cons_zero, List.set_cons_succ])
    clear hK
  case' b2 =>
   go_simp
   replace HM := (show Hid (Mr _ _ _ _ _ _ _ _ _) from HM.out.mk5)
   refine hK.out _ _ (fun _ => HM.out.S HS0.out) ?_
   (try simp only [Act.put, List.setIfInBounds_toArray, List.set_cons_zero, List.set_cons_succ])
   clear hK
   generalize W0.alloc (.cells #[.int .i64 0, .int .i64 0, .int .i64 0, d, u, .int .i64 0] 55) = W1 at HM ⊢
   generalize W0.heap.size = g5 at HM ⊢
   refine till_step (i := 1) rfl (by kernel_rfl) (fun K hK => ?_)
   go_simp
   replace HM := (show Hid (Mr _ _ _ _ _ _ _ _ _) from HM.out.mk1)
   refine hK.out _ _ (fun _ => HM.out.S HS0.out) ?_
   (try simp only [Act.put, List.setIfInBounds_toArray, List.set_cons_zero, List.set_cons_succ])
   clear hK
   generalize W1.alloc (.cells #[] 55) = W2 at HM ⊢
   generalize W1.heap.size = g0 at HM ⊢
   refine till_step (i := 3) rfl (by kernel_rfl) (fun K hK => ?_)
   refine step_append_src (by rfl) _ _ 30 (by rfl) V.heap.size 55 i0 (.agg #[.int .i64 0, .int .i64 0, .int .i64 0, .slice none 0 0, .slice none 0 0, .int .i64 0]) 6 80 Try.underlying30 hi0 hz0 hz1 hz2 rfl (by decide) _ 0 [] (by rfl) (HM.out.p1 _ rfl) la q lc ys (by rfl) HL.out.1 (HM.out.src HSR.out) HL.out.2 (by unfold maxLen; omega) (by omega) HM.out.bel.size ?_
   intro v3 W3 hown hgrow
   replace HM := (show Hid (Mr _ _ _ _ _ _ _ _ _) from HM.out.app3 hown hgrow)
   clear hown hgrow
   refine hK.out _ _ (fun _ => HM.out.S HS0.out) ?_
   (try simp only [Act.put, List.setIfInBounds_toArray, List.set_cons_zero, List.set_cons_succ])
   clear hK
  all_goals
    obtain ⟨hbx, _⟩ := HM.out.p5 _ rfl
    refine till_step (i := 6) rfl (by kernel_rfl) (fun K hK => ?_)
    refine step_append_src (by rfl) _ _ 30 (by rfl) V.heap.size 55 i0 (.agg #[.int .i64 0, .int .i64 0, .int .i64 0, .slice none 0 0, .slice none 0 0, .int .i64 0]) 6 80 Try.underlying30 hi0 hz0 hz1 hz2 rfl (by decide) _ q ys (by rfl) (HM.out.p3 _ rfl) (some ⟨g5, 0, none⟩) 1 1 [.int .i64 0, .int .i64 0, .int .i64 0, d, u, .int .i64 0] (by rfl) rfl (.inr ⟨⟨g5, 0, none⟩, rfl, World.news_of_block hbx⟩) ?_ (by unfold maxLen; omega) (by omega) HM.out.bel.size ?_
    · intro x hx
      simp at hx
      rcases hx with rfl | rfl | rfl | rfl <;> first | rfl | exact hd | exact hu
    intro v6 W9 hown hgrow
    have HB9 : Hid (Below V.heap.size V W9) := HM.out.bel.grown hgrow HM.out.bel.size (fun b e => ((HM.out.p3 _ rfl).lt b e).1)
    have HO9 := (show Hid (World.ownsRow _ _ _ _ _ _ _) from hown)
    clear hown hgrow hbx
    refine hK.out _ _ (fun _ => (HB9.out.block X (bx_lt HS0.out)).trans HS0.out) ?_
    clear hK
    (try simp only [Act.put, List.setIfInBounds_toArray, List.set_cons_zero, List.set_cons_succ])
    refine till_step (i := 7) rfl (by kernel_rfl) (fun K hK => ?_)
    go_simp
    refine (HC.out _ _ HB9.out HO9.out).mono ?_
    rintro r WA ⟨y, rfl, hy, hb⟩
    have HBA : Hid (Below V.heap.size V WA) := HB9.out.trans (hb.mono HB9.out.size)
    have HY : Hid (OwnInt V.heap.size WA y res) := own_base hy HB9.out.size
    clear hy hb
    refine hK.out _ _ (fun _ => (HBA.out.block X (bx_lt HS0.out)).trans HS0.out) ?_
    clear hK
    (try simp only [Act.put, List.setIfInBounds_toArray, List.set_cons_zero, List.set_cons_succ])
    refine till_take (i := 8) (v := (.tuple #[y, .bool bb])) rfl (by kernel_rfl) (fun _ _ _ h => h) (by rfl) ?_ ((HBA.out.block X (bx_lt HS0.out)).trans HS0.out) ?_
    · (intro w hSw; go_simp)
    (try simp only [Act.put, List.setIfInBounds_toArray, List.set_cons_zero, List.set_cons_succ])
    refine till_take (i := 9) (v := (y)) rfl (by kernel_rfl) (fun _ _ _ h => h) (by rfl) ?_ ((HBA.out.block X (bx_lt HS0.out)).trans HS0.out) ?_
    · (intro w hSw; go_simp)
    (try simp only [Act.put, List.setIfInBounds_toArray, List.set_cons_zero, List.set_cons_succ])
    refine till_take (i := 10) (v := (.bool bb)) rfl (by kernel_rfl) (fun _ _ _ h => h) (by rfl) ?_ ((HBA.out.block X (bx_lt HS0.out)).trans HS0.out) ?_
    · (intro w hSw; go_simp)
    (try simp only [Act.put, List.setIfInBounds_toArray, List.set_cons_zero, List.set_cons_succ])
    refine till_take (i := 11) (v := (y)) rfl (by kernel_rfl) (fun _ _ _ h => h) (by rfl) ?_ ((HBA.out.block X (bx_lt HS0.out)).trans HS0.out) ?_
    · (intro w hSw; go_simp)
    (try simp only [Act.put, List.setIfInBounds_toArray, List.set_cons_zero, List.set_cons_succ])
    refine till_step (i := 12) rfl (by kernel_rfl) (fun K hK => ?_)
    go_simp
    refine hK.out _ _ (fun h => absurd rfl h) ?_
    clear hK
    (try simp only [Act.put, List.setIfInBounds_toArray, List.set_cons_zero, List.set_cons_succ])
    refine till_done (by kernel_rfl) ?_ _
    exact hQ.out _ _ _ _ _ _ _ _ _ _ _ _ _ HY.out HBA.out
set_option maxRecDepth 100000 in
set_option maxHeartbeats 8000000 in
theorem rr_reg11 (V : World) (X q lc : Nat) (la : Option Addr) (cv d u : Value) (ys : List Value) (bb : Bool) (res : List Int)
    (HS0 : Hid (V.heap[X]? = some (.cells #[.int .i64 0, .int .i64 0, .int .i64 0, d, u, .int .i64 0] 55 (0, 0)))) (hd : d.oneCell' = true) (hu : u.oneCell' = true)
    (HSR : Hid (q = 0 ∨ ∃ b off, la = some ⟨b, off, none⟩ ∧ b < V.heap.size ∧ ∀ j u, ys[j]? = some u → V.cell? ⟨b, off + j, none⟩ = some u)) (HL : Hid (ys.length = q * 6 ∧ ∀ u, u ∈ ys → u.oneCell' = true)) (hn : q ≤ 1048576)
    (HC : Hid (∀ (W : World) (v : Value), Below V.heap.size V W → W.ownsRow V.heap.size 55 6 v (q + 1) (ys ++ [.int .i64 0, .int .i64 0, .int .i64 0, d, u, .int .i64 0]) → Calls Try.prog 23 #[cv, v] W fun r w' => ∃ v', r = .returned (.tuple #[v', .bool bb]) ∧ OwnInt W.heap.size w' v' res ∧ Below W.heap.size W w'))
    (Q : Exit → Act → World → Prop) (u0 u1 u2 u5 u6 u7 u8 u10 u11 u12 u13 u14 u15 u16 u17 u18 u19 u20 u21 u22 u23 u24 u25 u26 u27 u28 u29 u30 u31 u32 u33 u34 u35 u36 u37 u38 u39 u40 u41 u42 u43 u44 u45 u46 u47 u48 u49 u50 u51 u52 u53 u54 u55 u56 u57 u58 u59 u60 u61 u62 u63 u64 u65 u66 u67 u68 u69 u70 u71 u72 u73 u74 u75 u76 u77 u78 u79 u80 u81 u82 u83 u84 u85 u86 u87 u88 u89 u90 u91 u92 u93 u94 u95 u96 u97 u98 u99 u100 u101 u102 u103 u104 u105 u106 u107 u108 u109 : Value)
    (hQ : Hid (∀ (v88 v89 v90 v91 v92 v93 v94 v95 v96 v97 v98 y : Value) (W : World), OwnInt V.heap.size W y res → Below V.heap.size V W → Q .normal ⟨(u0 :: u1 :: u2 :: cv :: .slice la q lc :: u5 :: u6 :: u7 :: u8 :: .pointer (some ⟨X, 0, none⟩) :: u10 :: u11 :: y :: .bool bb :: u14 :: u15 :: u16 :: u17 :: u18 :: u19 :: u20 :: u21 :: u22 :: u23 :: u24 :: u25 :: u26 :: u27 :: u28 :: u29 :: u30 :: u31 :: u32 :: u33 :: u34 :: u35 :: u36 :: u37 :: u38 :: u39 :: u40 :: u41 :: u42 :: u43 :: u44 :: u45 :: u46 :: u47 :: u48 :: u49 :: u50 :: u51 :: u52 :: u53 :: u54 :: u55 :: u56 :: u57 :: u58 :: u59 :: u60 :: u61 :: u62 :: u63 :: u64 :: u65 :: u66 :: u67 :: u68 :: u69 :: u70 :: u71 :: u72 :: u73 :: u74 :: u75 :: u76 :: u77 :: u78 :: u79 :: u80 :: u81 :: u82 :: u83 :: u84 :: u85 :: u86 :: u87 :: v88 :: v89 :: v90 :: v91 :: v92 :: v93 :: v94 :: v95 :: v96 :: v97 :: v98 :: u99 :: u100 :: u101 :: u102 :: u103 :: u104 :: u105 :: u106 :: u107 :: u108 :: u109 :: []).toArray, []⟩ W)) :
    Code.wp Try.prog (rrReg 11) Q ⟨(u0 :: u1 :: u2 :: cv :: .slice la q lc :: u5 :: u6 :: u7 :: u8 :: .pointer (some ⟨X, 0, none⟩) :: u10 :: u11 :: u12 :: u13 :: u14 :: u15 :: u16 :: u17 :: u18 :: u19 :: u20 :: u21 :: u22 :: u23 :: u24 :: u25 :: u26 :: u27 :: u28 :: u29 :: u30 :: u31 :: u32 :: u33 :: u34 :: u35 :: u36 :: u37 :: u38 :: u39 :: u40 :: u41 :: u42 :: u43 :: u44 :: u45 :: u46 :: u47 :: u48 :: u49 :: u50 :: u51 :: u52 :: u53 :: u54 :: u55 :: u56 :: u57 :: u58 :: u59 :: u60 :: u61 :: u62 :: u63 :: u64 :: u65 :: u66 :: u67 :: u68 :: u69 :: u70 :: u71 :: u72 :: u73 :: u74 :: u75 :: u76 :: u77 :: u78 :: u79 :: u80 :: u81 :: u82 :: u83 :: u84 :: u85 :: u86 :: u87 :: u88 :: u89 :: u90 :: u91 :: u92 :: u93 :: u94 :: u95 :: u96 :: u97 :: u98 :: u99 :: u100 :: u101 :: u102 :: u103 :: u104 :: u105 :: u106 :: u107 :: u108 :: u109 :: []).toArray, []⟩ V := by
  obtain ⟨i0, hi0, hz0, hz1, hz2⟩ := info_parts (P := Try.prog) (e := 55) (z := (.agg #[.int .i64 0, .int .i64 0, .int .i64 0, .slice none 0 0, .slice none 0 0, .int .i64 0])) (size := 6) (bytes := 80) (by kernel_rfl)
  conv => arg 2; whnf
  refine wp_region_noPanic ?_
  have HM : Hid (Mr d u ys q V V.drew none none none) := Mr.start _ _ _ _ V
  refine till_begin (S := fun w' => w'.heap[X]? = some (.cells #[.int .i64 0, .int .i64 0, .int .i64 0, d, u, .int .i64 0] 55 (0, 0))) (z := 12) (by kernel_rfl) ?_
  generalize V.drew = W0 at HM ⊢
  refine till_take (i := 0) (v := (cv)) rfl (by kernel_rfl) (fun _ _ _ h => h) (by rfl) ?_ (HM.out.S HS0.out) ?_
  · (intro w hSw; obtain ⟨⟨s0, s1, s2, s3, s4, s5⟩, _⟩ := ebox6c hSw; go_simp)
  (try simp only [Act.put, List.setIfInBounds_toArray, List.set_cons_zero, List.set_cons_succ])
  refine till_take (i := 2) (v := (.slice la q lc)) rfl (by kernel_rfl) (fun _ _ _ h => h) (by rfl) ?_ (HM.out.S HS0.out) ?_
  · (intro w hSw; obtain ⟨⟨s0, s1, s2, s3, s4, s5⟩, _⟩ := ebox6c hSw; go_simp)
  (try simp only [Act.put, List.setIfInBounds_toArray, List.set_cons_zero, List.set_cons_succ])
  refine till_take (i := 4) (v := (.agg #[.int .i64 0, .int .i64 0, .int .i64 0, d, u, .int .i64 0])) rfl (by kernel_rfl) (fun _ _ _ h => h) (by rfl) ?_ (HM.out.S HS0.out) ?_
  · (intro w hSw; obtain ⟨⟨s0, s1, s2, s3, s4, s5⟩, _⟩ := ebox6c hSw; go_simp)
  (try simp only [Act.put, List.setIfInBounds_toArray, List.set_cons_zero, List.set_cons_succ])
  refine till_two (i := 1) (j := 5) rfl rfl (by kernel_rfl) (fun K hK => ?b5) (fun K hK => ?b6)
  case' b5 =>
   go_simp
   replace HM := (show Hid (Mr _ _ _ _ _ _ _ _ _) from HM.out.mk1)
   refine hK.out _ _ (fun _ => HM.out.S HS0.out) ?_
   (try simp only [Act.put, List.setIfInBounds_toArray, List.set_cons_zero, List.set_cons_succ])
   clear hK
   generalize W0.alloc (.cells #[] 55) = W1 at HM ⊢
   generalize W0.heap.size = g0 at HM ⊢
   refine till_two (i := 3) (j := 5) rfl rfl (by kernel_rfl) (fun K hK => ?b7) (fun K hK => ?b8)
   case' b7 =>
    refine step_append_src (by rfl) _ _ 30 (by rfl) V.heap.size 55 i0 (.agg #[.int .i64 0, .int .i64 0, .int .i64 0, .slice none 0 0, .slice none 0 0, .int .i64 0]) 6 80 Try.underlying30 hi0 hz0 hz1 hz2 rfl (by decide) _ 0 [] (by rfl) (HM.out.p1 _ rfl) la q lc ys (by rfl) HL.out.1 (HM.out.src HSR.out) HL.out.2 (by unfold maxLen; omega) (by omega) HM.out.bel.size ?_
    intro v3 W2 hown hgrow
    replace HM := (show Hid (Mr _ _ _ _ _ _ _ _ _) from HM.out.app3 hown hgrow)
    clear hown hgrow
    refine hK.out _ _ (fun _ => HM.out.S HS0.out) ?_
    (try simp only [Act.put, List.setIfInBounds_toArray, List.set_cons_zero, List.set_cons_succ])
    clear hK
    refine till_step (i := 5) rfl (by kernel_rfl) (fun K hK => ?_)
    go_simp
    replace HM := (show Hid (Mr _ _ _ _ _ _ _ _ _) from HM.out.mk5)
    refine hK.out _ _ (fun _ => HM.out.S HS0.out) ?_
    (try simp only [Act.put, List.setIfInBounds_toArray, List.set_cons_zero, List.set_cons_succ])
    clear hK
    generalize W2.alloc (.cells #[.int .i64 0, .int .i64 0, .int .i64 0, d, u, .int .i64 0] 55) = W3 at HM ⊢
    generalize W2.heap.size = g5 at HM ⊢
   case' b8 =>
    go_simp
    replace HM := (show Hid (Mr _ _ _ _ _ _ _ _ _) from HM.out.mk5)
    refine hK.out _ _ (fun _ => HM.out.S HS0.out) ?_
    (try simp only [Act.put, List.setIfInBounds_toArray, List.set_cons_zero, List.set_cons_succ])
    clear hK
    generalize W1.alloc (.cells #[.int .i64 0, .int .i64 0, .int .i64 0, d, u, .int .i64 0] 55) = W2 at HM ⊢
    generalize W1.heap.size = g5 at HM ⊢
    refine till_step (i := 3) rfl (by kernel_rfl) (fun K hK => ?_)
    refine step_append_src (by rfl) _ _ 30 (by rfl) V.heap.size 55 i0 (.agg #[.int .i64 0, .int .i64 0, .int .i64 0, .slice none 0 0, .slice none 0 0, .int .i64 0]) 6 80 Try.underlying30 hi0 hz0 hz1 hz2 rfl (by decide) _ 0 [] (by rfl) (HM.out.p1 _ rfl) la q lc ys (by rfl) HL.out.1 (HM.out.src HSR.out) HL.out.2 (by unfold maxLen; omega) (by omega) HM.out.bel.size ?_
    intro v3 W3 hown hgrow
    replace HM := (show Hid (Mr _ _ _ _ _ _ _ _ _) from HM.out.app3 hown hgrow)
    clear hown hgrow
    refine hK.out _ _ (fun _ => HM.out.S HS0.out) ?_
    (try simp only [Act.put, List.setIfInBounds_toArray, List.set_cons_zero, List.set_cons_succ])
    clear hK
  case' b6 =>
   go_simp
   replace HM := (show Hid (Mr _ _ _ _ _ _ _ _ _) from HM.out.mk5)
   refine hK.out _ _ (fun _ => HM.out.S HS0.out) ?_
   (try simp only [Act.put, List.setIfInBounds_toArray, List.set_cons_zero, List.set_cons_succ])
   clear hK
   generalize W0.alloc (.cells #[.int .i64 0, .int .i64 0, .int .i64 0, d, u, .int .i64 0] 55) = W1 at HM ⊢
   generalize W0.heap.size = g5 at HM ⊢
   refine till_step (i := 1) rfl (by kernel_rfl) (fun K hK => ?_)
   go_simp
   replace HM := (show Hid (Mr _ _ _ _ _ _ _ _ _) from HM.out.mk1)
   refine hK.out _ _ (fun _ => HM.out.S HS0.out) ?_
   (try simp only [Act.put, List.setIfInBounds_toArray, List.set_cons_zero, List.set_cons_succ])
   clear hK
   generalize W1.alloc (.cells #[] 55) = W2 at HM ⊢
   generalize W1.heap.size = g0 at HM ⊢
   refine till_step (i := 3) rfl (by kernel_rfl) (fun K hK => ?_)
   refine step_append_src (by rfl) _ _ 30 (by rfl) V.heap.size 55 i0 (.agg #[.int .i64 0, .int .i64 0, .int .i64 0, .slice none 0 0, .slice none 0 0, .int .i64 0]) 6 80 Try.underlying30 hi0 hz0 hz1 hz2 rfl (by decide) _ 0 [] (by rfl) (HM.out.p1 _ rfl) la q lc ys (by rfl) HL.out.1 (HM.out.src HSR.out) HL.out.2 (by unfold maxLen; omega) (by omega) HM.out.bel.size ?_
   intro v3 W3 hown hgrow
   replace HM := (show Hid (Mr _ _ _ _ _ _ _ _ _) from HM.out.app3 hown hgrow)
   clear hown hgrow
   refine hK.out _ _ (fun _ => HM.out.S HS0.out) ?_
   (try simp only [Act.put, List.setIfInBounds_toArray, List.set_cons_zero, List.set_cons_succ])
   clear hK
  all_goals
    obtain ⟨hbx, _⟩ := HM.out.p5 _ rfl
    refine till_step (i := 6) rfl (by kernel_rfl) (fun K hK => ?_)
    refine step_append_src (by rfl) _ _ 30 (by rfl) V.heap.size 55 i0 (.agg #[.int .i64 0, .int .i64 0, .int .i64 0, .slice none 0 0, .slice none 0 0, .int .i64 0]) 6 80 Try.underlying30 hi0 hz0 hz1 hz2 rfl (by decide) _ q ys (by rfl) (HM.out.p3 _ rfl) (some ⟨g5, 0, none⟩) 1 1 [.int .i64 0, .int .i64 0, .int .i64 0, d, u, .int .i64 0] (by rfl) rfl (.inr ⟨⟨g5, 0, none⟩, rfl, World.news_of_block hbx⟩) ?_ (by unfold maxLen; omega) (by omega) HM.out.bel.size ?_
    · intro x hx
      simp at hx
      rcases hx with rfl | rfl | rfl | rfl <;> first | rfl | exact hd | exact hu
    intro v6 W9 hown hgrow
    have HB9 : Hid (Below V.heap.size V W9) := HM.out.bel.grown hgrow HM.out.bel.size (fun b e => ((HM.out.p3 _ rfl).lt b e).1)
    have HO9 := (show Hid (World.ownsRow _ _ _ _ _ _ _) from hown)
    clear hown hgrow hbx
    refine hK.out _ _ (fun _ => (HB9.out.block X (bx_lt HS0.out)).trans HS0.out) ?_
    clear hK
    (try simp only [Act.put, List.setIfInBounds_toArray, List.set_cons_zero, List.set_cons_succ])
    refine till_step (i := 7) rfl (by kernel_rfl) (fun K hK => ?_)
    go_simp
    refine (HC.out _ _ HB9.out HO9.out).mono ?_
    rintro r WA ⟨y, rfl, hy, hb⟩
    have HBA : Hid (Below V.heap.size V WA) := HB9.out.trans (hb.mono HB9.out.size)
    have HY : Hid (OwnInt V.heap.size WA y res) := own_base hy HB9.out.size
    clear hy hb
    refine hK.out _ _ (fun _ => (HBA.out.block X (bx_lt HS0.out)).trans HS0.out) ?_
    clear hK
    (try simp only [Act.put, List.setIfInBounds_toArray, List.set_cons_zero, List.set_cons_succ])
    refine till_take (i := 8) (v := (.tuple #[y, .bool bb])) rfl (by kernel_rfl) (fun _ _ _ h => h) (by rfl) ?_ ((HBA.out.block X (bx_lt HS0.out)).trans HS0.out) ?_
    · (intro w hSw; go_simp)
    (try simp only [Act.put, List.setIfInBounds_toArray, List.set_cons_zero, List.set_cons_succ])
    refine till_take (i := 9) (v := (y)) rfl (by kernel_rfl) (fun _ _ _ h => h) (by rfl) ?_ ((HBA.out.block X (bx_lt HS0.out)).trans HS0.out) ?_
    · (intro w hSw; go_simp)
    (try simp only [Act.put, List.setIfInBounds_toArray, List.set_cons_zero, List.set_cons_succ])
    refine till_take (i := 10) (v := (.bool bb)) rfl (by kernel_rfl) (fun _ _ _ h => h) (by rfl) ?_ ((HBA.out.block X (bx_lt HS0.out)).trans HS0.out) ?_
    · (intro w hSw; go_simp)
    (try simp only [Act.put, List.setIfInBounds_toArray, List.set_cons_zero, List.set_cons_succ])
    refine till_take (i := 11) (v := (y)) rfl (by kernel_rfl) (fun _ _ _ h => h) (by rfl) ?_ ((HBA.out.block X (bx_lt HS0.out)).trans HS0.out) ?_
    · (intro w hSw; go_simp)
    (try simp only [Act.put, List.setIfInBounds_toArray, List.set_cons_zero, List.set_cons_succ])
    refine till_step (i := 12) rfl (by kernel_rfl) (fun K hK => ?_)
    go_simp
    refine hK.out _ _ (fun h => absurd rfl h) ?_
    clear hK
    (try simp only [Act.put, List.setIfInBounds_toArray, List.set_cons_zero, List.set_cons_succ])
    refine till_done (by kernel_rfl) ?_ _
    exact hQ.out _ _ _ _ _ _ _ _ _ _ _ _ _ HY.out HBA.out
set_option maxRecDepth 100000 in
set_option maxHeartbeats 8000000 in
theorem rr_reg10 (V : World) (g b off n c : Nat) (u : Value) (x : Int) (HS0 : Hid (V.heap[g + 2]? = some (.cells #[.int .i64 0, .int .i64 0, .int .i64 0, .slice (some ⟨g, 0, none⟩) 1 1, u, .int .i64 0] 55 (0, 0)) ∧ V.heap[g]? = some (.cells #[.int .i64 0, .int .i64 x] 52 (0, 0)) ∧ V.cell? ⟨b, off, none⟩ = some (.int .i64 x))) (hn : 0 < n) (Q : Exit → Act → World → Prop) (u0 u1 u2 u3 u4 u5 u6 u8 u10 u11 u12 u13 u14 u15 u16 u17 u18 u19 u20 u21 u22 u23 u24 u25 u26 u27 u28 u29 u30 u31 u32 u33 u34 u35 u36 u37 u38 u39 u40 u41 u42 u43 u44 u45 u46 u47 u48 u49 u50 u51 u52 u53 u54 u55 u56 u57 u58 u59 u60 u61 u62 u63 u64 u65 u66 u67 u68 u69 u70 u71 u72 u73 u74 u75 u76 u77 u78 u79 u80 u81 u82 u83 u84 u85 u86 u87 u88 u89 u90 u91 u92 u93 u94 u95 u96 u97 u98 u99 u100 u101 u102 u103 u104 u105 u106 u107 u108 u109 : Value)
    (hQ : Hid (∀ (v79 v80 v81 v82 v83 v84 v85 v86 v87 : Value), Q .normal ⟨(u0 :: u1 :: u2 :: u3 :: u4 :: u5 :: u6 :: .slice (some ⟨b, off, none⟩) n c :: u8 :: .pointer (some ⟨g + 2, 0, none⟩) :: u10 :: u11 :: u12 :: u13 :: u14 :: u15 :: u16 :: u17 :: u18 :: u19 :: u20 :: u21 :: u22 :: u23 :: u24 :: u25 :: u26 :: u27 :: u28 :: u29 :: u30 :: u31 :: u32 :: u33 :: u34 :: u35 :: u36 :: u37 :: u38 :: u39 :: u40 :: u41 :: u42 :: u43 :: u44 :: u45 :: u46 :: u47 :: u48 :: u49 :: u50 :: u51 :: u52 :: u53 :: u54 :: u55 :: u56 :: u57 :: u58 :: u59 :: u60 :: u61 :: u62 :: u63 :: u64 :: u65 :: u66 :: u67 :: u68 :: u69 :: u70 :: u71 :: u72 :: u73 :: u74 :: u75 :: u76 :: u77 :: u78 :: v79 :: v80 :: v81 :: v82 :: v83 :: v84 :: v85 :: v86 :: v87 :: u88 :: u89 :: u90 :: u91 :: u92 :: u93 :: u94 :: u95 :: u96 :: u97 :: u98 :: u99 :: u100 :: u101 :: u102 :: u103 :: u104 :: u105 :: u106 :: u107 :: u108 :: u109 :: []).toArray, []⟩ (V.drew.setCell ⟨g, 1, none⟩ (.int .i64 ((IntKind.i64.wrap (x + 1)).tmod 100))))) :
    Code.wp Try.prog (rrReg 10) Q ⟨(u0 :: u1 :: u2 :: u3 :: u4 :: u5 :: u6 :: .slice (some ⟨b, off, none⟩) n c :: u8 :: .pointer (some ⟨g + 2, 0, none⟩) :: u10 :: u11 :: u12 :: u13 :: u14 :: u15 :: u16 :: u17 :: u18 :: u19 :: u20 :: u21 :: u22 :: u23 :: u24 :: u25 :: u26 :: u27 :: u28 :: u29 :: u30 :: u31 :: u32 :: u33 :: u34 :: u35 :: u36 :: u37 :: u38 :: u39 :: u40 :: u41 :: u42 :: u43 :: u44 :: u45 :: u46 :: u47 :: u48 :: u49 :: u50 :: u51 :: u52 :: u53 :: u54 :: u55 :: u56 :: u57 :: u58 :: u59 :: u60 :: u61 :: u62 :: u63 :: u64 :: u65 :: u66 :: u67 :: u68 :: u69 :: u70 :: u71 :: u72 :: u73 :: u74 :: u75 :: u76 :: u77 :: u78 :: u79 :: u80 :: u81 :: u82 :: u83 :: u84 :: u85 :: u86 :: u87 :: u88 :: u89 :: u90 :: u91 :: u92 :: u93 :: u94 :: u95 :: u96 :: u97 :: u98 :: u99 :: u100 :: u101 :: u102 :: u103 :: u104 :: u105 :: u106 :: u107 :: u108 :: u109 :: []).toArray, []⟩ V := by
  conv => arg 2; whnf
  refine wp_region_noPanic ?_
  refine till_begin (S := fun w' => w'.heap[g + 2]? = some (.cells #[.int .i64 0, .int .i64 0, .int .i64 0, .slice (some ⟨g, 0, none⟩) 1 1, u, .int .i64 0] 55 (0, 0)) ∧ w'.heap[g]? = some (.cells #[.int .i64 0, .int .i64 x] 52 (0, 0)) ∧ w'.cell? ⟨b, off, none⟩ = some (.int .i64 x)) (z := 9) (by kernel_rfl) ?_
  have HT : Hid (V.drew.heap[g + 2]? = some (.cells #[.int .i64 0, .int .i64 0, .int .i64 0, .slice (some ⟨g, 0, none⟩) 1 1, u, .int .i64 0] 55 (0, 0)) ∧ V.drew.heap[g]? = some (.cells #[.int .i64 0, .int .i64 x] 52 (0, 0)) ∧ V.drew.cell? ⟨b, off, none⟩ = some (.int .i64 x)) := HS0.out
  refine till_take (i := 0) (v := (.pointer (some ⟨g + 2, 3, none⟩))) rfl (by kernel_rfl) (fun _ _ _ h => h) (by rfl) ?_ HT.out ?_
  · (intro w hSw; obtain ⟨s0, s1, s2⟩ := hSw; obtain ⟨⟨_, _, _, q3, _, _⟩, _⟩ := ebox6c s0; go_simp)
  (try simp only [Act.put, List.setIfInBounds_toArray, List.set_cons_zero, List.set_cons_succ])
  refine till_take (i := 1) (v := (.slice (some ⟨g, 0, none⟩) 1 1)) rfl (by kernel_rfl) (fun _ _ _ h => h) (by rfl) ?_ HT.out ?_
  · (intro w hSw; obtain ⟨s0, s1, s2⟩ := hSw; obtain ⟨⟨_, _, _, q3, _, _⟩, _⟩ := ebox6c s0; go_simp)
  (try simp only [Act.put, List.setIfInBounds_toArray, List.set_cons_zero, List.set_cons_succ])
  refine till_take (i := 2) (v := (.slice (some ⟨b, off, none⟩) n c)) rfl (by kernel_rfl) (fun _ _ _ h => h) (by rfl) ?_ HT.out ?_
  · (intro w hSw; obtain ⟨s0, s1, s2⟩ := hSw; obtain ⟨⟨_, _, _, q3, _, _⟩, _⟩ := ebox6c s0; go_simp)
  (try simp only [Act.put, List.setIfInBounds_toArray, List.set_cons_zero, List.set_cons_succ])
  refine till_take (i := 3) (v := (.pointer (some ⟨b, off, none⟩))) rfl (by kernel_rfl) (fun _ _ _ h => h) (by rfl) ?_ HT.out ?_
  · (intro w hSw; obtain ⟨s0, s1, s2⟩ := hSw; obtain ⟨⟨_, _, _, q3, _, _⟩, _⟩ := ebox6c s0; go_simp)
  (try simp only [Act.put, List.setIfInBounds_toArray, List.set_cons_zero, List.set_cons_succ])
  refine till_take (i := 4) (v := (.int .i64 x)) rfl (by kernel_rfl) (fun _ _ _ h => h) (by rfl) ?_ HT.out ?_
  · (intro w hSw; obtain ⟨s0, s1, s2⟩ := hSw; obtain ⟨⟨_, _, _, q3, _, _⟩, _⟩ := ebox6c s0; go_simp)
  (try simp only [Act.put, List.setIfInBounds_toArray, List.set_cons_zero, List.set_cons_succ])
  refine till_take (i := 5) (v := (.int .i64 (IntKind.i64.wrap (x + 1)))) rfl (by kernel_rfl) (fun _ _ _ h => h) (by rfl) ?_ HT.out ?_
  · (intro w hSw; obtain ⟨s0, s1, s2⟩ := hSw; obtain ⟨⟨_, _, _, q3, _, _⟩, _⟩ := ebox6c s0; go_simp)
  (try simp only [Act.put, List.setIfInBounds_toArray, List.set_cons_zero, List.set_cons_succ])
  refine till_take (i := 6) (v := (.int .i64 ((IntKind.i64.wrap (x + 1)).tmod 100))) rfl (by kernel_rfl) (fun _ _ _ h => h) (by rfl) ?_ HT.out ?_
  · (intro w hSw; obtain ⟨s0, s1, s2⟩ := hSw; obtain ⟨⟨_, _, _, q3, _, _⟩, _⟩ := ebox6c s0; go_simp)
  (try simp only [Act.put, List.setIfInBounds_toArray, List.set_cons_zero, List.set_cons_succ])
  refine till_take (i := 7) (v := (.pointer (some ⟨g, 0, none⟩))) rfl (by kernel_rfl) (fun _ _ _ h => h) (by rfl) ?_ HT.out ?_
  · (intro w hSw; obtain ⟨s0, s1, s2⟩ := hSw; obtain ⟨⟨_, _, _, q3, _, _⟩, _⟩ := ebox6c s0; go_simp)
  (try simp only [Act.put, List.setIfInBounds_toArray, List.set_cons_zero, List.set_cons_succ])
  refine till_take (i := 8) (v := (.pointer (some ⟨g, 1, none⟩))) rfl (by kernel_rfl) (fun _ _ _ h => h) (by rfl) ?_ HT.out ?_
  · (intro w hSw; obtain ⟨s0, s1, s2⟩ := hSw; obtain ⟨⟨_, _, _, q3, _, _⟩, _⟩ := ebox6c s0; go_simp)
  (try simp only [Act.put, List.setIfInBounds_toArray, List.set_cons_zero, List.set_cons_succ])
  have c1 : V.drew.cell? ⟨g, 1, none⟩ = some (.int .i64 x) := by rw [cell_of_row V.drew g 1 _ _ (0, 0) HT.out.2.1]; rfl
  have f1 := frozen_of_row V.drew g 1 _ _ HT.out.2.1
  have l1 := bx_lt HT.out.2.1
  generalize V.drew = W0 at c1 f1 l1 hQ ⊢
  refine till_step (i := 9) rfl (by kernel_rfl) (fun K hK => ?_)
  go_simp
  refine hK.out _ _ (fun h => absurd rfl h) ?_
  clear hK
  refine till_done (by kernel_rfl) ?_ _
  exact hQ.out _ _ _ _ _ _ _ _ _

end Go.Proofs.Ytgbgjljflgbcaaa
