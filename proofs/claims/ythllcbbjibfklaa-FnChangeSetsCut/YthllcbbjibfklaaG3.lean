/-
  Drawing deeds to be asked what they read and store to; what holds of it, in plain words.
-/
import Derived.Test.YthllcbbjibfklaaG2
namespace Go.Proofs.Ythllcbbjibfklaa
open Go.RowKit
set_option linter.unusedSimpArgs false
set_option linter.unusedVariables false

theorem own_srcG {w : World} {B : Nat} {e : TypeId} {size : Nat} {a : Option Addr} {n cap : Nat} {xs : List Value} (h : w.ownsRow B e size (.slice a n cap) n xs) : n = 0 ∨ ∃ ad, a = some ad ∧ ∀ j u, xs[j]? = some u → w.cell? (ad.add j) = some u := by
  rcases h.2 with ⟨e1, h0⟩ | ⟨g, cap', cur, e1, _⟩
  · exact .inl h0
  · injection e1 with e2
    subst e2
    exact .inr ⟨_, rfl, World.ownsRow.cells h rfl⟩
theorem de_oneG (ds : List De) : ∀ u ∈ deCells ds, u.oneCell' = true := fun u hu => by
  unfold deCells at hu
  obtain ⟨d, _, h⟩ := List.mem_flatMap.1 hu
  simp at h
  rcases h with rfl | rfl | rfl <;> rfl

set_option maxHeartbeats 2000000 in
theorem drawChangeReads_any (a : Option Addr) (n cap : Nat) (w : World) (h : Bytes w a n) (hc : n ≤ cap) (hn : cap ≤ 9223372036854775807) :
    Calls Try.prog 16 #[.slice a n cap] w fun e w' => ∃ (ad : Option Addr) (k : Nat) (ds : List De), e = .returned (.slice ad ds.length k) ∧ OwnDe w.heap.size w' (.slice ad ds.length k) ds ∧ ds.length ≤ 10 ∧ Below w.heap.size w w' := by
  obtain ⟨i0, hi, hz0, hz1, hz2⟩ := info_parts Try.info_deed
  have HBy := (show Hid (Bytes _ _ _) from h)
  clear h
  go_enter Try.func16, Try.ntmps16
  go_wp2_with fail
  refine (l6Open_any a n cap _ HBy.out hc hn).mono ?_
  rintro e w1 ⟨rfl, hR1, hb1⟩
  have HF1 : Hid (Fr w.heap.size w.heap.size w w1) := Fr.of_below hb1
  clear hb1 HBy
  go_wp2_with fail
  refine (l71Deeds_any (w.heap.size + 1) w.heap.size _ 3 _ hR1 (by omega) (by omega) (by omega)).mono ?_
  rintro e w3 ⟨dv, ds, p3, rfl, hd3, hl3, hp3, hp3', hR3, hF3⟩
  have hB1 := hR1.le
  have HF3 : Hid (Fr w.heap.size w.heap.size w w3) := HF1.out.trans (hF3.mono HF1.out.size)
  have HD3 : Hid (OwnDe (w.heap.size + 1) w3 dv ds) := own_base hd3 hB1
  clear hF3 hR1 HF1 hd3
  obtain ⟨ad, cd, rfl, _⟩ := own_shape HD3.out
  go_wp2_with fail
  refine (l71Deeds_any (w.heap.size + 1) w.heap.size p3 3 _ hR3 (by omega) (by omega) (by omega)).mono ?_
  rintro e w4 ⟨ev, es, p4, rfl, he4, hl4, hp4, hp4', hR4, hF4⟩
  have HF4 : Hid (Fr w.heap.size w.heap.size w w4) := HF3.out.trans (hF4.mono HF3.out.size)
  have HD4 : Hid (OwnDe (w.heap.size + 1) w4 (.slice ad ds.length cd) ds) := own_fr HD3.out hF4 (by omega)
  have hle4 := hR4.le
  have HE4 := (show Hid (OwnDe _ _ _ _) from he4)
  clear hF4 hR3 HF3 HD3 he4 hR4
  obtain ⟨ae, ce, rfl, _⟩ := own_shape HE4.out
  go_wp2_with (at_builtin; refine wpList_append_src rfl _ _ 24 rfl (w.heap.size + 1) 35 i0 (.agg #[.int .i64 0, .int .i64 0, .int .i64 0]) 3 24 Try.underlying24 hi hz0 hz1 hz2 rfl (by decide) _ _ _ rfl HD4.out _ _ _ (deCells es) rfl HE4.out.1 ?b1 (de_oneG es) ?b3 ?b4 ?b5 ?_)
  case b1 => exact own_srcG HE4.out
  case b3 => unfold maxLen; omega
  case b4 => omega
  case b5 => exact hle4
  intro v' w8 hown' hgrow
  have HD8 : Hid (OwnDe (w.heap.size + 1) w8 v' (ds ++ es)) := by
    unfold Hid OwnDe
    rw [show deCells (ds ++ es) = deCells ds ++ deCells es by simp [deCells], List.length_append]; exact hown'
  have hge : ∀ g, (Value.slice ad ds.length cd).ownBlock = some g → w.heap.size + 1 ≤ g := fun g hg => (HD4.out.lt g hg).1
  have HF8 : Hid (Fr w.heap.size w.heap.size w w8) := HF4.out.grown hgrow HF4.out.size (fun g hg => by have := hge g hg; omega)
  clear hown' hgrow HD4 HF4 hge HE4
  obtain ⟨av, kv, rfl, _⟩ := own_shape HD8.out
  go_wp2_with fail
  go_ret
  exact ⟨av, kv, ds ++ es, rfl, own_base HD8.out (by omega), by simp; omega, HF8.out.below (Nat.le_refl _)⟩

set_option maxHeartbeats 400000 in
theorem drawChangeWrites_any (a : Option Addr) (n cap : Nat) (w : World) (h : Bytes w a n) (hc : n ≤ cap) (hn : cap ≤ 9223372036854775807) :
    Calls Try.prog 20 #[.slice a n cap] w fun e w' => ∃ (ad : Option Addr) (k : Nat) (ds : List De), e = .returned (.slice ad ds.length k) ∧ OwnDe w.heap.size w' (.slice ad ds.length k) ds ∧ ds.length ≤ 10 ∧ Below w.heap.size w w' := by
  have HBy := (show Hid (Bytes _ _ _) from h)
  clear h
  go_enter Try.func20, Try.ntmps20
  go_wp2_with fail
  refine (drawChangeReads_any a n cap _ HBy.out hc hn).mono ?_
  rintro e w1 ⟨ad, k, ds, rfl, ho, hl, hb⟩
  have HO := (show Hid (OwnDe _ _ _ _) from ho)
  have HB := (show Hid (Below _ _ _) from hb)
  clear ho hb
  go_wp2_with fail
  go_ret
  exact ⟨ad, k, ds, rfl, HO.out, hl, HB.out⟩


/-! ### Plain -/
theorem mem_srt (xs : List Int) (n : Int) : n ∈ srt xs ↔ n ∈ xs ∧ 0 ≤ n ∧ n ≤ 2 := by
  unfold srt srtN
  simp only [List.mem_filter, List.mem_map, List.mem_range, hasB, decide_eq_true_eq]
  constructor
  · rintro ⟨⟨i, hi, rfl⟩, h⟩; exact ⟨h, by omega, by omega⟩
  · rintro ⟨h, h0, h2⟩; exact ⟨⟨n.toNat, by omega, by omega⟩, h⟩
theorem srt_up (xs : List Int) : upB (srt xs) = true := by
  have hp : (srt xs).Pairwise (· < ·) := by
    unfold srt srtN
    apply List.Pairwise.filter
    rw [List.pairwise_map]
    exact List.Pairwise.imp (fun h => by omega) List.pairwise_lt_range
  unfold upB
  rw [List.all_eq_true]
  intro i hi
  have := List.mem_range.1 hi
  rw [nth_eq 0 _ i (by omega), nth_eq 0 _ (i + 1) (by omega)]
  simpa using List.pairwise_iff_getElem.1 hp i (i + 1) (by omega) (by omega) (by omega)
/-- what a change stores to, what it reads: in words of its deeds -/
theorem raw_two (ds : List De) : ∀ n, n ∈ (raw ds).2 ↔ ∃ d, d ∈ ds ∧ d.k = 2 ∧ d.a = n := by
  suffices ∀ (l : List De) (s : List Int × List Int) (n : Int), n ∈ (l.foldl touch s).2 ↔ n ∈ s.2 ∨ ∃ d, d ∈ l ∧ d.k = 2 ∧ d.a = n by
    intro n; have := this ds ([], []) n; simpa [raw] using this
  intro l
  induction l with
  | nil => intro s n; simp
  | cons d l ih =>
    intro s n
    rw [List.foldl_cons, ih, touch_snd]
    by_cases h : d.k = 2
    · rw [if_pos h]
      simp only [List.mem_append, List.mem_cons, List.not_mem_nil, or_false]
      constructor
      · rintro ((h1 | rfl) | ⟨e, h1, h2⟩)
        · exact .inl h1
        · exact .inr ⟨d, .inl rfl, h, rfl⟩
        · exact .inr ⟨e, .inr h1, h2⟩
      · rintro (h1 | ⟨e, rfl | h1, h2, h3⟩)
        · exact .inl (.inl h1)
        · exact .inl (.inr h3.symm)
        · exact .inr ⟨e, h1, h2, h3⟩
    · rw [if_neg h]
      simp only [List.mem_cons]
      constructor
      · rintro (h1 | ⟨e, h1, h2⟩)
        · exact .inl h1
        · exact .inr ⟨e, .inr h1, h2⟩
      · rintro (h1 | ⟨e, rfl | h1, h2, h3⟩)
        · exact .inl h1
        · exact absurd h2 h
        · exact .inr ⟨e, h1, h2, h3⟩
theorem touch_fst_mono (s : List Int × List Int) (d : De) (n : Int) (h : n ∈ s.1) : n ∈ (touch s d).1 := by
  unfold touch
  split
  · split
    · exact h
    · exact List.mem_append.2 (.inl h)
  · split <;> exact h
theorem fold_fst_mono (l : List De) : ∀ (s : List Int × List Int) (n : Int), n ∈ s.1 → n ∈ (l.foldl touch s).1 := by
  induction l with
  | nil => intro s n h; exact h
  | cons d l ih => intro s n h; exact ih _ n (touch_fst_mono s d n h)
theorem raw_append (l1 l2 : List De) : raw (l1 ++ l2) = l2.foldl touch (raw l1) := by simp [raw]
/-- a cell that is loaded is read, or is stored to -/
theorem load_in {ds : List De} {d : De} (hd : d ∈ ds) (h1 : d.k = 1) : d.b ∈ (raw ds).1 ∨ d.b ∈ (raw ds).2 := by
  obtain ⟨l1, l2, rfl⟩ := List.append_of_mem hd
  by_cases h : d.b ∈ (raw l1).2
  · right
    rw [raw_two] at h ⊢
    obtain ⟨e, he, h2⟩ := h
    exact ⟨e, List.mem_append.2 (.inl he), h2⟩
  · left
    rw [raw_append, List.foldl_cons]
    refine fold_fst_mono l2 _ _ ?_
    have hb : hasB (raw l1).2 d.b = false := by unfold hasB; simpa using h
    unfold touch
    rw [if_pos h1, hb]
    simp

end Go.Proofs.Ythllcbbjibfklaa
