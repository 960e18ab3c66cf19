/-
  A program in form is guessed from its text.
-/
import Derived.Test.YtliakmgombpjpaaGreatDoorR0
namespace Go.Proofs.YtliakmgombpjpaaGreatDoor
open Go.RowKit
set_option linter.unusedSimpArgs false
set_option linter.unusedVariables false

theorem trim_one (t : List UInt8) : Lib.trimSuffix (t ++ [10]) [10] = t := by
  have h : Lib.hasSuffix (t ++ [10]) [10] = true := by
    unfold Lib.hasSuffix
    rw [List.isSuffixOf_iff_suffix]
    exact List.suffix_append t [10]
  unfold Lib.trimSuffix
  rw [if_pos h]
  simp
theorem flat_map {α : Type} (c : UInt8) (f : α → List UInt8) (l : List α) : (l.flatMap fun x => [c] ++ f x) = (l.map f).flatMap fun x => c :: x := by
  induction l with
  | nil => rfl
  | cons x l ih => rw [List.flatMap_cons, List.map_cons, List.flatMap_cons, ih]; rfl
theorem nuT_words (a : List UInt8) (ks : List Int) (ha : (32 : UInt8) ∉ a) (h : ∀ k, k ∈ ks → FitN k) : splC 32 (a ++ nuT ks) = a :: ks.map decT := by
  unfold nuT
  rw [flat_map 32 decT ks]
  refine splC_seps _ a ha (fun x hx => ?_)
  obtain ⟨k, hk, rfl⟩ := List.mem_map.1 hx
  exact (plain_not (dec_fit (h k hk)).2).1
theorem dsT_words (a : List UInt8) (ds : List De) (ha : (32 : UInt8) ∉ a) (h : ∀ d, d ∈ ds → FitD d) : splC 32 (a ++ dsT ds) = a :: ds.map deT := by
  unfold dsT
  rw [flat_map 32 deT ds]
  refine splC_seps _ a ha (fun x hx => ?_)
  obtain ⟨d, hd, rfl⟩ := List.mem_map.1 hx
  exact (plain_not (fitD_parts (h d hd)).2).1
theorem map_back {α : Type} (f : α → List UInt8) (g : List UInt8 → α) (l : List α) (h : ∀ x, x ∈ l → g (f x) = x) : (l.map f).map g = l := by
  rw [List.map_map]
  conv => rhs; rw [← List.map_id l]
  exact List.map_congr_left (fun x hx => h x hx)
/-- an act that is guessed back -/
structure FitG (x : Ac) : Prop where
  a : FitA x
  d : ∀ d, d ∈ x.ds → deG (deT d) = d
theorem acG_of {x : Ac} (h : FitG x) : (splC 32 (acT x)).headD [] ≠ CELLS ∧ (splC 32 (acT x)).headD [] ≠ BW ∧ acG ((splC 32 (acT x)).headD []) (splC 32 (acT x)).tail = x := by
  obtain ⟨k, ds, ks, r⟩ := x
  rcases h.a with ⟨h1, h2, h3, h4⟩ | ⟨h1, h2, h3, h4⟩ | ⟨h1, h2, h3, h4⟩ | ⟨h1, h2, h3, h4⟩
  · dsimp only at h1 h2 h3 h4
    subst h1 h2 h3
    rw [acT_1 rfl, dsT_words _ _ (by decide) h4]
    refine ⟨(fun (e : _ = CELLS) => by simp [CELLS, FAILIF] at e), (fun (e : _ = BW) => by simp [BW, FAILIF] at e), ?_⟩
    have hm := map_back deT deG ds h.d
    show acG TRY (ds.map deT) = _
    unfold acG
    rw [if_pos rfl, hm]
  · dsimp only at h1 h2 h3 h4
    subst h1 h2 h3
    rw [acT_2 rfl, nuT_words _ _ (by decide) h4]
    refine ⟨(fun (e : _ = CELLS) => by simp [CELLS, FAILIF] at e), (fun (e : _ = BW) => by simp [BW, FAILIF] at e), ?_⟩
    have hm := map_back decT nuG ks (fun k hk => decG (h4 k hk))
    show acG FORK (ks.map decT) = _
    unfold acG
    rw [if_neg (by decide), if_pos rfl, hm]
  · dsimp only at h1 h2 h3 h4
    subst h1 h2 h3 h4
    rw [acT_3 rfl]
    exact ⟨by decide, by decide, rfl⟩
  · dsimp only at h1 h2 h3 h4
    subst h1 h2 h3
    rw [acT_4 rfl]
    have hr := reT_plain h4
    have e : splC 32 (([102, 97, 105, 108, 105, 102, 32] : List UInt8) ++ reT r) = [FAILIF, reT r] := by
      have h32 : (32 : UInt8) ∉ reT r := by
        obtain ⟨n, rfl, hn⟩ := three h4
        match n, hn with
        | 0, _ => decide
        | 1, _ => decide
        | 2, _ => decide
      have := splC_cons (c := 32) (a := FAILIF) (reT r) (by decide)
      rw [splC_none h32] at this
      exact this
    rw [e]
    refine ⟨(fun (e : _ = CELLS) => by simp [CELLS, FAILIF] at e), (fun (e : _ = BW) => by simp [BW, FAILIF] at e), ?_⟩
    show acG FAILIF [reT r] = _
    unfold acG
    rw [if_neg (by decide), if_neg (by decide), if_neg (by decide), if_pos rfl]
    have hi : (([32] : List UInt8).intercalate [reT r]) = reT r := by simp [List.intercalate]
    rw [hi, reG h4]
theorem lastG_of (done : List (List Ac)) (ys : List Ac) (a : Ac) : lastG (done ++ [ys]) a = done ++ [ys ++ [a]] := by
  unfold lastG
  simp
theorem fold_acts (cells : List Int) (done : List (List Ac)) : ∀ (acts ys : List Ac), (∀ a, a ∈ acts → FitG a) → (acts.map acT).foldl liG ⟨cells, done ++ [ys]⟩ = ⟨cells, done ++ [ys ++ acts]⟩ := by
  intro acts
  induction acts with
  | nil => intro ys _; simp
  | cons a acts ih =>
    intro ys h
    obtain ⟨h1, h2, h3⟩ := acG_of (h a (List.mem_cons_self ..))
    rw [List.map_cons, List.foldl_cons]
    have e : liG ⟨cells, done ++ [ys]⟩ (acT a) = ⟨cells, done ++ [ys ++ [a]]⟩ := by
      unfold liG
      rw [if_neg h1, if_neg h2, if_neg (by simp), h3, lastG_of]
    rw [e, ih _ (fun b hb => h b (List.mem_cons_of_mem _ hb))]
    simp
theorem fold_bodies (cells : List Int) : ∀ (bodies done : List (List Ac)), (∀ b, b ∈ bodies → ∀ a, a ∈ b → FitG a) → (lines bodies).foldl liG ⟨cells, done⟩ = ⟨cells, done ++ bodies⟩ := by
  intro bodies
  induction bodies with
  | nil => intro done _; simp [lines]
  | cons acts bodies ih =>
    intro done h
    have e0 : lines (acts :: bodies) = BW :: (acts.map acT ++ lines bodies) := by simp [lines]
    have e1 : liG ⟨cells, done⟩ BW = ⟨cells, done ++ [[]]⟩ := by
      unfold liG
      rw [if_neg (by decide), if_pos (by decide)]
    rw [e0, List.foldl_cons, e1, List.foldl_append, fold_acts cells done acts [] (h acts (List.mem_cons_self ..)), ih _ (fun b hb => h b (List.mem_cons_of_mem _ hb))]
    simp
theorem ok_fitG {p : Pr} (h : okB p = true) : ∀ b, b ∈ p.bodies → ∀ a, a ∈ b → FitG a := fun b hb a ha => by
  refine ⟨(ok_fit h).2 b hb a ha, fun d hd => ?_⟩
  obtain ⟨h3, h4, _, hbo⟩ := ok_cells h
  obtain ⟨i, hi, hn⟩ := mem_nth [] hb
  have hB := hbo i hi
  have hac := (boB_acts hB).2 a (by rw [hn]; exact ha)
  unfold acB at hac
  split at hac
  · simp only [Bool.and_eq_true] at hac
    have hds := hac.2
    unfold dsB at hds
    simp only [Bool.and_eq_true, List.all_eq_true] at hds
    exact deG_of (hds.2 d hd) (by omega)
  · exfalso
    have hz : a.ds.length = 0 := by
      split at hac
      · simp only [Bool.and_eq_true, decide_eq_true_eq] at hac; exact hac.1.1
      · split at hac
        · simp only [Bool.and_eq_true, decide_eq_true_eq] at hac; exact hac.1.1
        · split at hac
          · simp only [Bool.and_eq_true, decide_eq_true_eq] at hac; exact hac.1.1
          · cases hac
    rw [List.eq_nil_of_length_eq_zero hz] at hd
    cases hd
/-- a program in form is guessed from its text -/
theorem prG_prT {p : Pr} (h : okB p = true) : prG (prT p) = p := by
  obtain ⟨hn, hf⟩ := ok_fit h
  have hg := ok_fitG h
  have e : prT p = ((CELLS ++ nuT p.cells) ++ (lines p.bodies).flatMap fun x => 10 :: x) ++ [10] := by
    have h1 := sep_term 10 (fun x : List UInt8 => x) (lines p.bodies)
    unfold prT
    rw [bsT_lines]
    have h2 : ((lines p.bodies).flatMap fun x => 10 :: x) ++ [10] = 10 :: (lines p.bodies).flatMap fun x => x ++ [10] := by simpa using h1
    rw [List.append_assoc (CELLS ++ nuT p.cells), h2]
    simp [CELLS]
  have hA : (10 : UInt8) ∉ CELLS ++ nuT p.cells := by
    intro hm
    rcases List.mem_append.1 hm with h1 | h1
    · revert h1; decide
    · exact nuT_plain p.cells hn h1
  unfold prG
  rw [e, trim_one, splC_seps _ _ hA (lines_plain hf), List.foldl_cons]
  have e1 : liG ⟨[], []⟩ (CELLS ++ nuT p.cells) = ⟨p.cells, []⟩ := by
    unfold liG
    rw [nuT_words CELLS p.cells (by decide) hn, if_pos rfl]
    show Pr.mk ((p.cells.map decT).map nuG) [] = _
    rw [map_back decT nuG p.cells (fun k hk => decG (hn k hk))]
  rw [e1, fold_bodies p.cells p.bodies [] hg]
  simp

end Go.Proofs.YtliakmgombpjpaaGreatDoor
