/-
  What the model reads out of a text, in plain words; it is what the program reads. No walk.
-/
import Derived.Test.YtliakmgombpjpaaGreatDoorR10
namespace Go.Proofs.YtliakmgombpjpaaGreatDoor
open Go.RowKit
set_option linter.unusedSimpArgs false
set_option linter.unusedVariables false

def bt (s : List UInt8) (i : Nat) : Int := ((s.getD i 0).toNat : Int)
def nuS : Int → List UInt8 → Int
  | n, [] => n
  | n, c :: cs => if n < 10000 then nuS (if 48 ≤ (c.toNat : Int) ∧ (c.toNat : Int) ≤ 57 then n * 10 + ((c.toNat : Int) - 48) else n) cs else n
def deS (s : List UInt8) : De :=
  if s.length = 2 ∧ bt s 1 = 63 then ⟨5, bt s 0 - 114, 0⟩
  else if s.length = 3 ∧ bt s 1 = 43 then ⟨4, bt s 0 - 114, bt s 2 - 114⟩
  else if s.length < 3 then ⟨0, 0, 0⟩
  else if bt s 0 ≤ 90 then ⟨2, bt s 0 - 65, bt s 2 - 114⟩
  else if 65 ≤ bt s 2 ∧ bt s 2 ≤ 90 then ⟨1, bt s 0 - 114, bt s 2 - 65⟩
  else ⟨3, bt s 0 - 114, nuS 0 (s.drop 2)⟩
def kiS (n : List UInt8) : Int := if n = TRY then 1 else if n = FORK then 2 else if n = FAIL then 3 else if n = FAILIF then 4 else 0
def rgS (r : Int) (x : List UInt8) : Int := if x.length = 1 then bt x 0 - 114 else r
/-- one word more -/
def woS (a : Ac) (x : List UInt8) : Ac :=
  if a.k = 1 then ⟨a.k, a.ds ++ [deS x], a.ks, a.r⟩ else if a.k = 2 then ⟨a.k, a.ds, a.ks ++ [nuS 0 x], a.r⟩ else if a.k = 4 then ⟨a.k, a.ds, a.ks, rgS a.r x⟩ else a
def acS (ws : List (List UInt8)) : Ac := ws.tail.foldl woS ⟨kiS (ws.headD []), [], [], 0⟩
def liS (p : Pr) (line : List UInt8) : Pr :=
  if line = BW then ⟨p.cells, p.bodies ++ [[]]⟩ else if p.bodies = [] then p else ⟨p.cells, lastG p.bodies (acS (splC 32 line))⟩
def fiS (l : List UInt8) : List (List UInt8) := splC 32 ((splC 10 l).headD [])
def spG (l : List UInt8) : Pr := (splC 10 l).tail.dropLast.foldl liS ⟨(fiS l).tail.map (nuS 0), []⟩
def spR (l : List UInt8) : Option Pr := if l.length ≤ 600 ∧ (fiS l).headD [] = CELLS ∧ txT (spG l) = l then some (spG l) else none

/-! ### what is in form is read back -/
def deFitS (d : De) : Bool := decide ((deS (deT d)).k = d.k) && decide ((deS (deT d)).a = d.a) && decide ((deS (deT d)).b = d.b)
theorem deS_all : ((List.range 3).all fun (a : Nat) => (List.range 3).all fun (b : Nat) => deFitS ⟨1, a, b⟩ && deFitS ⟨2, a, b⟩ && deFitS ⟨4, a, b⟩ && deFitS ⟨5, a, 0⟩) = true := by kernel_rfl
theorem numS_all : ((List.range 3).all fun (a : Nat) => (List.range 100).all fun (b : Nat) => deFitS ⟨3, a, b⟩) = true := by kernel_rfl
theorem decS_all : ((List.range 100).all fun (n : Nat) => decide (nuS 0 (decT n) = n)) = true := by kernel_rfl
theorem reS_all : ((List.range 3).all fun (n : Nat) => decide (rgS 0 (reT n) = n)) = true := by kernel_rfl
theorem decS {k : Int} (h : 0 ≤ k ∧ k < 100) : nuS 0 (decT k) = k := by
  obtain ⟨n, rfl, hn⟩ : ∃ n : Nat, k = (n : Int) ∧ n < 100 := ⟨k.toNat, by omega, by omega⟩
  exact of_decide_eq_true (List.all_eq_true.1 decS_all n (List.mem_range.2 hn))
theorem reS {k : Int} (h : 0 ≤ k ∧ k < 3) : rgS 0 (reT k) = k := by
  obtain ⟨n, rfl, hn⟩ := three h
  exact of_decide_eq_true (List.all_eq_true.1 reS_all n (List.mem_range.2 hn))
theorem deFitS_of {d : De} (h : deFitS d = true) : deS (deT d) = d := by
  unfold deFitS at h
  simp only [Bool.and_eq_true, decide_eq_true_eq] at h
  obtain ⟨k, a, b⟩ := d
  cases hx : deS (deT ⟨k, a, b⟩) with
  | mk k' a' b' =>
    rw [hx] at h
    obtain ⟨⟨rfl, rfl⟩, rfl⟩ := h
    rfl
theorem deS_of {d : De} {c : Int} (h : deB d c = true) (hc : c ≤ 3) : deS (deT d) = d := by
  apply deFitS_of
  have A := fun (a b : Nat) (ha : a < 3) (hb : b < 3) => by
    have h1 := List.all_eq_true.1 (List.all_eq_true.1 deS_all a (List.mem_range.2 ha)) b (List.mem_range.2 hb)
    simp only [Bool.and_eq_true] at h1
    exact h1
  have hp : ∀ n e : Int, plB n e = true → 0 ≤ n ∧ n < e := fun n e h => by simpa [plB] using h
  obtain ⟨k, a, b⟩ := d
  unfold deB at h
  dsimp only at h
  split at h
  · rename_i e; subst e; simp only [Bool.and_eq_true] at h
    obtain ⟨x, rfl, hx⟩ := three (hp _ _ h.1)
    obtain ⟨y, rfl, hy⟩ := three (a := b) (by have := hp _ _ h.2; omega)
    exact (A x y hx hy).1.1.1
  · split at h
    · rename_i e; subst e; simp only [Bool.and_eq_true] at h
      obtain ⟨y, rfl, hy⟩ := three (hp _ _ h.2)
      obtain ⟨x, rfl, hx⟩ := three (a := a) (by have := hp _ _ h.1; omega)
      exact (A x y hx hy).1.1.2
    · split at h
      · rename_i e; subst e; simp only [Bool.and_eq_true] at h
        obtain ⟨x, rfl, hx⟩ := three (hp _ _ h.1)
        obtain ⟨y, rfl, hy⟩ : ∃ n : Nat, b = (n : Int) ∧ n < 100 := ⟨b.toNat, by have := hp _ _ h.2; omega, by have := hp _ _ h.2; omega⟩
        exact List.all_eq_true.1 (List.all_eq_true.1 numS_all x (List.mem_range.2 hx)) y (List.mem_range.2 hy)
      · split at h
        · rename_i e; subst e; simp only [Bool.and_eq_true] at h
          obtain ⟨x, rfl, hx⟩ := three (hp _ _ h.1)
          obtain ⟨y, rfl, hy⟩ := three (hp _ _ h.2)
          exact (A x y hx hy).1.2
        · split at h
          · rename_i e; subst e; simp only [Bool.and_eq_true, decide_eq_true_eq] at h
            obtain ⟨x, rfl, hx⟩ := three (hp _ _ h.1)
            rw [h.2]
            exact (A x 0 hx (by omega)).2
          · cases h
structure FitS (x : Ac) : Prop where
  a : FitA x
  d : ∀ d, d ∈ x.ds → deS (deT d) = d
theorem ok_fitS {p : Pr} (h : okB p = true) : ∀ b, b ∈ p.bodies → ∀ a, a ∈ b → FitS a := fun b hb a ha => by
  refine ⟨(ok_fit h).2 b hb a ha, fun d hd => ?_⟩
  obtain ⟨h3, h4, _, hbo⟩ := ok_cells h
  obtain ⟨i, hi, hn⟩ := mem_nth [] hb
  have hB := hbo i hi
  have hac := (boB_acts hB).2 a (by rw [hn]; exact ha)
  unfold acB at hac
  split at hac
  · simp only [Bool.and_eq_true] at hac
    have hds := hac.2
    unfold dsB at hds
    simp only [Bool.and_eq_true, List.all_eq_true] at hds
    exact deS_of (hds.2 d hd) (by omega)
  · exfalso
    have hz : a.ds.length = 0 := by
      split at hac
      · simp only [Bool.and_eq_true, decide_eq_true_eq] at hac; exact hac.1.1
      · split at hac
        · simp only [Bool.and_eq_true, decide_eq_true_eq] at hac; exact hac.1.1
        · split at hac
          · simp only [Bool.and_eq_true, decide_eq_true_eq] at hac; exact hac.1.1
          · cases hac
    rw [List.eq_nil_of_length_eq_zero hz] at hd
    cases hd
theorem fold_1 : ∀ (ws : List (List UInt8)) (ds : List De) (ks : List Int) (r : Int), ws.foldl woS ⟨1, ds, ks, r⟩ = ⟨1, ds ++ ws.map deS, ks, r⟩
  | [], ds, ks, r => by simp
  | x :: ws, ds, ks, r => by
    rw [List.foldl_cons]
    have e : woS ⟨1, ds, ks, r⟩ x = ⟨1, ds ++ [deS x], ks, r⟩ := rfl
    rw [e, fold_1 ws]; simp
theorem fold_2 : ∀ (ws : List (List UInt8)) (ds : List De) (ks : List Int) (r : Int), ws.foldl woS ⟨2, ds, ks, r⟩ = ⟨2, ds, ks ++ ws.map (nuS 0), r⟩
  | [], ds, ks, r => by simp
  | x :: ws, ds, ks, r => by
    rw [List.foldl_cons]
    have e : woS ⟨2, ds, ks, r⟩ x = ⟨2, ds, ks ++ [nuS 0 x], r⟩ := rfl
    rw [e, fold_2 ws]; simp
theorem acS_of {x : Ac} (h : FitS x) : acS (splC 32 (acT x)) = x := by
  obtain ⟨k, ds, ks, r⟩ := x
  rcases h.a with ⟨h1, h2, h3, h4⟩ | ⟨h1, h2, h3, h4⟩ | ⟨h1, h2, h3, h4⟩ | ⟨h1, h2, h3, h4⟩
  · dsimp only at h1 h2 h3 h4
    subst h1 h2 h3
    rw [acT_1 rfl, dsT_words _ _ (by decide) h4]
    have hm := map_back deT deS ds h.d
    show (ds.map deT).foldl woS ⟨1, [], [], 0⟩ = _
    rw [fold_1, hm]; rfl
  · dsimp only at h1 h2 h3 h4
    subst h1 h2 h3
    rw [acT_2 rfl, nuT_words _ _ (by decide) h4]
    have hm := map_back decT (nuS 0) ks (fun k hk => decS (h4 k hk))
    show (ks.map decT).foldl woS ⟨2, [], [], 0⟩ = _
    rw [fold_2, hm]; rfl
  · dsimp only at h1 h2 h3 h4
    subst h1 h2 h3 h4
    rw [acT_3 rfl]
    rfl
  · dsimp only at h1 h2 h3 h4
    subst h1 h2 h3
    rw [acT_4 rfl]
    have e : splC 32 (([102, 97, 105, 108, 105, 102, 32] : List UInt8) ++ reT r) = [FAILIF, reT r] := by
      have h32 : (32 : UInt8) ∉ reT r := by
        obtain ⟨n, rfl, hn⟩ := three h4
        match n, hn with
        | 0, _ => decide
        | 1, _ => decide
        | 2, _ => decide
      have := splC_cons (c := 32) (a := FAILIF) (reT r) (by decide)
      rw [splC_none h32] at this
      exact this
    rw [e]
    show Ac.mk 4 [] [] (rgS 0 (reT r)) = _
    rw [reS h4]
theorem fold_actsS (cells : List Int) (done : List (List Ac)) : ∀ (acts ys : List Ac), (∀ a, a ∈ acts → FitS a) → (acts.map acT).foldl liS ⟨cells, done ++ [ys]⟩ = ⟨cells, done ++ [ys ++ acts]⟩ := by
  intro acts
  induction acts with
  | nil => intro ys _; simp
  | cons a acts ih =>
    intro ys h
    have ha := h a (List.mem_cons_self ..)
    rw [List.map_cons, List.foldl_cons]
    have e : liS ⟨cells, done ++ [ys]⟩ (acT a) = ⟨cells, done ++ [ys ++ [a]]⟩ := by
      unfold liS
      rw [if_neg (show acT a ≠ BW from (acT_plain ha.a).2), if_neg (by simp), acS_of ha, lastG_of]
    rw [e, ih _ (fun b hb => h b (List.mem_cons_of_mem _ hb))]
    simp
theorem fold_bodiesS (cells : List Int) : ∀ (bodies done : List (List Ac)), (∀ b, b ∈ bodies → ∀ a, a ∈ b → FitS a) → (lines bodies).foldl liS ⟨cells, done⟩ = ⟨cells, done ++ bodies⟩ := by
  intro bodies
  induction bodies with
  | nil => intro done _; simp [lines]
  | cons acts bodies ih =>
    intro done h
    have e0 : lines (acts :: bodies) = BW :: (acts.map acT ++ lines bodies) := by simp [lines]
    have e1 : liS ⟨cells, done⟩ BW = ⟨cells, done ++ [[]]⟩ := by
      unfold liS
      rw [if_pos rfl]
    rw [e0, List.foldl_cons, e1, List.foldl_append, fold_actsS cells done acts [] (h acts (List.mem_cons_self ..)), ih _ (fun b hb => h b (List.mem_cons_of_mem _ hb))]
    simp
theorem sp_prT {p : Pr} (h : okB p = true) : spG (prT p) = p ∧ (fiS (prT p)).headD [] = CELLS := by
  obtain ⟨hn, hf⟩ := ok_fit h
  have hg := ok_fitS h
  have e : prT p = (CELLS ++ nuT p.cells) ++ (lines p.bodies ++ [[]]).flatMap fun x => 10 :: x := by
    have h1 := sep_term 10 (fun x : List UInt8 => x) (lines p.bodies)
    unfold prT
    rw [bsT_lines]
    have h2 : ((lines p.bodies).flatMap fun x => 10 :: x) ++ [10] = 10 :: (lines p.bodies).flatMap fun x => x ++ [10] := by simpa using h1
    rw [List.flatMap_append]
    simp only [List.flatMap_cons, List.flatMap_nil, List.append_nil]
    rw [h2]
    simp [CELLS]
  have hA : (10 : UInt8) ∉ CELLS ++ nuT p.cells := by
    intro hm
    rcases List.mem_append.1 hm with h1 | h1
    · revert h1; decide
    · exact nuT_plain p.cells hn h1
  have hL : ∀ x, x ∈ lines p.bodies ++ [[]] → (10 : UInt8) ∉ x := fun x hx => by
    rcases List.mem_append.1 hx with h1 | h1
    · exact lines_plain hf x h1
    · simp at h1; subst h1; simp
  have es : splC 10 (prT p) = (CELLS ++ nuT p.cells) :: (lines p.bodies ++ [[]]) := by rw [e, splC_seps _ _ hA hL]
  have ef : fiS (prT p) = CELLS :: p.cells.map decT := by
    unfold fiS
    rw [es]
    exact nuT_words CELLS p.cells (by decide) hn
  constructor
  · unfold spG
    rw [es, ef]
    show ((lines p.bodies ++ [[]]).dropLast).foldl liS ⟨(p.cells.map decT).map (nuS 0), []⟩ = _
    rw [List.dropLast_concat, map_back decT (nuS 0) p.cells (fun k hk => decS (hn k hk)), fold_bodiesS p.cells p.bodies [] hg]
    simp
  · rw [ef]; rfl
theorem prT_600S {p : Pr} (h : okB p = true) : (prT p).length ≤ 600 := by
  obtain ⟨h3, h4, _, hbo⟩ := ok_cells h
  have h1 := nuT_len p.cells
  have h2 : (bsT p.bodies).length ≤ p.bodies.length * 121 := flat_len p.bodies fun b hb => by
    obtain ⟨i, hi, rfl⟩ := mem_nth [] hb
    obtain ⟨k1, k2⟩ := boB_acts (hbo i hi)
    exact boT_len k1 (fun a ha => acB_len (k2 a ha))
  unfold prT
  simp only [List.length_append, List.length_cons, List.length_nil]
  omega
theorem txT_ok {p : Pr} (h : okB p = true) : txT p = prT p := by unfold txT; rw [h]; exact (rfl : _ = _)
/-- what is read, either way -/
theorem spR_some {l : List UInt8} {p : Pr} : spR l = some p ↔ okB p = true ∧ l = prT p := by
  unfold spR
  constructor
  · intro h
    split at h
    · rename_i hc
      injection h with h
      subst h
      obtain ⟨h1, h2, h3⟩ := hc
      have hne : okB (spG l) = true := by
        cases hok : okB (spG l)
        · exfalso
          have : txT (spG l) = [] := by unfold txT; rw [hok]; rfl
          rw [this] at h3
          subst h3
          revert h2; decide
        · rfl
      exact ⟨hne, by rw [← txT_ok hne, h3]⟩
    · cases h
  · rintro ⟨h, rfl⟩
    obtain ⟨e1, e2⟩ := sp_prT h
    rw [if_pos ⟨prT_600S h, e2, by rw [e1, txT_ok h]⟩, e1]
theorem rdG_some {l : List UInt8} {p : Pr} : rdG l = some p ↔ okB p = true ∧ l = prT p := by
  unfold rdG
  constructor
  · intro h
    split at h
    · rename_i hc
      injection h with h
      subst h
      obtain ⟨h1, h2, h3⟩ := hc
      exact ⟨h2, by rw [← txT_ok h2, h3]⟩
    · cases h
  · rintro ⟨h, rfl⟩
    rw [prG_prT h, if_pos ⟨prT_600S h, h, txT_ok h⟩]
theorem spR_rdG (l : List UInt8) : spR l = rdG l := by
  cases h : spR l with
  | some p => exact (rdG_some.2 (spR_some.1 h)).symm
  | none =>
    cases h2 : rdG l with
    | none => rfl
    | some p => rw [spR_some.2 (rdG_some.1 h2)] at h; cases h

end Go.Proofs.YtliakmgombpjpaaGreatDoor
