/-
  What a change does not store to stays; what it does not read changes nothing: in plain words.
-/
import Derived.Test.YthllcbbjibfklaaH2
import Derived.Test.YthllcbbjibfklaaG5
namespace Go.Proofs.Ythllcbbjibfklaa
open Go.RowKit
set_option linter.unusedSimpArgs false
set_option linter.unusedVariables false

theorem nth_set_ne (xs : List Int) (a i : Nat) (y : Int) (h : a ≠ i) : nth 0 (xs.set a y) i = nth 0 xs i := by
  simp [nth, List.getElem?_set, h]
theorem nth_set_eq (xs : List Int) (a : Nat) (y : Int) (h : a < xs.length) : nth 0 (xs.set a y) a = y := by
  simp [nth, List.getElem?_set, h]
theorem doD_stays {c r c' r' : List Int} {n i : Nat} {d : De} (hd : deB d n = true) (e : doD c r d = some (c', r')) (hs : ¬ (d.k = 2 ∧ d.a = i)) : nth 0 c' i = nth 0 c i := by
  rcases deB_cases hd with ⟨a, b, rfl, ha, hb⟩ | ⟨a, b, rfl, ha, hb⟩ | ⟨a, b, rfl, ha, hb⟩ | ⟨a, b, rfl, ha, hb⟩ | ⟨a, rfl, ha⟩
  · simp [doD] at e; obtain ⟨rfl, rfl⟩ := e; rfl
  · simp [doD] at e; obtain ⟨rfl, rfl⟩ := e
    exact nth_set_ne _ _ _ _ (fun h => hs ⟨rfl, by simp [h]⟩)
  · simp [doD] at e; obtain ⟨rfl, rfl⟩ := e; rfl
  · simp [doD] at e; obtain ⟨rfl, rfl⟩ := e; rfl
  · simp [doD] at e; obtain ⟨_, rfl, rfl⟩ := e; rfl
theorem doDs_stays {n i : Nat} : ∀ (ds : List De) (c r c' r' : List Int), (∀ d, d ∈ ds → deB d n = true) → doDs c r ds = some (c', r') → (∀ d, d ∈ ds → ¬ (d.k = 2 ∧ d.a = i)) → nth 0 c' i = nth 0 c i := by
  intro ds
  induction ds with
  | nil => intro c r c' r' _ e _; simp [doDs] at e; obtain ⟨rfl, rfl⟩ := e; rfl
  | cons d ds ih =>
    intro c r c' r' hd e hs
    simp only [doDs] at e
    cases hx : doD c r d with
    | none => rw [hx] at e; cases e
    | some x =>
      rw [hx] at e
      obtain ⟨c1, r1⟩ := x
      exact (ih c1 r1 c' r' (fun d' hd' => hd d' (List.mem_cons_of_mem _ hd')) e (fun d' hd' => hs d' (List.mem_cons_of_mem _ hd'))).trans (doD_stays (hd d (List.mem_cons_self ..)) hx (hs d (List.mem_cons_self ..)))
theorem chX_cells {c r C R : List Int} {ds : List De} (h : chX c r ds = (C, R, true)) : ∀ k, k < c.length → hasB (chW ds) (k : Int) = false → nth 0 C k = nth 0 c k := by
  obtain ⟨hg, hd⟩ := chX_true h
  obtain ⟨hF, h3, hdd⟩ := goB_inF hg
  intro k hk hh
  refine doDs_stays ds c r C R (dsB_all hdd).2 hd (fun d hd' hs => ?_)
  unfold hasB chW at hh
  rw [decide_eq_false_iff_not, mem_srt] at hh
  exact hh ⟨(raw_two ds _).2 ⟨d, hd', hs.1, hs.2⟩, by omega, by omega⟩

/-- two rows of cells that are alike where it counts come to be so -/
theorem alike {n : Nat} : ∀ (ds : List De) (s : List Int × List Int) (c1 c2 r C R : List Int), (∀ d, d ∈ ds → deB d n = true) → c1.length = n → c2.length = n → r.length = 3 →
    (∀ i : Nat, (i : Int) ∈ (ds.foldl touch s).1 ∨ (i : Int) ∈ s.2 → nth 0 c1 i = nth 0 c2 i) → doDs c1 r ds = some (C, R) →
    ∃ C2, doDs c2 r ds = some (C2, R) ∧ ∀ i : Nat, (i : Int) ∈ (ds.foldl touch s).2 → nth 0 C i = nth 0 C2 i := by
  intro ds
  induction ds with
  | nil =>
    intro s c1 c2 r C R _ _ _ _ ha e
    simp [doDs] at e; obtain ⟨rfl, rfl⟩ := e
    exact ⟨c2, rfl, fun i hi => ha i (.inr hi)⟩
  | cons d ds ih =>
    intro s c1 c2 r C R hd h1 h2 h3 ha e
    have hdd := hd d (List.mem_cons_self ..)
    have hds : ∀ d', d' ∈ ds → deB d' n = true := fun d' hd' => hd d' (List.mem_cons_of_mem _ hd')
    rw [List.foldl_cons] at ha ⊢
    simp only [doDs] at e ⊢
    rcases deB_cases hdd with ⟨a, b, rfl, hA, hB⟩ | ⟨a, b, rfl, hA, hB⟩ | ⟨a, b, rfl, hA, hB⟩ | ⟨a, b, rfl, hA, hB⟩ | ⟨a, rfl, hA⟩
    · have ht : (touch s ⟨1, a, b⟩).2 = s.2 := by rw [touch_snd]; rfl
      have hab : nth 0 c1 b = nth 0 c2 b := by
        apply ha
        cases hw : hasB s.2 (b : Int)
        · left
          refine fold_fst_mono ds _ _ ?_
          simp [touch, hw]
        · right; simpa [hasB] using hw
      simp only [doD, Option.bind_some, if_pos, Int.toNat_natCast] at e ⊢
      rw [← hab]
      exact ih _ c1 c2 _ C R hds h1 h2 (by simpa using h3) (fun i hi => ha i (by rw [ht] at hi; exact hi)) e
    · have ht : (touch s ⟨2, a, b⟩).2 = s.2 ++ [(a : Int)] := by rw [touch_snd]; rfl
      simp only [doD, Option.bind_some, Int.toNat_natCast] at e ⊢
      refine ih _ _ _ r C R hds (by simpa using h1) (by simpa using h2) h3 (fun i hi => ?_) e
      by_cases hi' : a = i
      · subst hi'
        rw [nth_set_eq _ _ _ (by omega), nth_set_eq _ _ _ (by omega)]
      · rw [nth_set_ne _ _ _ _ hi', nth_set_ne _ _ _ _ hi']
        refine ha i ?_
        rcases hi with hi | hi
        · exact .inl hi
        · rw [ht] at hi
          rcases List.mem_append.1 hi with h | h
          · exact .inr h
          · simp at h; omega
    · have ht : touch s ⟨3, a, b⟩ = s := by simp [touch]
      rw [ht] at ha ⊢
      simp only [doD, Option.bind_some, Int.toNat_natCast] at e ⊢
      exact ih _ c1 c2 _ C R hds h1 h2 (by simpa using h3) ha e
    · have ht : touch s ⟨4, a, b⟩ = s := by simp [touch]
      rw [ht] at ha ⊢
      simp only [doD, Option.bind_some, Int.toNat_natCast] at e ⊢
      exact ih _ c1 c2 _ C R hds h1 h2 (by simpa using h3) ha e
    · have ht : touch s ⟨5, a, 0⟩ = s := by simp [touch]
      rw [ht] at ha ⊢
      by_cases hz : nth 0 r a = 0
      · simp [doD, hz] at e
      · simp [doD, hz] at e ⊢
        exact ih _ c1 c2 _ C R hds h1 h2 h3 ha e
/-- cells that are otherwise where nothing is read -/
def othC (rd c : List Int) (k : Nat) : List Int := (List.range c.length).map fun i => if i < k ∧ hasB rd (i : Int) = false then (nth 0 c i + 1) % 100 else nth 0 c i
theorem othC_len (rd c : List Int) (k : Nat) : (othC rd c k).length = c.length := by simp [othC]
theorem othC_nth (rd c : List Int) (k i : Nat) (h : i < c.length) : nth 0 (othC rd c k) i = if i < k ∧ hasB rd (i : Int) = false then (nth 0 c i + 1) % 100 else nth 0 c i := by
  rw [nth_eq 0 _ i (by rw [othC_len]; exact h)]; simp [othC]
theorem othC_zero (rd c : List Int) : othC rd c 0 = c := by
  apply List.ext_getElem (by simp [othC])
  intro i h1 h2
  have := othC_nth rd c 0 i h2
  rw [nth_eq 0 _ i h1] at this
  rw [this, if_neg (by omega), nth_eq 0 c i h2]
theorem othC_succ (rd c : List Int) (k : Nat) (h : k < c.length) : othC rd c (k + 1) = if hasB rd (k : Int) = false then (othC rd c k).set k ((nth 0 (othC rd c k) k + 1) % 100) else othC rd c k := by
  apply List.ext_getElem (by split <;> simp [othC])
  intro i h1 h2
  have hi : i < c.length := by rw [othC_len] at h1; exact h1
  have e1 := othC_nth rd c (k + 1) i hi
  rw [nth_eq 0 _ i h1] at e1
  have ek := othC_nth rd c k k h
  rw [if_neg (by omega)] at ek
  rw [e1]
  by_cases hh : hasB rd (k : Int) = false
  · simp only [if_pos hh, List.getElem_set]
    by_cases hki : k = i
    · subst hki
      rw [if_pos rfl, if_pos ⟨by omega, hh⟩, ek]
    · rw [if_neg hki]
      have e2 := othC_nth rd c k i hi
      rw [nth_eq 0 _ i (by rw [othC_len]; exact hi)] at e2
      rw [e2]
      by_cases hc : i < k ∧ hasB rd (i : Int) = false
      · rw [if_pos hc, if_pos ⟨by omega, hc.2⟩]
      · rw [if_neg hc, if_neg (fun hx => hc ⟨by omega, hx.2⟩)]
  · simp only [if_neg hh]
    have e2 := othC_nth rd c k i hi
    rw [nth_eq 0 _ i (by rw [othC_len]; exact hi)] at e2
    rw [e2]
    by_cases hc : i < k ∧ hasB rd (i : Int) = false
    · rw [if_pos hc, if_pos ⟨by omega, hc.2⟩]
    · rw [if_neg hc, if_neg (fun hx => hc ⟨by
        rcases Nat.lt_succ_iff_lt_or_eq.1 hx.1 with h | h
        · exact h
        · subst h; exact absurd hx.2 hh, hx.2⟩)]
theorem othC_bd (rd c : List Int) (k : Nat) (h : ∀ x, x ∈ c → 0 ≤ x ∧ x ≤ 99) : ∀ x, x ∈ othC rd c k → 0 ≤ x ∧ x ≤ 99 := fun x hx => by
  unfold othC at hx
  obtain ⟨i, hi, rfl⟩ := List.mem_map.1 hx
  have := nth_bd h i
  split <;> omega
theorem othC_bdn (rd c : List Int) (k : Nat) (h : ∀ x, x ∈ c → 0 ≤ x ∧ x ≤ 99) (i : Nat) : 0 ≤ nth 0 (othC rd c k) i ∧ nth 0 (othC rd c k) i ≤ 99 := nth_bd (othC_bd rd c k h) i
theorem chX_other {c r C R : List Int} {ds : List De} (h : chX c r ds = (C, R, true)) : ∃ C2, chX (othC (chR ds) c c.length) r ds = (C2, R, true) ∧ C2.length = c.length ∧ ∀ i : Nat, hasB (chW ds) (i : Int) = true → nth 0 C2 i = nth 0 C i := by
  obtain ⟨hg, hd⟩ := chX_true h
  obtain ⟨hF, h3, hdd⟩ := goB_inF hg
  have hall := (dsB_all hdd).2
  have hF2 : InF (othC (chR ds) c c.length) r c.length := ⟨othC_len _ _ _, hF.rl, othC_bd _ _ _ hF.ca, hF.ra⟩
  have ha : ∀ i : Nat, (i : Int) ∈ (raw ds).1 ∨ (i : Int) ∈ ([] : List Int) → nth 0 c i = nth 0 (othC (chR ds) c c.length) i := fun i hi => by
    rcases hi with hi | hi
    · by_cases hl : i < c.length
      · rw [othC_nth _ _ _ _ hl, if_neg]
        rintro ⟨_, hx⟩
        unfold hasB chR at hx
        rw [decide_eq_false_iff_not, mem_srt] at hx
        exact hx ⟨hi, by omega, by omega⟩
      · simp [nth, List.getElem?_eq_none (show c.length ≤ i by omega), List.getElem?_eq_none (show (othC (chR ds) c c.length).length ≤ i by rw [othC_len]; omega)]
    · cases hi
  obtain ⟨C2, e2, hC2⟩ := alike ds ([], []) c (othC (chR ds) c c.length) r C R hall rfl (othC_len _ _ _) hF.rl ha hd
  have hF3 := doDs_inF ds _ r C2 R hall hF2 e2
  refine ⟨C2, chX_some (inF_goB hg hF2 (dsB_all hdd).1 (fun d h => h)) e2, hF3.cl, fun i hi => ?_⟩
  refine (hC2 i ?_).symm
  unfold hasB chW at hi
  rw [decide_eq_true_eq, mem_srt] at hi
  exact hi.1
theorem chW_place {ds : List De} {x : Int} (h : x ∈ chW ds) : 0 ≤ x ∧ x ≤ 2 := ((mem_srt _ _).1 h).2
theorem chX_place {c r C R : List Int} {ds : List De} (h : chX c r ds = (C, R, true)) : ∀ i, i < (chW ds).length → ∃ k : Nat, nth 0 (chW ds) i = (k : Int) ∧ k < c.length ∧ hasB (chW ds) (k : Int) = true := fun i hi => by
  obtain ⟨hg, hd⟩ := chX_true h
  obtain ⟨hF, h3, hdd⟩ := goB_inF hg
  have hm := nth_mem 0 (chW ds) i hi
  obtain ⟨h1, h2, h4⟩ := (mem_srt _ _).1 hm
  obtain ⟨d, hd', hk, ha⟩ := (raw_two ds _).1 h1
  refine ⟨(nth 0 (chW ds) i).toNat, by omega, ?_, ?_⟩
  · rcases deB_cases ((dsB_all hdd).2 d hd') with ⟨a, b, rfl, hA, hB⟩ | ⟨a, b, rfl, hA, hB⟩ | ⟨a, b, rfl, hA, hB⟩ | ⟨a, b, rfl, hA, hB⟩ | ⟨a, rfl, hA⟩ <;> simp at hk ha
    omega
  · unfold hasB; rw [decide_eq_true_eq, Int.toNat_of_nonneg h2]; exact hm
theorem lqHas_is {xs : List Int} {n : Int} {b : Bool} (hb : hasB xs n = b) (v : Value) (w : World) (h : IntsAt w v xs) :
    Calls Try.prog 14 #[v, .int .i64 n] w fun r w' => r = .returned (.bool b) ∧ w' = w := hb ▸ lqHas_any v xs n w h
theorem IntsAt.drewN {w : World} {v : Value} {xs : List Int} (h : IntsAt w v xs) (q : Nat) : IntsAt (w.drewN q) v xs := h.mono (below_drewN (Below.refl _ _) q)

end Go.Proofs.Ythllcbbjibfklaa
