/-
  What holds of changes, in plain words; parts of lists in memory.
-/
import Derived.Test.YthllcbbjibfklaaC4
import Derived.Test.YthllcbbjibfklaaH1
import Derived.Test.YthllcbbjibfklaaO1
namespace Go.Proofs.Ythllcbbjibfklaa
open Go.RowKit
set_option linter.unusedSimpArgs false
set_option linter.unusedVariables false

theorem chX_true {c r C R : List Int} {ds : List De} (h : chX c r ds = (C, R, true)) : goB c r ds = true ∧ doDs c r ds = some (C, R) := by
  unfold chX chDo at h
  by_cases hg : goB c r ds = true
  · rw [if_pos hg] at h
    refine ⟨hg, ?_⟩
    cases hx : doDs c r ds with
    | none => rw [hx] at h; simp at h
    | some x => rw [hx] at h; simp at h; obtain ⟨rfl, rfl⟩ := h; rfl
  · rw [if_neg hg] at h; simp at h
theorem chX_false {c r C R : List Int} {ds : List De} (h : chX c r ds = (C, R, false)) : C = [] ∧ R = [] := by
  unfold chX at h
  cases hx : chDo c r ds with
  | none => rw [hx] at h; simp at h; exact ⟨h.1, h.2⟩
  | some x => rw [hx] at h; simp at h
theorem goB_sub {c r : List Int} {ds es : List De} (h : goB c r ds = true) (hl : es.length ≤ 5) (hs : ∀ d, d ∈ es → d ∈ ds ∨ deB d c.length = true) : goB c r es = true := by
  obtain ⟨_, h3, hd⟩ := goB_inF h
  have hall := (dsB_all hd).2
  unfold goB at h ⊢
  simp only [Bool.and_eq_true] at h ⊢
  refine ⟨h.1, ?_⟩
  have h2 := h.2
  unfold chB at h2 ⊢
  simp only [Bool.and_eq_true] at h2 ⊢
  refine ⟨h2.1, ?_⟩
  unfold dsB
  simp only [Bool.and_eq_true, decide_eq_true_eq, List.all_eq_true]
  exact ⟨hl, fun d hd' => by
    rcases hs d hd' with h4 | h4
    · exact hall d h4
    · exact h4⟩
theorem goB_len {c r : List Int} {ds : List De} (h : goB c r ds = true) : ds.length ≤ 5 := by
  obtain ⟨_, _, hd⟩ := goB_inF h
  exact (dsB_all hd).1
theorem chX_nil {c r C R : List Int} {ds : List De} (h : chX c r ds = (C, R, true)) : chX c r [] = (c, r, true) := by
  obtain ⟨hg, _⟩ := chX_true h
  exact chX_some (goB_sub hg (by simp) (by simp)) rfl
theorem inF_goB {c r c1 r1 : List Int} {ds es : List De} (h : goB c r ds = true) (hF : InF c1 r1 c.length) (hl : es.length ≤ 5) (hs : ∀ d, d ∈ es → d ∈ ds) : goB c1 r1 es = true := by
  obtain ⟨_, h3, hd⟩ := goB_inF h
  have hall := (dsB_all hd).2
  have hp : plB c.length 4 = true := by rw [plB_iff]; omega
  simp only [goB, rsB, chB, csB_eq, Bool.and_eq_true, decide_eq_true_eq, dsB, List.all_eq_true]
  rw [hF.cl]
  exact ⟨⟨⟨h3, (nsB_iff _).2 hF.ca⟩, hF.rl, (nsB_iff _).2 hF.ra⟩, hp, hl, fun d hd' => hall d (hs d hd')⟩
theorem chX_cut {c r C R : List Int} {ds : List De} (h : chX c r ds = (C, R, true)) (k : Nat) : ∃ c1 r1, chX c r (ds.take k) = (c1, r1, true) ∧ chX c1 r1 (ds.drop k) = (C, R, true) := by
  obtain ⟨hg, hd⟩ := chX_true h
  have hl := goB_len hg
  have e := hd
  rw [← List.take_append_drop k ds, doDs_append] at e
  cases hx : doDs c r (ds.take k) with
  | none => rw [hx] at e; cases e
  | some x =>
    obtain ⟨c1, r1⟩ := x
    rw [hx] at e
    obtain ⟨hF, _, hdd⟩ := goB_inF hg
    have hF1 := doDs_inF (ds.take k) c r c1 r1 (fun d hd' => (dsB_all hdd).2 d (List.mem_of_mem_take hd')) hF hx
    refine ⟨c1, r1, chX_some (goB_sub hg (by simp; omega) (fun d hd' => .inl (List.mem_of_mem_take hd'))) hx, chX_some (inF_goB hg hF1 (by simp; omega) (fun d hd' => List.mem_of_mem_drop hd')) e⟩
theorem chX_need {c r C R : List Int} {ds : List De} (h : chX c r ds = (C, R, true)) (k : Nat) (hk : k < 3) (hl : ds.length < 5) :
    chX c r (ds ++ [⟨5, k, 0⟩]) = if nth 0 R k = 0 then ([], [], false) else (C, R, true) := by
  obtain ⟨hg, hd⟩ := chX_true h
  have hg' : goB c r (ds ++ [⟨5, k, 0⟩]) = true := goB_sub hg (by simp; omega) (fun d hd' => by
    rcases List.mem_append.1 hd' with h1 | h1
    · exact .inl h1
    · right
      simp at h1; subst h1
      simp [deB, plB]; omega)
  have e : doDs c r (ds ++ [⟨5, k, 0⟩]) = if nth 0 R k = 0 then none else some (C, R) := by
    rw [doDs_snoc, hd]; simp [doD]
  by_cases hz : nth 0 R k = 0
  · rw [if_pos hz]; rw [if_pos hz] at e; exact chX_none hg' e
  · rw [if_neg hz]; rw [if_neg hz] at e; exact chX_some hg' e
/-- a deed sets a register -/
def setsB (k : Nat) (d : De) : Bool := decide (d.a = k) && (decide (d.k = 1) || (decide (d.k = 3) || decide (d.k = 4)))
theorem doD_keeps {c r c' r' : List Int} {n k : Nat} {d : De} (hd : deB d n = true) (e : doD c r d = some (c', r')) (hs : setsB k d = false) : nth 0 r' k = nth 0 r k := by
  have hne : ∀ (a : Nat) (y : Int), a ≠ k → nth 0 (r.set a y) k = nth 0 r k := fun a y ha => by
    simp [nth, List.getElem?_set, ha]
  rcases deB_cases hd with ⟨a, b, rfl, ha, hb⟩ | ⟨a, b, rfl, ha, hb⟩ | ⟨a, b, rfl, ha, hb⟩ | ⟨a, b, rfl, ha, hb⟩ | ⟨a, rfl, ha⟩
  · simp [doD] at e; obtain ⟨rfl, rfl⟩ := e
    simp [setsB] at hs; exact hne a _ (by omega)
  · simp [doD] at e; obtain ⟨rfl, rfl⟩ := e; rfl
  · simp [doD] at e; obtain ⟨rfl, rfl⟩ := e
    simp [setsB] at hs; exact hne a _ (by omega)
  · simp [doD] at e; obtain ⟨rfl, rfl⟩ := e
    simp [setsB] at hs; exact hne a _ (by omega)
  · simp [doD] at e; obtain ⟨_, rfl, rfl⟩ := e; rfl
theorem doDs_keeps {n k : Nat} : ∀ (ds : List De) (c r c' r' : List Int), (∀ d, d ∈ ds → deB d n = true) → doDs c r ds = some (c', r') → (∀ d, d ∈ ds → setsB k d = false) → nth 0 r' k = nth 0 r k := by
  intro ds
  induction ds with
  | nil => intro c r c' r' _ e _; simp [doDs] at e; obtain ⟨rfl, rfl⟩ := e; rfl
  | cons d ds ih =>
    intro c r c' r' hd e hs
    simp only [doDs] at e
    cases hx : doD c r d with
    | none => rw [hx] at e; cases e
    | some x =>
      rw [hx] at e
      obtain ⟨c1, r1⟩ := x
      exact (ih c1 r1 c' r' (fun d' hd' => hd d' (List.mem_cons_of_mem _ hd')) e (fun d' hd' => hs d' (List.mem_cons_of_mem _ hd'))).trans (doD_keeps (hd d (List.mem_cons_self ..)) hx (hs d (List.mem_cons_self ..)))
theorem chX_regs {c r C R : List Int} {ds : List De} (h : chX c r ds = (C, R, true)) : R.length = 3 ∧ r.length = 3 ∧ C.length = c.length ∧ (∀ k, 0 ≤ nth 0 R k ∧ nth 0 R k ≤ 99) ∧ ∀ k, (∀ d, d ∈ ds → setsB k d = false) → nth 0 R k = nth 0 r k := by
  obtain ⟨hg, hd⟩ := chX_true h
  obtain ⟨hF, h3, hdd⟩ := goB_inF hg
  have hF1 := doDs_inF ds c r C R (dsB_all hdd).2 hF hd
  exact ⟨hF1.rl, hF.rl, hF1.cl, fun k => nth_bd hF1.ra k, fun k hs => doDs_keeps ds c r C R (dsB_all hdd).2 hd hs⟩

theorem changeDo_is {c r C R : List Int} {ds : List De} {ok : Bool} (hX : chX c r ds = (C, R, ok)) (cv rv dv : Value) (w : World) (hc : IntsAt w cv c) (hr : IntsAt w rv r) (hd : DeedsAt w dv ds) :
    Calls Try.prog 11 #[cv, rv, dv] w fun e w' => ∃ a0 k0 a1 k1, e = .returned (.tuple #[.slice a0 C.length k0, .slice a1 R.length k1, .bool ok]) ∧ IntsAt w' (.slice a0 C.length k0) C ∧ IntsAt w' (.slice a1 R.length k1) R ∧ Below w.heap.size w w' := by
  have := changeDo_any c r ds cv rv dv w hc hr hd
  rw [hX] at this
  refine this.mono ?_
  rintro e w' ⟨x, y, rfl, ht, hb⟩
  obtain ⟨a0, k0, rfl, _⟩ := own_shape ht.1
  obtain ⟨a1, k1, rfl, _⟩ := own_shape ht.2.1
  exact ⟨a0, k0, a1, k1, rfl, ht.1.at, ht.2.1.at, hb⟩
theorem sChangeDo_is {c r C R : List Int} {ds : List De} {ok : Bool} (hX : chX c r ds = (C, R, ok)) (cv rv dv : Value) (w : World) (hc : IntsAt w cv c) (hr : IntsAt w rv r) (hd : DeedsAt w dv ds) :
    Calls Try.prog 10 #[cv, rv, dv] w fun e w' => ∃ a0 k0 a1 k1, e = .returned (.tuple #[.slice a0 C.length k0, .slice a1 R.length k1, .bool ok]) ∧ IntsAt w' (.slice a0 C.length k0) C ∧ IntsAt w' (.slice a1 R.length k1) R ∧ Below w.heap.size w w' := by
  have := sChangeDo_any c r ds cv rv dv w hc hr hd
  rw [hX] at this
  refine this.mono ?_
  rintro e w' ⟨x, y, rfl, ht, hb⟩
  obtain ⟨a0, k0, rfl, _⟩ := own_shape ht.1
  obtain ⟨a1, k1, rfl, _⟩ := own_shape ht.2.1
  exact ⟨a0, k0, a1, k1, rfl, ht.1.at, ht.2.1.at, hb⟩
theorem lqInts_same (xs : List Int) (v v' : Value) (w : World) (h : IntsAt w v xs) (h' : IntsAt w v' xs) :
    Calls Try.prog 12 #[v, v'] w fun r w' => r = .returned (.bool true) ∧ Below w.heap.size w w' := by
  refine (lqInts_any xs xs v v' w h h').mono ?_
  rintro e w' ⟨rfl, hb⟩
  exact ⟨by simp, hb⟩
theorem DeedsAt.nil (w : World) (a : Option Addr) (cap : Nat) : DeedsAt w (.slice a 0 cap) [] := ⟨a, cap, rfl, by simp, fun i hi => absurd hi (by simp)⟩
theorem DeedsAt.take {w : World} {a : Option Addr} {n cap : Nat} {ds : List De} (h : DeedsAt w (.slice a n cap) ds) (k : Nat) (hk : k ≤ n) (cap' : Nat) : DeedsAt w (.slice a k cap') (ds.take k) := by
  obtain ⟨a', c', e, hm, hc⟩ := h
  injection e with e1 e2 e3
  subst e1 e2
  have hl : (ds.take k).length = k := by simp; omega
  refine ⟨a, cap', by rw [hl], by omega, fun i hi => ?_⟩
  rw [hl] at hi
  obtain ⟨b, off, h1, h2, h3, h4, h5⟩ := hc i (by omega)
  have hn : nth De.z (ds.take k) i = nth De.z ds i := by simp [nth, List.getElem?_take, hi]
  exact ⟨b, off, h1, h2, by rw [hn]; exact h3, by rw [hn]; exact h4, by rw [hn]; exact h5⟩
theorem DeedsAt.drop {w : World} {b off n cap : Nat} {ds : List De} (h : DeedsAt w (.slice (some ⟨b, off, none⟩) n cap) ds) (k : Nat) (hk : k ≤ n) (cap' : Nat) : DeedsAt w (.slice (some ⟨b, off + k * 3, none⟩) (n - k) cap') (ds.drop k) := by
  obtain ⟨a', c', e, hm, hc⟩ := h
  injection e with e1 e2 e3
  subst e1 e2
  have hl : (ds.drop k).length = ds.length - k := by simp
  refine ⟨_, cap', by rw [hl], by omega, fun i hi => ?_⟩
  rw [hl] at hi
  obtain ⟨b', off', h1, h2, h3, h4, h5⟩ := hc (k + i) (by omega)
  injection h1 with h1'
  injection h1' with h6 h7
  subst h6 h7
  have hn : nth De.z (ds.drop k) i = nth De.z ds (k + i) := by simp [nth]
  have e3 : off + k * 3 + i * 3 = off + (k + i) * 3 := by omega
  exact ⟨b, off + k * 3, rfl, h2, by rw [hn, e3]; exact h3, by rw [hn, e3]; exact h4, by rw [hn, e3]; exact h5⟩

theorem DeedsAt.dropEnd {ds : List De} {q : Nat} (w : World) (a : Option Addr) (cap : Nat) (h : ds.length ≤ q) : DeedsAt w (.slice a (ds.length - q) cap) (ds.drop q) := by
  have e1 : ds.length - q = 0 := by omega
  have e2 : ds.drop q = [] := List.drop_eq_nil_of_le h
  rw [e1, e2]
  exact DeedsAt.nil _ _ _

end Go.Proofs.Ythllcbbjibfklaa
