/-
  Changes, in plain words; ChangeOk, of the program and of the model.
-/
import Derived.Test.YtpehlekjfnkhoaaDoorD4
namespace Go.Proofs.YtpehlekjfnkhoaaDoor
open Go.RowKit
set_option linter.unusedSimpArgs false
set_option linter.unusedVariables false

/-! ### Plain -/
def chB (ds : List De) (n : Int) : Bool := plB n 4 && dsB ds n
/-- one deed -/
def doD (c r : List Int) (d : De) : Option (List Int × List Int) :=
  if d.k = 1 then some (c, r.set d.a.toNat (nth 0 c d.b.toNat))
  else if d.k = 2 then some (c.set d.a.toNat (nth 0 r d.b.toNat), r)
  else if d.k = 3 then some (c, r.set d.a.toNat d.b)
  else if d.k = 4 then some (c, r.set d.a.toNat ((nth 0 r d.a.toNat + nth 0 r d.b.toNat) % 100))
  else if nth 0 r d.a.toNat = 0 then none else some (c, r)
def doDs : List Int → List Int → List De → Option (List Int × List Int)
  | c, r, [] => some (c, r)
  | c, r, d :: ds => (doD c r d).bind fun x => doDs x.1 x.2 ds
def rsB (r : List Int) : Bool := decide (r.length = 3) && nsB r
def goB (c r : List Int) (ds : List De) : Bool := csB c && rsB r && chB ds c.length
def chDo (c r : List Int) (ds : List De) : Option (List Int × List Int) := if goB c r ds then doDs c r ds else none
def chX (c r : List Int) (ds : List De) : List Int × List Int × Bool := match chDo c r ds with
  | some x => (x.1, x.2, true)
  | none => ([], [], false)

theorem doDs_append (l1 l2 : List De) : ∀ c r, doDs c r (l1 ++ l2) = (doDs c r l1).bind fun x => doDs x.1 x.2 l2 := by
  induction l1 with
  | nil => intro c r; rfl
  | cons d l ih =>
    intro c r
    simp only [List.cons_append, doDs]
    cases doD c r d with
    | none => rfl
    | some x => exact ih x.1 x.2
theorem doDs_snoc (l : List De) (d : De) (c r : List Int) : doDs c r (l ++ [d]) = (doDs c r l).bind fun x => doD x.1 x.2 d := by
  rw [doDs_append]
  cases doDs c r l with
  | none => rfl
  | some x =>
    simp only [Option.bind_some, doDs]
    cases doD x.1 x.2 d <;> rfl
/-- cells and registers in form -/
structure InF (c r : List Int) (n : Nat) : Prop where
  cl : c.length = n
  rl : r.length = 3
  ca : ∀ x, x ∈ c → 0 ≤ x ∧ x ≤ 99
  ra : ∀ x, x ∈ r → 0 ≤ x ∧ x ≤ 99
theorem nsB_iff (xs : List Int) : nsB xs = true ↔ ∀ x, x ∈ xs → 0 ≤ x ∧ x ≤ 99 := by
  unfold nsB plB
  rw [List.all_eq_true]
  constructor
  · intro h x hx; have := h x hx; simp at this; omega
  · intro h x hx; have := h x hx; simp; omega
theorem csB_eq (c : List Int) : csB c = (decide (c.length ≤ 3) && nsB c) := rfl
theorem goB_inF {c r : List Int} {ds : List De} (h : goB c r ds = true) : InF c r c.length ∧ c.length ≤ 3 ∧ dsB ds c.length = true := by
  unfold goB rsB chB at h
  rw [csB_eq] at h
  simp only [Bool.and_eq_true, decide_eq_true_eq] at h
  obtain ⟨⟨⟨h1, h2⟩, h3, h4⟩, h5, h6⟩ := h
  exact ⟨⟨rfl, h3, (nsB_iff c).1 h2, (nsB_iff r).1 h4⟩, h1, h6⟩
theorem nth_bd {xs : List Int} (h : ∀ x, x ∈ xs → 0 ≤ x ∧ x ≤ 99) (i : Nat) : 0 ≤ nth 0 xs i ∧ nth 0 xs i ≤ 99 := by
  by_cases hi : i < xs.length
  · exact h _ (nth_mem 0 xs i hi)
  · simp [nth, List.getElem?_eq_none (show xs.length ≤ i by omega)]
theorem mem_set_bd {xs : List Int} (h : ∀ x, x ∈ xs → 0 ≤ x ∧ x ≤ 99) (i : Nat) (y : Int) (hy : 0 ≤ y ∧ y ≤ 99) : ∀ x, x ∈ xs.set i y → 0 ≤ x ∧ x ≤ 99 := fun x hx => by
  rcases List.mem_or_eq_of_mem_set hx with h1 | h1
  · exact h x h1
  · rw [h1]; exact hy
theorem plB_iff (n e : Int) : plB n e = true ↔ 0 ≤ n ∧ n < e := by simp [plB]
/-- what a deed in form is, with its numbers as places -/
theorem deB_cases {d : De} {n : Nat} (h : deB d n = true) :
    (∃ a b : Nat, d = ⟨1, a, b⟩ ∧ a < 3 ∧ b < n) ∨ (∃ a b : Nat, d = ⟨2, a, b⟩ ∧ a < n ∧ b < 3) ∨ (∃ a b : Nat, d = ⟨3, a, b⟩ ∧ a < 3 ∧ b < 100) ∨
    (∃ a b : Nat, d = ⟨4, a, b⟩ ∧ a < 3 ∧ b < 3) ∨ (∃ a : Nat, d = ⟨5, a, 0⟩ ∧ a < 3) := by
  obtain ⟨k, a, b⟩ := d
  unfold deB at h
  dsimp only at h
  split at h
  · rename_i e; simp only [Bool.and_eq_true, plB_iff] at h
    refine .inl ⟨a.toNat, b.toNat, ?_, by omega, by omega⟩
    rw [e, Int.toNat_of_nonneg h.1.1, Int.toNat_of_nonneg h.2.1]
  · split at h
    · rename_i e; simp only [Bool.and_eq_true, plB_iff] at h
      refine .inr (.inl ⟨a.toNat, b.toNat, ?_, by omega, by omega⟩)
      rw [e, Int.toNat_of_nonneg h.1.1, Int.toNat_of_nonneg h.2.1]
    · split at h
      · rename_i e; simp only [Bool.and_eq_true, plB_iff] at h
        refine .inr (.inr (.inl ⟨a.toNat, b.toNat, ?_, by omega, by omega⟩))
        rw [e, Int.toNat_of_nonneg h.1.1, Int.toNat_of_nonneg h.2.1]
      · split at h
        · rename_i e; simp only [Bool.and_eq_true, plB_iff] at h
          refine .inr (.inr (.inr (.inl ⟨a.toNat, b.toNat, ?_, by omega, by omega⟩)))
          rw [e, Int.toNat_of_nonneg h.1.1, Int.toNat_of_nonneg h.2.1]
        · split at h
          · rename_i e; simp only [Bool.and_eq_true, plB_iff, decide_eq_true_eq] at h
            refine .inr (.inr (.inr (.inr ⟨a.toNat, ?_, by omega⟩)))
            rw [e, h.2, Int.toNat_of_nonneg h.1.1]
          · cases h
theorem doD_inF {c r c' r' : List Int} {n : Nat} {d : De} (hd : deB d n = true) (h : InF c r n) (e : doD c r d = some (c', r')) : InF c' r' n := by
  rcases deB_cases hd with ⟨a, b, rfl, ha, hb⟩ | ⟨a, b, rfl, ha, hb⟩ | ⟨a, b, rfl, ha, hb⟩ | ⟨a, b, rfl, ha, hb⟩ | ⟨a, rfl, ha⟩
  · simp [doD] at e; obtain ⟨rfl, rfl⟩ := e
    exact ⟨h.cl, by simp [h.rl], h.ca, mem_set_bd h.ra _ _ (nth_bd h.ca _)⟩
  · simp [doD] at e; obtain ⟨rfl, rfl⟩ := e
    exact ⟨by simp [h.cl], h.rl, mem_set_bd h.ca _ _ (nth_bd h.ra _), h.ra⟩
  · simp [doD] at e; obtain ⟨rfl, rfl⟩ := e
    exact ⟨h.cl, by simp [h.rl], h.ca, mem_set_bd h.ra _ _ (by omega)⟩
  · simp [doD] at e; obtain ⟨rfl, rfl⟩ := e
    exact ⟨h.cl, by simp [h.rl], h.ca, mem_set_bd h.ra _ _ (by omega)⟩
  · simp [doD] at e; obtain ⟨_, rfl, rfl⟩ := e
    exact h
theorem doDs_inF {n : Nat} : ∀ (ds : List De) (c r c' r' : List Int), (∀ d, d ∈ ds → deB d n = true) → InF c r n → doDs c r ds = some (c', r') → InF c' r' n := by
  intro ds
  induction ds with
  | nil => intro c r c' r' _ h e; simp [doDs] at e; obtain ⟨rfl, rfl⟩ := e; exact h
  | cons d ds ih =>
    intro c r c' r' hd h e
    simp only [doDs] at e
    cases hx : doD c r d with
    | none => rw [hx] at e; cases e
    | some x =>
      rw [hx] at e
      obtain ⟨c1, r1⟩ := x
      exact ih c1 r1 c' r' (fun d' hd' => hd d' (List.mem_cons_of_mem _ hd')) (doD_inF (hd d (List.mem_cons_self ..)) h hx) e
theorem dsB_all {ds : List De} {n : Int} (h : dsB ds n = true) : ds.length ≤ 5 ∧ ∀ d, d ∈ ds → deB d n = true := by
  unfold dsB at h
  simp only [Bool.and_eq_true, decide_eq_true_eq, List.all_eq_true] at h
  exact h

/-! ### ChangeOk -/
set_option maxHeartbeats 400000 in
theorem changeOk_any (v : Value) (ds : List De) (n : Int) (w : World) (h : DeedsAt w v ds) :
    Calls Tryd.prog 69 #[v, .int .i64 n] w fun r w' => r = .returned (.bool (chB ds n)) ∧ Below w.heap.size w w' := by
  obtain ⟨a, cap, rfl, hm⟩ := h.shape
  have HD := (show Hid (DeedsAt _ _ _) from h)
  clear h
  cases hp : plB n 4
  · have HF : Hid (chB ds n = false) := by simp [Hid, chB, hp]
    go_enter Tryd.func69, Tryd.ntmps69
    go_wp2_with (go_at_call 65; refine (isPlace_any _ _ _).mono ?_; rintro e w' ⟨rfl, rfl⟩)
    go_ret
    exact ⟨by rw [HF.out]; rfl, Below.refl _ _⟩
  · have HF : Hid (chB ds n = dsB ds n) := by simp [Hid, chB, hp]
    go_enter Tryd.func69, Tryd.ntmps69
    go_wp2_with (first | (go_at_call 65; refine (isPlace_any _ _ _).mono ?_; rintro e w' ⟨rfl, rfl⟩) | (go_at_call 66; refine (deedsInForm_any _ ds n _ HD.out).mono ?_; rintro e w' ⟨rfl, hb⟩))
    go_ret
    exact ⟨by rw [HF.out]; rfl, hb⟩

theorem in_pl4 (n : Int) : inB n 0 3 = plB n 4 := by
  unfold inB plB; exact decide_eq_decide.2 (by omega)

set_option maxHeartbeats 400000 in
/-- of a number below 0 of cells: some answer -/
theorem l1Deed_some (d : De) (c : Int) (w : World) :
    Calls Tryd.prog 63 #[.agg #[.int .i64 d.k, .int .i64 d.a, .int .i64 d.b], .int .i64 c] w fun r w' => ∃ q : Bool, r = .returned (.bool q) ∧ Below w.heap.size w w' := by
  obtain ⟨k, a, b⟩ := d
  dsimp only
  by_cases h1 : k = 1
  · subst h1
    cases hp : inB a 0 2
    all_goals
      go_enter Tryd.func63, Tryd.ntmps63
      go_wp2_with (go_at_call 49; refine (l6In_any _ _ _ _).mono ?_; rintro e w' ⟨rfl, rfl⟩)
      go_ret
      exact ⟨_, rfl, (by repeat (first | exact Below.refl _ _ | refine Below.alloc ?_ (by simp; try omega) _ | refine Below.drew ?_ | refine Below.setCell ?_ (by simp; try omega) _))⟩
  by_cases h2 : k = 2
  · subst h2
    cases hp : inB a 0 (wrap64 (c - 1))
    all_goals
      go_enter Tryd.func63, Tryd.ntmps63
      go_wp2_with (go_at_call 49; refine (l6In_any _ _ _ _).mono ?_; rintro e w' ⟨rfl, rfl⟩)
      go_ret
      exact ⟨_, rfl, (by repeat (first | exact Below.refl _ _ | refine Below.alloc ?_ (by simp; try omega) _ | refine Below.drew ?_ | refine Below.setCell ?_ (by simp; try omega) _))⟩
  by_cases h3 : k = 3
  · subst h3
    cases hp : inB a 0 2
    all_goals
      go_enter Tryd.func63, Tryd.ntmps63
      go_wp2_with (go_at_call 49; refine (l6In_any _ _ _ _).mono ?_; rintro e w' ⟨rfl, rfl⟩)
      go_ret
      exact ⟨_, rfl, (by repeat (first | exact Below.refl _ _ | refine Below.alloc ?_ (by simp; try omega) _ | refine Below.drew ?_ | refine Below.setCell ?_ (by simp; try omega) _))⟩
  by_cases h4 : k = 4
  · subst h4
    cases hp : inB a 0 2
    all_goals
      go_enter Tryd.func63, Tryd.ntmps63
      go_wp2_with (go_at_call 49; refine (l6In_any _ _ _ _).mono ?_; rintro e w' ⟨rfl, rfl⟩)
      go_ret
      exact ⟨_, rfl, (by repeat (first | exact Below.refl _ _ | refine Below.alloc ?_ (by simp; try omega) _ | refine Below.drew ?_ | refine Below.setCell ?_ (by simp; try omega) _))⟩
  have g1 : (k == 1) = false := by simp [h1]
  have g2 : (k == 2) = false := by simp [h2]
  have g3 : (k == 3) = false := by simp [h3]
  have g4 : (k == 4) = false := by simp [h4]
  by_cases h5 : k = 5
  · subst h5
    cases hp : inB a 0 2
    all_goals
      go_enter Tryd.func63, Tryd.ntmps63
      go_wp2_with (go_at_call 49; refine (l6In_any _ _ _ _).mono ?_; rintro e w' ⟨rfl, rfl⟩)
      go_ret
      exact ⟨_, rfl, (by repeat (first | exact Below.refl _ _ | refine Below.alloc ?_ (by simp; try omega) _ | refine Below.drew ?_ | refine Below.setCell ?_ (by simp; try omega) _))⟩
  · have g5 : (k == 5) = false := by simp [h5]
    clear h1 h2 h3 h4 h5
    go_enter Tryd.func63, Tryd.ntmps63
    go_wp2_with (go_at_call 49; refine (l6In_any _ _ _ _).mono ?_; rintro e w' ⟨rfl, rfl⟩)
    go_ret
    exact ⟨_, rfl, (by repeat (first | exact Below.refl _ _ | refine Below.alloc ?_ (by simp; try omega) _ | refine Below.drew ?_ | refine Below.setCell ?_ (by simp; try omega) _))⟩

set_option maxHeartbeats 400000 in
theorem sChangeOk_any (v : Value) (ds : List De) (n : Int) (w : World) (h : DeedsAt w v ds) (hn : n ≤ 9223372036854775807) :
    Calls Tryd.prog 51 #[v, .int .i64 n] w fun r w' => r = .returned (.bool (chB ds n)) ∧ Below w.heap.size w w' := by
  obtain ⟨a, cap, rfl, hm, hc⟩ := h
  by_cases hn0 : 0 ≤ n
  · go_enter Tryd.func51, Tryd.ntmps51
    go_wp2_with fail
    go_loopw [5] (fun i w' => ∃ k : Nat, k ≤ ds.length ∧ i = .int .i64 k ∧ Below w.heap.size w w' ∧ (∀ j, j < k → deB (nth De.z ds j) n = true)) (fun i _ => ds.length - (intOf i).toNat)
    case atStart => exact ⟨0, Nat.zero_le _, rfl, Below.refl _ _, fun j hj => absurd hj (Nat.not_lt_zero _)⟩
    case round =>
      obtain ⟨k, hk, rfl, hb, hall⟩ := hrel
      by_cases hlt : k < ds.length
      · obtain ⟨b, off, rfl, hbw, c0, c1, c2⟩ := hc k hlt
        rw [← hb.cell (p := ⟨b, _, none⟩) hbw] at c0 c1 c2
        clear hc
        go_wp2_with fail
        refine (l1Deed_any (nth De.z ds k) n _ hn0 hn).mono ?_
        rintro e w1 ⟨rfl, hb1⟩
        have HB : Hid (Below w.heap.size w w1) := below_then hb hb.size hb1
        clear hb hb1 c0 c1 c2
        cases hd : deB (nth De.z ds k) n
        · have HF : Hid (chB ds n = false) := by simp [Hid, chB, dsB, not_all_nth De.z (deB · n) ds k hlt hd]
          clear hd hall
          go_wp2
          go_ret
          exact ⟨by rw [HF.out]; rfl, HB.out⟩
        · have HA : Hid (∀ j, j < k + 1 → deB (nth De.z ds j) n = true) := so_far hall hd
          clear hd hall
          go_wp2
          go_roundw
          case rel => exact ⟨k + 1, by omega, by go_num, HB.out, HA.out⟩
          case measure => simp [intOf]; omega
      · have ha := all_nth De.z (deB · n) ds (fun j hj => hall j (by omega))
        by_cases h5 : ds.length ≤ 5
        · have h5' : decide ((ds.length : Int) ≤ 5) = true := by simp; omega
          have HF : Hid (chB ds n = inB n 0 3) := by simp [Hid, chB, dsB, ha, h5, in_pl4]
          clear hall hc ha
          go_wp2_with (go_at_call 49; refine (l6In_any _ _ _ _).mono ?_; rintro e w' ⟨rfl, rfl⟩)
          go_ret
          exact ⟨by rw [HF.out]; rfl, hb⟩
        · have h5' : decide ((ds.length : Int) ≤ 5) = false := by simp; omega
          have HF : Hid (chB ds n = false) := by simp [Hid, chB, dsB, h5]
          clear hall hc ha
          go_wp2
          go_ret
          exact ⟨by rw [HF.out]; rfl, hb⟩
  · have HF : Hid (chB ds n = false) := by simp [Hid, chB, plB, hn0]
    have hi : inB n 0 3 = false := by simp [inB, hn0]
    go_enter Tryd.func51, Tryd.ntmps51
    go_wp2_with fail
    go_loopw [5] (fun i w' => ∃ k : Nat, k ≤ ds.length ∧ i = .int .i64 k ∧ Below w.heap.size w w') (fun i _ => ds.length - (intOf i).toNat)
    case atStart => exact ⟨0, Nat.zero_le _, rfl, Below.refl _ _⟩
    case round =>
      obtain ⟨k, hk, rfl, hb⟩ := hrel
      by_cases hlt : k < ds.length
      · obtain ⟨b, off, rfl, hbw, c0, c1, c2⟩ := hc k hlt
        rw [← hb.cell (p := ⟨b, _, none⟩) hbw] at c0 c1 c2
        clear hc
        go_wp2_with fail
        refine (l1Deed_some (nth De.z ds k) n _).mono ?_
        rintro e w1 ⟨q, rfl, hb1⟩
        have HB : Hid (Below w.heap.size w w1) := below_then hb hb.size hb1
        clear hb hb1 c0 c1 c2
        cases q
        · go_wp2
          go_ret
          exact ⟨by rw [HF.out]; rfl, HB.out⟩
        · go_wp2
          go_roundw
          case rel => exact ⟨k + 1, by omega, by go_num, HB.out⟩
          case measure => simp [intOf]; omega
      · by_cases h5 : ds.length ≤ 5
        · have h5' : decide ((ds.length : Int) ≤ 5) = true := by simp; omega
          clear hc
          go_wp2_with (go_at_call 49; refine (l6In_any _ _ _ _).mono ?_; rintro e w' ⟨rfl, rfl⟩)
          go_ret
          exact ⟨by rw [HF.out]; rfl, hb⟩
        · have h5' : decide ((ds.length : Int) ≤ 5) = false := by simp; omega
          clear hc
          go_wp2
          go_ret
          exact ⟨by rw [HF.out]; rfl, hb⟩

end Go.Proofs.YtpehlekjfnkhoaaDoor
