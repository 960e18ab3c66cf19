import Derived.Test.YtgbgjljflgbcaaaNe05
namespace Go.Proofs.Ytgbgjljflgbcaaa
open Go.RowKit
set_option linter.unusedSimpArgs false
set_option linter.unusedVariables false
def rgB (r : List Int) : Bool := decide (r.length = 3) && r.all (plB · 100)
def puB (xs : List Pu) (c : Int) : Bool := (List.range xs.length).all fun i => plB (nth Pu.z xs i).c c && plB (nth Pu.z xs i).n 100 && (decide (i = 0) || decide ((nth Pu.z xs (i - 1)).c < (nth Pu.z xs i).c))
def liB (t : Ta) : Bool := decide (t.way = 0) || decide (t.way = 1)
def tkN (s : Sy) (i : Nat) : Ta := nth Ta.z s.tasks i
def acts (p : Pr) (t : Ta) : List Ac := nth [] p.bodies t.body.toNat
def upfB (s : Sy) (i : Nat) : Bool :=
  if i = 0 then decide ((tkN s i).up = -1) else plB (tkN s i).up i && (!liB (tkN s i) || decide ((tkN s (tkN s i).up.toNat).way = 1))
def kin (ts : List Ta) (i : Int) (way : Int) : Nat := (ts.filter fun u => decide (u.up = i) && decide (u.way = way)).length
def kno (ts : List Ta) (i : Int) : Nat := (ts.filter fun u => decide (u.up = i) && !decide (u.way = 4)).length
def tnB (p : Pr) (t : Ta) : Bool := plB t.body p.bodies.length && inB t.pc 0 (acts p t).length && rgB t.regs && rgB t.old && inB t.way 0 4 && inB t.stage 0 5
def acN (p : Pr) (t : Ta) : Ac := if t.pc = (acts p t).length then Ac.z else nth Ac.z (acts p t) t.pc.toNat
def wyB (p : Pr) (s : Sy) (i : Nat) : Bool :=
  if (tkN s i).way = 1 then decide ((acN p (tkN s i)).k = 2) && decide ((acN p (tkN s i)).ks.length ≤ kno s.tasks i)
  else if (tkN s i).way = 2 then decide ((tkN s i).pc = (acts p (tkN s i)).length) else true
def atB (t : Ta) (n : Nat) : Bool :=
  if 2 ≤ t.stage ∧ t.puts.length = 0 then false
  else if t.stage = 1 then inB t.at_ 0 n
  else if t.stage = 2 ∨ t.stage = 5 then plB t.at_ t.puts.length
  else if t.stage = 4 then inB t.at_ 0 t.reads.length
  else decide (t.at_ = 0)
def whB (t : Ta) (clock : Int) : Bool :=
  if t.stage = 0 then inB t.when_ 0 (clock + 1)
  else if t.stage = 4 ∨ t.stage = 5 then decide (t.since < t.when_) && decide (t.when_ ≤ clock)
  else decide (t.when_ = 0)
def cgB (p : Pr) (s : Sy) (t : Ta) : Bool :=
  !(!decide (t.stage = 0) && (!decide (t.way = 0) || !decide ((acN p t).k = 1))) && !(decide (t.stage = 0) && decide (0 < t.reads.length + t.puts.length)) &&
  (puB t.reads p.cells.length && (puB t.puts p.cells.length && (atB t (acN p t).ds.length && (inB t.since 0 s.clock && (inB t.from_ 0 s.log.length && whB t s.clock)))))
def tkB (p : Pr) (s : Sy) (i : Nat) : Bool := tnB p (tkN s i) && upfB s i && wyB p s i && cgB p s (tkN s i)
def tksB (p : Pr) (s : Sy) : Bool := inB s.tasks.length 1 7 && (List.range s.tasks.length).all (tkB p s)
def phL (t : Ta) : List Pu := if t.stage = 2 then t.puts.take t.at_.toNat else if t.stage = 3 ∨ t.stage = 4 then t.puts else if t.stage = 5 then t.puts.drop t.at_.toNat else []
def hold1 (i : Int) : List Int → List Pu → Option (List Int)
  | h, [] => some h
  | h, x :: xs => if nth 0 h x.c.toNat = -1 then hold1 i (h.set x.c.toNat i) xs else none
def holdN (ts : List Ta) (h0 : List Int) : Nat → Option (List Int)
  | 0 => some h0
  | k + 1 => (holdN ts h0 k).bind fun h => hold1 k h (phL (nth Ta.z ts k))
def ceB (s : Sy) (h : List Int) (i : Nat) : Bool := plB (nth Ce.z s.cells i).num 100 && inB (nth Ce.z s.cells i).time 0 s.clock && decide ((nth Ce.z s.cells i).lock = nth 0 h i)
def cesB (p : Pr) (s : Sy) : Bool :=
  decide (s.cells.length = p.cells.length) && (match holdN s.tasks (List.replicate s.cells.length (-1)) s.tasks.length with
    | none => false
    | some h => (List.range s.cells.length).all (ceB s h))
def enN (s : Sy) (i : Nat) : En := nth En.z s.log i
def enB (p : Pr) (s : Sy) (i : Nat) : Bool :=
  plB (enN s i).task s.tasks.length && plB (enN s i).act (acts p (tkN s (enN s i).task.toNat)).length && inB (enN s i).when_ 0 s.clock && inB (enN s i).from_ 0 i && puB (enN s i).reads p.cells.length && puB (enN s i).puts p.cells.length
def lgB (p : Pr) (s : Sy) : Bool := (List.range s.log.length).all (enB p s)
def soB (p : Pr) (s : Sy) : Bool := okB p && inB s.clock 0 200 && tksB p s && cesB p s && lgB p s
def mAtB (t : Ta) (n : Nat) : Bool :=
  if t.stage = 0 then decide (t.at_ = 0) && decide (t.reads.length + t.puts.length = 0)
  else if t.stage = 1 then inB t.at_ 0 n
  else if t.stage = 3 then decide (t.at_ = 0) && decide (0 < t.puts.length)
  else if t.stage = 4 then inB t.at_ 0 t.reads.length && decide (0 < t.puts.length)
  else plB t.at_ t.puts.length
def mWhB (t : Ta) (s : Sy) : Bool :=
  if inB t.since 0 s.clock && inB t.from_ 0 s.log.length then
    if t.stage = 0 then inB t.when_ 0 (s.clock + 1)
    else if t.stage = 4 ∨ t.stage = 5 then inB t.when_ (t.since + 1) s.clock
    else decide (t.when_ = 0)
  else false
def mActB (p : Pr) (s : Sy) (i : Nat) : Bool :=
  if (tkN s i).way = 0 then decide ((tkN s i).stage = 0) || (decide ((tkN s i).pc < (acts p (tkN s i)).length) && decide ((nth Ac.z (acts p (tkN s i)) (tkN s i).pc.toNat).k = 1) && mAtB (tkN s i) (nth Ac.z (acts p (tkN s i)) (tkN s i).pc.toNat).ds.length)
  else if (tkN s i).way = 1 then decide ((tkN s i).pc < (acts p (tkN s i)).length) && decide ((nth Ac.z (acts p (tkN s i)) (tkN s i).pc.toNat).k = 2) && decide ((nth Ac.z (acts p (tkN s i)) (tkN s i).pc.toNat).ks.length ≤ kin s.tasks i 0 + kin s.tasks i 1 + kin s.tasks i 2 + kin s.tasks i 3)
  else if (tkN s i).way = 2 then decide ((tkN s i).pc = (acts p (tkN s i)).length)
  else true
def mNumB (p : Pr) (t : Ta) : Bool := plB t.body p.bodies.length && inB t.pc 0 (acts p t).length && inB t.way 0 4 && inB t.stage 0 5
def mLsB (s : Sy) (t : Ta) : Bool := !(!decide (t.way = 0) && !decide (t.stage = 0)) && rgB t.regs && rgB t.old && puB t.reads s.cells.length && puB t.puts s.cells.length
def mNoB (t : Ta) : Bool := !decide (t.stage = 0) || (decide (t.at_ = 0) && decide (t.reads.length + t.puts.length = 0))
def mTkB (p : Pr) (s : Sy) (i : Nat) : Bool := mNumB p (tkN s i) && mLsB s (tkN s i) && (mNoB (tkN s i) && mWhB (tkN s i) s && upfB s i && mActB p s i)
def fdP (xs : List Pu) (c : Int) : Option Nat := (List.range xs.length).find? fun i => decide ((nth Pu.z xs i).c = c)
def mHoB (t : Ta) (c : Int) : Bool := match fdP t.puts c with
  | none => false
  | some i => if t.stage = 2 then decide ((i : Int) < t.at_) else if t.stage = 3 ∨ t.stage = 4 then true else if t.stage = 5 then decide (t.at_ ≤ (i : Int)) else false
def mCeB (s : Sy) (i : Nat) : Bool :=
  plB (nth Ce.z s.cells i).num 100 && inB (nth Ce.z s.cells i).time 0 s.clock && inB (nth Ce.z s.cells i).lock (-1) (s.tasks.length - 1) &&
  (List.range s.tasks.length).all fun k => mHoB (nth Ta.z s.tasks k) i == decide ((nth Ce.z s.cells i).lock = k)
def mCesB (s : Sy) : Bool := (List.range s.cells.length).all (mCeB s)
def mEnB (p : Pr) (s : Sy) (i : Nat) : Bool :=
  plB (enN s i).task s.tasks.length && inB (enN s i).when_ 0 s.clock && inB (enN s i).from_ 0 i && puB (enN s i).reads s.cells.length && puB (enN s i).puts s.cells.length && plB (enN s i).act (acts p (tkN s (enN s i).task.toNat)).length
def mLgB (p : Pr) (s : Sy) : Bool := (List.range s.log.length).all (mEnB p s)
def mSoB (p : Pr) (s : Sy) : Bool := okB p && decide (s.cells.length = p.cells.length) && inB s.tasks.length 1 7 && inB s.clock 0 200 && (List.range s.tasks.length).all (mTkB p s) && mCesB s && mLgB p s
end Go.Proofs.Ytgbgjljflgbcaaa

namespace Go.Proofs.Ytgbgjljflgbcaaa
open Go.RowKit
set_option linter.unusedSimpArgs false
set_option linter.unusedVariables false
theorem inB_iff (n lo hi : Int) : inB n lo hi = true ↔ lo ≤ n ∧ n ≤ hi := by simp [inB]
theorem plB_iff' (n e : Int) : plB n e = true ↔ 0 ≤ n ∧ n < e := by simp [plB]
theorem puB_iff (xs : List Pu) (c : Int) : puB xs c = true ↔ ∀ i, i < xs.length → (0 ≤ (nth Pu.z xs i).c ∧ (nth Pu.z xs i).c < c) ∧ (0 ≤ (nth Pu.z xs i).n ∧ (nth Pu.z xs i).n < 100) ∧ (i = 0 ∨ (nth Pu.z xs (i - 1)).c < (nth Pu.z xs i).c) := by
  unfold puB
  rw [List.all_eq_true]
  simp only [List.mem_range, Bool.and_eq_true, plB_iff', Bool.or_eq_true, decide_eq_true_eq, and_assoc]
theorem pu_lt {xs : List Pu} {c : Int} (h : puB xs c = true) {i j : Nat} (hij : i < j) (hj : j < xs.length) : (nth Pu.z xs i).c < (nth Pu.z xs j).c := by
  rw [puB_iff] at h
  induction j with
  | zero => omega
  | succ j ih =>
    have := (h (j + 1) hj).2.2
    simp only [Nat.add_sub_cancel] at this
    rcases Nat.lt_succ_iff_lt_or_eq.1 hij with h1 | h1
    · have := ih h1 (by omega); omega
    · subst h1; omega
theorem pu_inj {xs : List Pu} {c : Int} (h : puB xs c = true) {i j : Nat} (hi : i < xs.length) (hj : j < xs.length) (e : (nth Pu.z xs i).c = (nth Pu.z xs j).c) : i = j := by
  rcases Nat.lt_trichotomy i j with h1 | h1 | h1
  · have := pu_lt h h1 hj; omega
  · exact h1
  · have := pu_lt h h1 hi; omega
theorem kno_eq (ts : List Ta) (i : Int) (h : ∀ u, u ∈ ts → 0 ≤ u.way ∧ u.way ≤ 4) : kno ts i = kin ts i 0 + kin ts i 1 + kin ts i 2 + kin ts i 3 := by
  induction ts with
  | nil => rfl
  | cons u ts ih =>
    have hu := h u (by simp)
    have ih := ih (fun v hv => h v (by simp [hv]))
    simp only [kno, kin] at ih ⊢
    simp only [List.filter_cons]
    by_cases hup : u.up = i
    · have : u.way = 0 ∨ u.way = 1 ∨ u.way = 2 ∨ u.way = 3 ∨ u.way = 4 := by omega
      rcases this with e | e | e | e | e <;> simp [hup, e] <;> omega
    · simp [hup]; omega
theorem tk_eq (p : Pr) (s : Sy) (i : Nat) (hc : s.cells.length = p.cells.length) (hk : kno s.tasks i = kin s.tasks i 0 + kin s.tasks i 1 + kin s.tasks i 2 + kin s.tasks i 3) : tkB p s i = mTkB p s i := by
  unfold tkB mTkB tnB mNumB mLsB mNoB mWhB mActB wyB cgB acN
  rw [hc, ← hk]
  generalize upfB s i = bu
  generalize tkN s i = t
  generalize acts p t = la
  generalize kno s.tasks i = kn
  generalize puB t.reads p.cells.length = br
  generalize puB t.puts p.cells.length = bp
  generalize rgB t.regs = g1
  generalize rgB t.old = g2
  generalize plB t.body p.bodies.length = b1
  by_cases hpc : inB t.pc 0 la.length = true
  case neg => simp [hpc]
  by_cases hw : inB t.way 0 4 = true
  case neg => simp [hw]
  by_cases hs : inB t.stage 0 5 = true
  case neg => simp [hs]
  simp only [hpc, hw, hs, Bool.and_true]
  rw [inB_iff] at hpc hw hs
  cases b1 <;> simp only [Bool.false_and, Bool.and_false, Bool.true_and, Bool.and_true]
  cases g1 <;> simp only [Bool.false_and, Bool.and_false, Bool.true_and, Bool.and_true]
  cases g2 <;> simp only [Bool.false_and, Bool.and_false, Bool.true_and, Bool.and_true]
  cases br <;> simp only [Bool.false_and, Bool.and_false, Bool.true_and, Bool.and_true]
  cases bp <;> simp only [Bool.false_and, Bool.and_false, Bool.true_and, Bool.and_true]
  cases bu <;> simp only [Bool.false_and, Bool.and_false, Bool.true_and, Bool.and_true]
  have e1 : (t.pc = (la.length : Int)) ↔ ¬ (t.pc < (la.length : Int)) := by omega
  have hz : Ac.z.k = 0 := rfl
  by_cases hlt : t.pc < (la.length : Int)
  · have hne : ¬ (t.pc = (la.length : Int)) := by omega
    simp only [if_neg hne, hlt, hne, decide_true, decide_false, Bool.true_and]
    generalize nth Ac.z la t.pc.toNat = a
    have hw' : t.way = 0 ∨ t.way = 1 ∨ t.way = 2 ∨ t.way = 3 ∨ t.way = 4 := by omega
    have hs' : t.stage = 0 ∨ t.stage = 1 ∨ t.stage = 2 ∨ t.stage = 3 ∨ t.stage = 4 ∨ t.stage = 5 := by omega
    rcases hs' with e | e | e | e | e | e <;> rcases hw' with f | f | f | f | f <;> simp [e, f, atB, mAtB, whB] <;> (rw [Bool.eq_iff_iff]; simp [inB_iff, plB_iff', inB, plB]; try grind)
  · have he : t.pc = (la.length : Int) := by omega
    simp only [he, if_true, decide_true, Int.lt_irrefl, decide_false, Bool.false_and]
    have hw' : t.way = 0 ∨ t.way = 1 ∨ t.way = 2 ∨ t.way = 3 ∨ t.way = 4 := by omega
    have hs' : t.stage = 0 ∨ t.stage = 1 ∨ t.stage = 2 ∨ t.stage = 3 ∨ t.stage = 4 ∨ t.stage = 5 := by omega
    rcases hs' with e | e | e | e | e | e <;> rcases hw' with f | f | f | f | f <;> simp [e, f, atB, mAtB, whB, Ac.z] <;> (rw [Bool.eq_iff_iff]; simp [inB_iff, plB_iff', inB, plB]; try grind)
theorem fdP_some {xs : List Pu} {c : Int} {i : Nat} (h : fdP xs c = some i) : i < xs.length ∧ (nth Pu.z xs i).c = c ∧ ∀ j, j < i → (nth Pu.z xs j).c ≠ c := by
  unfold fdP at h
  rw [List.find?_range_eq_some] at h
  obtain ⟨h1, h2, h3⟩ := h
  exact ⟨List.mem_range.1 h2, by simpa using h1, fun j hj => by simpa using h3 j hj⟩
theorem fdP_none {xs : List Pu} {c : Int} (h : fdP xs c = none) : ∀ j, j < xs.length → (nth Pu.z xs j).c ≠ c := by
  unfold fdP at h
  rw [List.find?_range_eq_none] at h
  intro j hj
  have := h j hj
  simpa using this
def heB (t : Ta) (c : Int) : Bool := (phL t).any fun x => decide (x.c = c)
theorem any_nth {α : Type} (z : α) (p : α → Bool) (l : List α) : l.any p = true ↔ ∃ j, j < l.length ∧ p (nth z l j) = true := by
  rw [List.any_eq_true]
  constructor
  · rintro ⟨x, hx, h⟩
    obtain ⟨j, hj, rfl⟩ := List.getElem_of_mem hx
    exact ⟨j, hj, by rw [nth_eq z l j hj]; exact h⟩
  · rintro ⟨j, hj, h⟩
    exact ⟨_, nth_mem z l j hj, h⟩
theorem nth_take {α : Type} (z : α) (l : List α) (n j : Nat) (h : j < n) : nth z (l.take n) j = nth z l j := by
  simp [nth, List.getElem?_take, h]
theorem nth_drop {α : Type} (z : α) (l : List α) (n j : Nat) : nth z (l.drop n) j = nth z l (n + j) := by
  simp [nth, List.getElem?_drop]
theorem mHo_eq (t : Ta) (c n : Int) (hp : puB t.puts n = true) (ha : 0 ≤ t.at_) : mHoB t c = heB t c := by
  unfold mHoB heB phL
  cases hf : fdP t.puts c with
  | none =>
    have hn := fdP_none hf
    simp only
    symm
    rw [Bool.eq_false_iff]
    intro h
    rw [any_nth Pu.z] at h
    obtain ⟨j, hj, h⟩ := h
    simp only [decide_eq_true_eq] at h
    split at hj <;> rename_i e1
    · rw [if_pos e1] at h
      have hj1 : j < t.at_.toNat := by simp at hj; omega
      have hj2 : j < t.puts.length := by simp at hj; omega
      rw [nth_take _ _ _ _ hj1] at h
      exact hn j hj2 h
    · rw [if_neg e1] at h
      split at hj <;> rename_i e2
      · rw [if_pos e2] at h; exact hn j hj h
      · rw [if_neg e2] at h
        split at hj <;> rename_i e3
        · rw [if_pos e3, nth_drop] at h
          exact hn _ (by simp at hj; omega) h
        · simp at hj
  | some i =>
    obtain ⟨h1, h2, h3⟩ := fdP_some hf
    simp only
    rw [Bool.eq_iff_iff, any_nth Pu.z]
    by_cases e1 : t.stage = 2
    · simp only [e1, if_true, decide_eq_true_eq]
      constructor
      · intro h
        refine ⟨i, by simp; omega, ?_⟩
        rw [nth_take _ _ _ _ (by omega)]; exact h2
      · rintro ⟨j, hj, h⟩
        have hj1 : j < t.at_.toNat := by simp at hj; omega
        have hj2 : j < t.puts.length := by simp at hj; omega
        rw [nth_take _ _ _ _ hj1] at h
        have := pu_inj hp h1 hj2 (by rw [h2, h])
        omega
    · simp only [e1, if_false]
      by_cases e2 : t.stage = 3 ∨ t.stage = 4
      · simp only [if_pos e2, decide_eq_true_eq]
        exact ⟨fun _ => ⟨i, h1, h2⟩, fun _ => trivial⟩
      · simp only [if_neg e2]
        by_cases e3 : t.stage = 5
        · simp only [e3, if_true, decide_eq_true_eq]
          constructor
          · intro h
            refine ⟨i - t.at_.toNat, by simp; omega, ?_⟩
            rw [nth_drop, show t.at_.toNat + (i - t.at_.toNat) = i by omega]; exact h2
          · rintro ⟨j, hj, h⟩
            rw [nth_drop] at h
            have hj2 : t.at_.toNat + j < t.puts.length := by simp at hj; omega
            have := pu_inj hp h1 hj2 (by rw [h2, h])
            omega
        · simp only [if_neg e3]
          constructor
          · intro h; cases h
          · rintro ⟨j, hj, _⟩; simp at hj
def CellsOk (xs : List Pu) (n : Nat) : Prop := (∀ i, i < xs.length → 0 ≤ (nth Pu.z xs i).c ∧ (nth Pu.z xs i).c < n) ∧ ∀ i j, i < xs.length → j < xs.length → (nth Pu.z xs i).c = (nth Pu.z xs j).c → i = j
theorem cellsOk_of {xs : List Pu} {n : Nat} (h : puB xs n = true) : CellsOk xs n :=
  ⟨fun i hi => ((puB_iff xs n).1 h i hi).1, fun i j hi hj e => pu_inj h hi hj e⟩
theorem cellsOk_ph {t : Ta} {n : Nat} (h : puB t.puts n = true) : CellsOk (phL t) n := by
  have h0 := cellsOk_of h
  unfold phL
  split
  · refine ⟨fun i hi => ?_, fun i j hi hj e => ?_⟩
    · simp at hi; rw [nth_take _ _ _ _ (by omega)]; exact h0.1 i (by omega)
    · simp at hi hj; rw [nth_take _ _ _ _ (by omega), nth_take _ _ _ _ (by omega)] at e; exact h0.2 i j (by omega) (by omega) e
  · split
    · exact h0
    · split
      · refine ⟨fun i hi => ?_, fun i j hi hj e => ?_⟩
        · simp at hi; rw [nth_drop]; exact h0.1 _ (by omega)
        · simp at hi hj; rw [nth_drop, nth_drop] at e; have := h0.2 _ _ (by omega) (by omega) e; omega
      · exact ⟨fun i hi => by simp at hi, fun i j hi => by simp at hi⟩
theorem cellsOk_tail {x : Pu} {xs : List Pu} {n : Nat} (h : CellsOk (x :: xs) n) : CellsOk xs n ∧ (0 ≤ x.c ∧ x.c < n) ∧ ∀ j, j < xs.length → (nth Pu.z xs j).c ≠ x.c := by
  refine ⟨⟨fun i hi => ?_, fun i j hi hj e => ?_⟩, ?_, fun j hj e => ?_⟩
  · have := h.1 (i + 1) (by simpa using hi); simpa [nth] using this
  · have := h.2 (i + 1) (j + 1) (by simpa using hi) (by simpa using hj) (by simpa [nth] using e); omega
  · have := h.1 0 (by simp); simpa [nth] using this
  · have := h.2 (j + 1) 0 (by simpa using hj) (by simp) (by simpa [nth] using e); omega
theorem nth_set {l : List Int} {i j : Nat} {x : Int} (h : i < l.length) : nth 0 (l.set i x) j = if i = j then x else nth 0 l j := by
  by_cases e : i = j
  · subst e; simp [nth, h]
  · simp [nth, List.getElem?_set_ne e, e]
theorem hold1_some {k : Nat} {xs : List Pu} {h : List Int} (hc : CellsOk xs h.length) :
    (hold1 k h xs = none ∧ ∃ j, j < xs.length ∧ nth 0 h (nth Pu.z xs j).c.toNat ≠ -1) ∨
    ∃ h', hold1 k h xs = some h' ∧ h'.length = h.length ∧ (∀ j, j < xs.length → nth 0 h (nth Pu.z xs j).c.toNat = -1) ∧ ∀ c, nth 0 h' c = if xs.any (fun x => decide (x.c = (c : Int))) then (k : Int) else nth 0 h c := by
  induction xs generalizing h with
  | nil => exact .inr ⟨h, rfl, rfl, fun j hj => by simp at hj, fun c => by simp⟩
  | cons x xs ih =>
    obtain ⟨h1, h2, h3⟩ := cellsOk_tail hc
    by_cases e : nth 0 h x.c.toNat = -1
    · rw [hold1, if_pos e]
      have hl : (h.set x.c.toNat (k : Int)).length = h.length := by simp
      rcases ih (h := h.set x.c.toNat (k : Int)) (by rw [hl]; exact h1) with ⟨g1, j, hj, g2⟩ | ⟨h', g1, g2, g3, g4⟩
      · refine .inl ⟨g1, j + 1, by simpa using hj, ?_⟩
        have hne := h3 j hj
        have hr := h1.1 j hj
        rw [nth_set (by omega), if_neg (by omega)] at g2
        simpa [nth] using g2
      · refine .inr ⟨h', g1, by rw [g2, hl], ?_, ?_⟩
        · intro j hj
          cases j with
          | zero => simpa [nth] using e
          | succ j =>
            have hj' : j < xs.length := by simpa using hj
            have := g3 j hj'
            have hne := h3 j hj'
            have hr := h1.1 j hj'
            rw [nth_set (by omega), if_neg (by omega)] at this
            simpa [nth] using this
        · intro c
          rw [g4 c, nth_set (by omega)]
          simp only [List.any_cons]
          by_cases ec : x.c = (c : Int)
          · have : x.c.toNat = c := by omega
            simp [ec, this]
          · have : ¬ x.c.toNat = c := by omega
            simp [ec, this]
    · rw [hold1, if_neg e]
      exact .inl ⟨rfl, 0, by simp, by simpa [nth] using e⟩
theorem holdN_spec {ts : List Ta} {n : Nat} (k : Nat) (hk : k ≤ ts.length) (hp : ∀ j, j < k → CellsOk (phL (nth Ta.z ts j)) n) :
    (holdN ts (List.replicate n (-1)) k = none ∧ ∃ i j c : Nat, i < k ∧ j < k ∧ i ≠ j ∧ c < n ∧ heB (nth Ta.z ts i) c = true ∧ heB (nth Ta.z ts j) c = true) ∨
    ∃ h, holdN ts (List.replicate n (-1)) k = some h ∧ h.length = n ∧ ∀ c : Nat, c < n → (nth 0 h c = -1 ∧ ∀ j, j < k → heB (nth Ta.z ts j) c = false) ∨ ∃ j : Nat, j < k ∧ nth 0 h c = (j : Int) ∧ heB (nth Ta.z ts j) c = true ∧ ∀ i, i < k → heB (nth Ta.z ts i) c = true → i = j := by
  induction k with
  | zero => exact .inr ⟨_, rfl, by simp, fun c hc => .inl ⟨by simp [nth, hc], fun j hj => by omega⟩⟩
  | succ k ih =>
    rcases ih (by omega) (fun j hj => hp j (by omega)) with ⟨h1, i, j, c, hi, hj, hne, hc, h2, h3⟩ | ⟨h, h1, h2, h3⟩
    · exact .inl ⟨by simp [holdN, h1], i, j, c, by omega, by omega, hne, hc, h2, h3⟩
    · have hC := hp k (by omega)
      rw [← h2] at hC
      have hx : ∀ c : Nat, heB (nth Ta.z ts k) c = (phL (nth Ta.z ts k)).any (fun x => decide (x.c = (c : Int))) := fun c => rfl
      rcases hold1_some (k := k) hC with ⟨g1, j, hj, g2⟩ | ⟨h', g1, g2, g3, g4⟩
      · have hr := hC.1 j hj
        have hcn : (nth Pu.z (phL (nth Ta.z ts k)) j).c.toNat < n := by omega
        refine .inl ⟨by simp [holdN, h1, g1], ?_⟩
        have hk1 : heB (nth Ta.z ts k) ((nth Pu.z (phL (nth Ta.z ts k)) j).c.toNat : Nat) = true := by
          rw [hx, any_nth Pu.z]
          exact ⟨j, hj, by simp; omega⟩
        rcases h3 _ hcn with ⟨q1, _⟩ | ⟨i, hi, q1, q2, _⟩
        · exact absurd q1 g2
        · exact ⟨i, k, _, by omega, by omega, by omega, hcn, q2, hk1⟩
      · refine .inr ⟨h', by simp [holdN, h1, g1], by rw [g2, h2], fun c hc => ?_⟩
        have hg := g4 c
        rw [← hx] at hg
        cases hb : heB (nth Ta.z ts k) c with
        | false =>
          rw [hb] at hg
          simp at hg
          rcases h3 c hc with ⟨q1, q2⟩ | ⟨j, hj, q1, q2, q3⟩
          · exact .inl ⟨by rw [hg, q1], so_far q2 hb⟩
          · refine .inr ⟨j, by omega, by rw [hg, q1], q2, fun i hi hi2 => ?_⟩
            rcases Nat.lt_succ_iff_lt_or_eq.1 hi with h5 | h5
            · exact q3 i h5 hi2
            · subst h5; rw [hb] at hi2; cases hi2
        | true =>
          rw [hb] at hg
          simp at hg
          refine .inr ⟨k, by omega, hg, hb, fun i hi hi2 => ?_⟩
          rcases Nat.lt_succ_iff_lt_or_eq.1 hi with h5 | h5
          · exfalso
            rw [hx, any_nth Pu.z] at hb
            obtain ⟨j, hj, hjc⟩ := hb
            simp only [decide_eq_true_eq] at hjc
            have g5 := g3 j hj
            rw [hjc] at g5
            simp only [Int.toNat_natCast] at g5
            rcases h3 c hc with ⟨_, q2⟩ | ⟨j', hj', q1, _⟩
            · rw [q2 i h5] at hi2; cases hi2
            · rw [q1] at g5; omega
          · exact h5
theorem ces_eq (p : Pr) (s : Sy) (hc : s.cells.length = p.cells.length) (hp : ∀ j, j < s.tasks.length → puB (nth Ta.z s.tasks j).puts s.cells.length = true ∧ 0 ≤ (nth Ta.z s.tasks j).at_) : cesB p s = mCesB s := by
  have hH : ∀ j c, j < s.tasks.length → mHoB (nth Ta.z s.tasks j) c = heB (nth Ta.z s.tasks j) c := fun j c hj => mHo_eq _ _ _ (hp j hj).1 (hp j hj).2
  unfold cesB mCesB
  rw [hc, decide_eq_true rfl, Bool.true_and, ← hc]
  rcases holdN_spec (n := s.cells.length) s.tasks.length (Nat.le_refl _) (fun j hj => cellsOk_ph (hp j hj).1) with ⟨h1, i, j, c, hi, hj, hne, hcn, h2, h3⟩ | ⟨h, h1, h2, h3⟩
  · rw [h1]
    simp only
    symm
    rw [List.all_eq_false]
    refine ⟨c, List.mem_range.2 hcn, ?_⟩
    unfold mCeB
    intro hall
    simp only [Bool.and_eq_true, List.all_eq_true, List.mem_range] at hall
    have e1 := hall.2 i hi
    have e2 := hall.2 j hj
    rw [hH i _ hi, h2] at e1
    rw [hH j _ hj, h3] at e2
    simp at e1 e2
    omega
  · rw [h1]
    simp only
    rw [Bool.eq_iff_iff, List.all_eq_true, List.all_eq_true]
    refine ⟨fun g i hi => ?_, fun g i hi => ?_⟩
    all_goals
      have hin := List.mem_range.1 hi
      have hg := g i hi
    · unfold ceB at hg
      unfold mCeB
      simp only [Bool.and_eq_true, decide_eq_true_eq] at hg
      obtain ⟨⟨g1, g2⟩, g3⟩ := hg
      simp only [Bool.and_eq_true, g1, g2, true_and, List.all_eq_true, List.mem_range, inB_iff]
      rcases h3 i hin with ⟨q1, q2⟩ | ⟨j, hj, q1, q2, q3⟩
      · refine ⟨by omega, fun k hk => ?_⟩
        rw [hH k _ hk, q2 k hk]
        simp; omega
      · refine ⟨by omega, fun k hk => ?_⟩
        rw [hH k _ hk]
        cases hb : heB (nth Ta.z s.tasks k) i with
        | false =>
          have : k ≠ j := fun e => by subst e; rw [hb] at q2; cases q2
          simp; omega
        | true =>
          have := q3 k hk hb
          simp; omega
    · unfold mCeB at hg
      unfold ceB
      simp only [Bool.and_eq_true, List.all_eq_true, List.mem_range, inB_iff] at hg
      obtain ⟨⟨⟨g1, g2⟩, g3⟩, g4⟩ := hg
      simp only [Bool.and_eq_true, g1, true_and, decide_eq_true_eq, inB_iff]
      refine ⟨g2, ?_⟩
      rcases h3 i hin with ⟨q1, q2⟩ | ⟨j, hj, q1, q2, q3⟩
      · rw [q1]
        by_cases hl : (nth Ce.z s.cells i).lock = -1
        · exact hl
        · exfalso
          have hk : (nth Ce.z s.cells i).lock.toNat < s.tasks.length := by omega
          have := g4 _ hk
          rw [hH _ _ hk, q2 _ hk] at this
          simp at this
          omega
      · rw [q1]
        have := g4 j hj
        rw [hH _ _ hj, q2] at this
        simpa using this
theorem lg_eq (p : Pr) (s : Sy) (hc : s.cells.length = p.cells.length) : lgB p s = mLgB p s := by
  unfold lgB mLgB
  congr 1
  funext i
  unfold enB mEnB
  rw [hc]
  generalize plB (enN s i).task s.tasks.length = b1
  generalize plB (enN s i).act _ = b2
  generalize inB (enN s i).when_ 0 s.clock = b3
  generalize inB (enN s i).from_ 0 i = b4
  generalize puB (enN s i).reads _ = b5
  generalize puB (enN s i).puts _ = b6
  cases b1 <;> cases b2 <;> cases b3 <;> cases b4 <;> cases b5 <;> cases b6 <;> rfl
theorem tkB_way {p : Pr} {s : Sy} {i : Nat} (h : tkB p s i = true) : 0 ≤ (tkN s i).way ∧ (tkN s i).way ≤ 4 := by
  unfold tkB tnB at h
  simp only [Bool.and_eq_true, inB_iff] at h
  omega
theorem mTkB_way {p : Pr} {s : Sy} {i : Nat} (h : mTkB p s i = true) : 0 ≤ (tkN s i).way ∧ (tkN s i).way ≤ 4 := by
  unfold mTkB mNumB at h
  simp only [Bool.and_eq_true, inB_iff] at h
  omega
theorem tkB_puts {p : Pr} {s : Sy} {i : Nat} (h : tkB p s i = true) : puB (tkN s i).puts p.cells.length = true ∧ 0 ≤ (tkN s i).at_ := by
  unfold tkB cgB at h
  simp only [Bool.and_eq_true] at h
  refine ⟨h.2.2.2.1, ?_⟩
  have ha := h.2.2.2.2.1
  unfold atB at ha
  split at ha
  · cases ha
  · split at ha
    · rw [inB_iff] at ha; omega
    · split at ha
      · rw [plB_iff'] at ha; omega
      · split at ha
        · rw [inB_iff] at ha; omega
        · simp at ha; omega
theorem all_tk (p : Pr) (s : Sy) (hc : s.cells.length = p.cells.length) : (List.range s.tasks.length).all (tkB p s) = (List.range s.tasks.length).all (mTkB p s) := by
  rw [Bool.eq_iff_iff, List.all_eq_true, List.all_eq_true]
  constructor
  · intro h i hi
    rw [← tk_eq p s i hc (kno_eq _ _ (fun u hu => ?_))]
    · exact h i hi
    · obtain ⟨j, hj, rfl⟩ := List.getElem_of_mem hu
      have := tkB_way (h j (List.mem_range.2 hj))
      rw [tkN, nth_eq _ _ _ hj] at this
      exact this
  · intro h i hi
    rw [tk_eq p s i hc (kno_eq _ _ (fun u hu => ?_))]
    · exact h i hi
    · obtain ⟨j, hj, rfl⟩ := List.getElem_of_mem hu
      have := mTkB_way (h j (List.mem_range.2 hj))
      rw [tkN, nth_eq _ _ _ hj] at this
      exact this
theorem so_eq (p : Pr) (s : Sy) : soB p s = mSoB p s := by
  unfold soB mSoB tksB
  by_cases hc : s.cells.length = p.cells.length
  · rw [decide_eq_true hc, all_tk p s hc, lg_eq p s hc]
    by_cases ht : (List.range s.tasks.length).all (mTkB p s) = true
    · rw [ces_eq p s hc (fun j hj => ?_)]
      · generalize okB p = b1
        generalize inB s.clock 0 200 = b2
        generalize inB s.tasks.length 1 7 = b3
        rw [ht]
        cases b1 <;> cases b2 <;> cases b3 <;> simp
      · rw [← all_tk p s hc, List.all_eq_true] at ht
        have := tkB_puts (ht j (List.mem_range.2 hj))
        rw [hc]; exact this
    · simp only [Bool.not_eq_true] at ht
      rw [ht]
      simp
  · have : cesB p s = false := by unfold cesB; rw [decide_eq_false hc, Bool.false_and]
    rw [this, decide_eq_false hc]
    simp
end Go.Proofs.Ytgbgjljflgbcaaa

namespace Go.Proofs.Ytgbgjljflgbcaaa
open Go.RowKit
set_option linter.unusedSimpArgs false
set_option linter.unusedVariables false
set_option maxRecDepth 20000
def SmTa (x : Ta) : Prop := x.regs.length ≤ 1048576 ∧ x.old.length ≤ 1048576 ∧ x.reads.length ≤ 1048576 ∧ x.puts.length ≤ 1048576
def SmsTa (xs : List Ta) : Prop := xs.length ≤ 1048576 ∧ ∀ j, j < xs.length → SmTa (nth Ta.z xs j)
def SmEn (x : En) : Prop := x.reads.length ≤ 1048576 ∧ x.puts.length ≤ 1048576
def SmsEn (xs : List En) : Prop := xs.length ≤ 1048576 ∧ ∀ j, j < xs.length → SmEn (nth En.z xs j)
end Go.Proofs.Ytgbgjljflgbcaaa
