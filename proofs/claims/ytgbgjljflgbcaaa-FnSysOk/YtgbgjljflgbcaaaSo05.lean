import Derived.Test.YtgbgjljflgbcaaaSo04
import Derived.Deep.QuietTactic
import Derived.BigQuiet
import Derived.Deep.RegionWith
import Derived.Test.YtgbgjljflgbcaaaSo01
namespace Go.Proofs.Ytgbgjljflgbcaaa
open Go.RowKit
set_option linter.unusedSimpArgs false
set_option linter.unusedVariables false
theorem inB_iff (n lo hi : Int) : inB n lo hi = true ↔ lo <= n /\ n <= hi := by simp [inB]
theorem plB_iff' (n e : Int) : plB n e = true ↔ 0 <= n /\ n < e := by simp [plB]
theorem puB_iff (xs : List Pu) (c : Int) : puB xs c = true ↔ ∀ i, i < xs.length -> (0 <= (nth Pu.z xs i).c /\ (nth Pu.z xs i).c < c) /\ (0 <= (nth Pu.z xs i).n /\ (nth Pu.z xs i).n < 100) /\ (i = 0 \/ (nth Pu.z xs (i - 1)).c < (nth Pu.z xs i).c) := by
 unfold puB
 rw [List.all_eq_true]
 simp only [List.mem_range, Bool.and_eq_true, plB_iff', Bool.or_eq_true, decide_eq_true_eq, and_assoc]
theorem pu_lt {xs : List Pu} {c : Int} (h : puB xs c = true) {i j : Nat} (hij : i < j) (hj : j < xs.length) : (nth Pu.z xs i).c < (nth Pu.z xs j).c := by
 rw [puB_iff] at h
 induction j with
 | zero => omega
 | succ j ih =>
   have := (h (j + 1) hj).2.2
   simp only [Nat.add_sub_cancel] at this
   rcases Nat.lt_succ_iff_lt_or_eq.1 hij with h1 | h1
   . have := ih h1 (by omega); omega
   . subst h1; omega
theorem pu_inj {xs : List Pu} {c : Int} (h : puB xs c = true) {i j : Nat} (hi : i < xs.length) (hj : j < xs.length) (e : (nth Pu.z xs i).c = (nth Pu.z xs j).c) : i = j := by
 rcases Nat.lt_trichotomy i j with h1 | h1 | h1
 . have := pu_lt h h1 hj; omega
 . exact h1
 . have := pu_lt h h1 hi; omega
theorem kno_eq (ts : List Ta) (i : Int) (h : ∀ u, u ∈ ts -> 0 <= u.way /\ u.way <= 4) : kno ts i = kin ts i 0 + kin ts i 1 + kin ts i 2 + kin ts i 3 := by
 induction ts with
 | nil => rfl
 | cons u ts ih =>
   have hu := h u (by simp)
   have ih := ih (fun v hv => h v (by simp [hv]))
   simp only [kno, kin] at ih ⊢
   simp only [List.filter_cons]
   by_cases hup : u.up = i
   . have : u.way = 0 \/ u.way = 1 \/ u.way = 2 \/ u.way = 3 \/ u.way = 4 := by omega
     rcases this with e | e | e | e | e <;> simp [hup, e] <;> omega
   . simp [hup]; omega
theorem tk_eq (p : Pr) (s : Sy) (i : Nat) (hc : s.cells.length = p.cells.length) (hk : kno s.tasks i = kin s.tasks i 0 + kin s.tasks i 1 + kin s.tasks i 2 + kin s.tasks i 3) : tkB p s i = mTkB p s i := by
 unfold tkB mTkB tnB mNumB mLsB mNoB mWhB mActB wyB cgB acN
 rw [hc, <- hk]
 generalize upfB s i = bu
 generalize tkN s i = t
 generalize acts p t = la
 generalize kno s.tasks i = kn
 generalize puB t.reads p.cells.length = br
 generalize puB t.puts p.cells.length = bp
 generalize rgB t.regs = g1
 generalize rgB t.old = g2
 generalize plB t.body p.bodies.length = b1
 by_cases hpc : inB t.pc 0 la.length = true
 case neg => simp [hpc]
 by_cases hw : inB t.way 0 4 = true
 case neg => simp [hw]
 by_cases hs : inB t.stage 0 5 = true
 case neg => simp [hs]
 simp only [hpc, hw, hs, Bool.and_true]
 rw [inB_iff] at hpc hw hs
 cases b1 <;> simp only [Bool.false_and, Bool.and_false, Bool.true_and, Bool.and_true]
 cases g1 <;> simp only [Bool.false_and, Bool.and_false, Bool.true_and, Bool.and_true]
 cases g2 <;> simp only [Bool.false_and, Bool.and_false, Bool.true_and, Bool.and_true]
 cases br <;> simp only [Bool.false_and, Bool.and_false, Bool.true_and, Bool.and_true]
 cases bp <;> simp only [Bool.false_and, Bool.and_false, Bool.true_and, Bool.and_true]
 cases bu <;> simp only [Bool.false_and, Bool.and_false, Bool.true_and, Bool.and_true]
 have e1 : (t.pc = (la.length : Int)) ↔ ¬ (t.pc < (la.length : Int)) := by omega
 have hz : Ac.z.k = 0 := rfl
 by_cases hlt : t.pc < (la.length : Int)
 . have hne : ¬ (t.pc = (la.length : Int)) := by omega
   simp only [if_neg hne, hlt, hne, decide_true, decide_false, Bool.true_and]
   generalize nth Ac.z la t.pc.toNat = a
   have hw' : t.way = 0 \/ t.way = 1 \/ t.way = 2 \/ t.way = 3 \/ t.way = 4 := by omega
   have hs' : t.stage = 0 \/ t.stage = 1 \/ t.stage = 2 \/ t.stage = 3 \/ t.stage = 4 \/ t.stage = 5 := by omega
   rcases hs' with e | e | e | e | e | e <;> rcases hw' with f | f | f | f | f <;> simp [e, f, atB, mAtB, whB] <;> (rw [Bool.eq_iff_iff]; simp [inB_iff, plB_iff', inB, plB]; try grind)
 . have he : t.pc = (la.length : Int) := by omega
   simp only [he, if_true, decide_true, Int.lt_irrefl, decide_false, Bool.false_and]
   have hw' : t.way = 0 \/ t.way = 1 \/ t.way = 2 \/ t.way = 3 \/ t.way = 4 := by omega
   have hs' : t.stage = 0 \/ t.stage = 1 \/ t.stage = 2 \/ t.stage = 3 \/ t.stage = 4 \/ t.stage = 5 := by omega
   rcases hs' with e | e | e | e | e | e <;> rcases hw' with f | f | f | f | f <;> simp [e, f, atB, mAtB, whB, Ac.z] <;> (rw [Bool.eq_iff_iff]; simp [inB_iff, plB_iff', inB, plB]; try grind)
theorem fdP_some {xs : List Pu} {c : Int} {i : Nat} (h : fdP xs c = some i) : i < xs.length /\ (nth Pu.z xs i).c = c /\ ∀ j, j < i -> (nth Pu.z xs j).c ≠ c := by
 unfold fdP at h
 rw [List.find?_range_eq_some] at h
 obtain ⟨h1, h2, h3⟩ := h
 exact ⟨List.mem_range.1 h2, by simpa using h1, fun j hj => by simpa using h3 j hj⟩
theorem fdP_none {xs : List Pu} {c : Int} (h : fdP xs c = none) : ∀ j, j < xs.length -> (nth Pu.z xs j).c ≠ c := by
 unfold fdP at h
 rw [List.find?_range_eq_none] at h
 intro j hj
 have := h j hj
 simpa using this
def heB (t : Ta) (c : Int) : Bool := (phL t).any fun x => decide (x.c = c)
theorem any_nth {α : Type} (z : α) (p : α -> Bool) (l : List α) : l.any p = true ↔ ∃ j, j < l.length /\ p (nth z l j) = true := by
 rw [List.any_eq_true]
 constructor
 . rintro ⟨x, hx, h⟩
   obtain ⟨j, hj, rfl⟩ := List.getElem_of_mem hx
   exact ⟨j, hj, by rw [nth_eq z l j hj]; exact h⟩
 . rintro ⟨j, hj, h⟩
   exact ⟨_, nth_mem z l j hj, h⟩
theorem nth_take {α : Type} (z : α) (l : List α) (n j : Nat) (h : j < n) : nth z (l.take n) j = nth z l j := by
 simp [nth, List.getElem?_take, h]
theorem nth_drop {α : Type} (z : α) (l : List α) (n j : Nat) : nth z (l.drop n) j = nth z l (n + j) := by
 simp [nth, List.getElem?_drop]
theorem mHo_eq (t : Ta) (c n : Int) (hp : puB t.puts n = true) (ha : 0 <= t.at_) : mHoB t c = heB t c := by
 unfold mHoB heB phL
 cases hf : fdP t.puts c with
 | none =>
   have hn := fdP_none hf
   simp only
   symm
   rw [Bool.eq_false_iff]
   intro h
   rw [any_nth Pu.z] at h
   obtain ⟨j, hj, h⟩ := h
   simp only [decide_eq_true_eq] at h
   split at hj <;> rename_i e1
   . rw [if_pos e1] at h
     have hj1 : j < t.at_.toNat := by simp at hj; omega
     have hj2 : j < t.puts.length := by simp at hj; omega
     rw [nth_take _ _ _ _ hj1] at h
     exact hn j hj2 h
   . rw [if_neg e1] at h
     split at hj <;> rename_i e2
     . rw [if_pos e2] at h; exact hn j hj h
     . rw [if_neg e2] at h
       split at hj <;> rename_i e3
       . rw [if_pos e3, nth_drop] at h
         exact hn _ (by simp at hj; omega) h
       . simp at hj
 | some i =>
   obtain ⟨h1, h2, h3⟩ := fdP_some hf
   simp only
   rw [Bool.eq_iff_iff, any_nth Pu.z]
   by_cases e1 : t.stage = 2
   . simp only [e1, if_true, decide_eq_true_eq]
     constructor
     . intro h
       refine ⟨i, by simp; omega, ?_⟩
       rw [nth_take _ _ _ _ (by omega)]; exact h2
     . rintro ⟨j, hj, h⟩
       have hj1 : j < t.at_.toNat := by simp at hj; omega
       have hj2 : j < t.puts.length := by simp at hj; omega
       rw [nth_take _ _ _ _ hj1] at h
       have := pu_inj hp h1 hj2 (by rw [h2, h])
       omega
   . simp only [e1, if_false]
     by_cases e2 : t.stage = 3 \/ t.stage = 4
     . simp only [if_pos e2, decide_eq_true_eq]
       exact ⟨fun _ => ⟨i, h1, h2⟩, fun _ => trivial⟩
     . simp only [if_neg e2]
       by_cases e3 : t.stage = 5
       . simp only [e3, if_true, decide_eq_true_eq]
         constructor
         . intro h
           refine ⟨i - t.at_.toNat, by simp; omega, ?_⟩
           rw [nth_drop, show t.at_.toNat + (i - t.at_.toNat) = i by omega]; exact h2
         . rintro ⟨j, hj, h⟩
           rw [nth_drop] at h
           have hj2 : t.at_.toNat + j < t.puts.length := by simp at hj; omega
           have := pu_inj hp h1 hj2 (by rw [h2, h])
           omega
       . simp only [if_neg e3]
         constructor
         . intro h; cases h
         . rintro ⟨j, hj, _⟩; simp at hj
def CellsOk (xs : List Pu) (n : Nat) : Prop := (∀ i, i < xs.length -> 0 <= (nth Pu.z xs i).c /\ (nth Pu.z xs i).c < n) /\ ∀ i j, i < xs.length -> j < xs.length -> (nth Pu.z xs i).c = (nth Pu.z xs j).c -> i = j
theorem cellsOk_of {xs : List Pu} {n : Nat} (h : puB xs n = true) : CellsOk xs n :=
 ⟨fun i hi => ((puB_iff xs n).1 h i hi).1, fun i j hi hj e => pu_inj h hi hj e⟩
theorem cellsOk_ph {t : Ta} {n : Nat} (h : puB t.puts n = true) : CellsOk (phL t) n := by
 have h0 := cellsOk_of h
 unfold phL
 split
 . refine ⟨fun i hi => ?_, fun i j hi hj e => ?_⟩
   . simp at hi; rw [nth_take _ _ _ _ (by omega)]; exact h0.1 i (by omega)
   . simp at hi hj; rw [nth_take _ _ _ _ (by omega), nth_take _ _ _ _ (by omega)] at e; exact h0.2 i j (by omega) (by omega) e
 . split
   . exact h0
   . split
     . refine ⟨fun i hi => ?_, fun i j hi hj e => ?_⟩
       . simp at hi; rw [nth_drop]; exact h0.1 _ (by omega)
       . simp at hi hj; rw [nth_drop, nth_drop] at e; have := h0.2 _ _ (by omega) (by omega) e; omega
     . exact ⟨fun i hi => by simp at hi, fun i j hi => by simp at hi⟩
theorem cellsOk_tail {x : Pu} {xs : List Pu} {n : Nat} (h : CellsOk (x :: xs) n) : CellsOk xs n /\ (0 <= x.c /\ x.c < n) /\ ∀ j, j < xs.length -> (nth Pu.z xs j).c ≠ x.c := by
 refine ⟨⟨fun i hi => ?_, fun i j hi hj e => ?_⟩, ?_, fun j hj e => ?_⟩
 . have := h.1 (i + 1) (by simpa using hi); simpa [nth] using this
 . have := h.2 (i + 1) (j + 1) (by simpa using hi) (by simpa using hj) (by simpa [nth] using e); omega
 . have := h.1 0 (by simp); simpa [nth] using this
 . have := h.2 (j + 1) 0 (by simpa using hj) (by simp) (by simpa [nth] using e); omega
theorem nth_set {l : List Int} {i j : Nat} {x : Int} (h : i < l.length) : nth 0 (l.set i x) j = if i = j then x else nth 0 l j := by
 by_cases e : i = j
 . subst e; simp [nth, h]
 . simp [nth, List.getElem?_set_ne e, e]
theorem hold1_some {k : Nat} {xs : List Pu} {h : List Int} (hc : CellsOk xs h.length) :
   (hold1 k h xs = none /\ ∃ j, j < xs.length /\ nth 0 h (nth Pu.z xs j).c.toNat ≠ -1) \/
   ∃ h', hold1 k h xs = some h' /\ h'.length = h.length /\ (∀ j, j < xs.length -> nth 0 h (nth Pu.z xs j).c.toNat = -1) /\ ∀ c, nth 0 h' c = if xs.any (fun x => decide (x.c = (c : Int))) then (k : Int) else nth 0 h c := by
 induction xs generalizing h with
 | nil => exact .inr ⟨h, rfl, rfl, fun j hj => by simp at hj, fun c => by simp⟩
 | cons x xs ih =>
   obtain ⟨h1, h2, h3⟩ := cellsOk_tail hc
   by_cases e : nth 0 h x.c.toNat = -1
   . rw [hold1, if_pos e]
     have hl : (h.set x.c.toNat (k : Int)).length = h.length := by simp
     rcases ih (h := h.set x.c.toNat (k : Int)) (by rw [hl]; exact h1) with ⟨g1, j, hj, g2⟩ | ⟨h', g1, g2, g3, g4⟩
     . refine .inl ⟨g1, j + 1, by simpa using hj, ?_⟩
       have hne := h3 j hj
       have hr := h1.1 j hj
       rw [nth_set (by omega), if_neg (by omega)] at g2
       simpa [nth] using g2
     . refine .inr ⟨h', g1, by rw [g2, hl], ?_, ?_⟩
       . intro j hj
         cases j with
         | zero => simpa [nth] using e
         | succ j =>
           have hj' : j < xs.length := by simpa using hj
           have := g3 j hj'
           have hne := h3 j hj'
           have hr := h1.1 j hj'
           rw [nth_set (by omega), if_neg (by omega)] at this
           simpa [nth] using this
       . intro c
         rw [g4 c, nth_set (by omega)]
         simp only [List.any_cons]
         by_cases ec : x.c = (c : Int)
         . have : x.c.toNat = c := by omega
           simp [ec, this]
         . have : ¬ x.c.toNat = c := by omega
           simp [ec, this]
   . rw [hold1, if_neg e]
     exact .inl ⟨rfl, 0, by simp, by simpa [nth] using e⟩
theorem holdN_spec {ts : List Ta} {n : Nat} (k : Nat) (hk : k <= ts.length) (hp : ∀ j, j < k -> CellsOk (phL (nth Ta.z ts j)) n) :
   (holdN ts (List.replicate n (-1)) k = none /\ ∃ i j c : Nat, i < k /\ j < k /\ i ≠ j /\ c < n /\ heB (nth Ta.z ts i) c = true /\ heB (nth Ta.z ts j) c = true) \/
   ∃ h, holdN ts (List.replicate n (-1)) k = some h /\ h.length = n /\ ∀ c : Nat, c < n -> (nth 0 h c = -1 /\ ∀ j, j < k -> heB (nth Ta.z ts j) c = false) \/ ∃ j : Nat, j < k /\ nth 0 h c = (j : Int) /\ heB (nth Ta.z ts j) c = true /\ ∀ i, i < k -> heB (nth Ta.z ts i) c = true -> i = j := by
 induction k with
 | zero => exact .inr ⟨_, rfl, by simp, fun c hc => .inl ⟨by simp [nth, hc], fun j hj => by omega⟩⟩
 | succ k ih =>
   rcases ih (by omega) (fun j hj => hp j (by omega)) with ⟨h1, i, j, c, hi, hj, hne, hc, h2, h3⟩ | ⟨h, h1, h2, h3⟩
   . exact .inl ⟨by simp [holdN, h1], i, j, c, by omega, by omega, hne, hc, h2, h3⟩
   . have hC := hp k (by omega)
     rw [<- h2] at hC
     have hx : ∀ c : Nat, heB (nth Ta.z ts k) c = (phL (nth Ta.z ts k)).any (fun x => decide (x.c = (c : Int))) := fun c => rfl
     rcases hold1_some (k := k) hC with ⟨g1, j, hj, g2⟩ | ⟨h', g1, g2, g3, g4⟩
     . have hr := hC.1 j hj
       have hcn : (nth Pu.z (phL (nth Ta.z ts k)) j).c.toNat < n := by omega
       refine .inl ⟨by simp [holdN, h1, g1], ?_⟩
       have hk1 : heB (nth Ta.z ts k) ((nth Pu.z (phL (nth Ta.z ts k)) j).c.toNat : Nat) = true := by
         rw [hx, any_nth Pu.z]
         exact ⟨j, hj, by simp; omega⟩
       rcases h3 _ hcn with ⟨q1, _⟩ | ⟨i, hi, q1, q2, _⟩
       . exact absurd q1 g2
       . exact ⟨i, k, _, by omega, by omega, by omega, hcn, q2, hk1⟩
     . refine .inr ⟨h', by simp [holdN, h1, g1], by rw [g2, h2], fun c hc => ?_⟩
       have hg := g4 c
       rw [<- hx] at hg
       cases hb : heB (nth Ta.z ts k) c with
       | false =>
         rw [hb] at hg
         simp at hg
         rcases h3 c hc with ⟨q1, q2⟩ | ⟨j, hj, q1, q2, q3⟩
         . exact .inl ⟨by rw [hg, q1], so_far q2 hb⟩
         . refine .inr ⟨j, by omega, by rw [hg, q1], q2, fun i hi hi2 => ?_⟩
           rcases Nat.lt_succ_iff_lt_or_eq.1 hi with h5 | h5
           . exact q3 i h5 hi2
           . subst h5; rw [hb] at hi2; cases hi2
       | true =>
         rw [hb] at hg
         simp at hg
         refine .inr ⟨k, by omega, hg, hb, fun i hi hi2 => ?_⟩
         rcases Nat.lt_succ_iff_lt_or_eq.1 hi with h5 | h5
         . exfalso
           rw [hx, any_nth Pu.z] at hb
           obtain ⟨j, hj, hjc⟩ := hb
           simp only [decide_eq_true_eq] at hjc
           have g5 := g3 j hj
           rw [hjc] at g5
           simp only [Int.toNat_natCast] at g5
           rcases h3 c hc with ⟨_, q2⟩ | ⟨j', hj', q1, _⟩
           . rw [q2 i h5] at hi2; cases hi2
           . rw [q1] at g5; omega
         . exact h5
theorem ces_eq (p : Pr) (s : Sy) (hc : s.cells.length = p.cells.length) (hp : ∀ j, j < s.tasks.length -> puB (nth Ta.z s.tasks j).puts s.cells.length = true /\ 0 <= (nth Ta.z s.tasks j).at_) : cesB p s = mCesB s := by
 have hH : ∀ j c, j < s.tasks.length -> mHoB (nth Ta.z s.tasks j) c = heB (nth Ta.z s.tasks j) c := fun j c hj => mHo_eq _ _ _ (hp j hj).1 (hp j hj).2
 unfold cesB mCesB
 rw [hc, decide_eq_true rfl, Bool.true_and, <- hc]
 rcases holdN_spec (n := s.cells.length) s.tasks.length (Nat.le_refl _) (fun j hj => cellsOk_ph (hp j hj).1) with ⟨h1, i, j, c, hi, hj, hne, hcn, h2, h3⟩ | ⟨h, h1, h2, h3⟩
 . rw [h1]
   simp only
   symm
   rw [List.all_eq_false]
   refine ⟨c, List.mem_range.2 hcn, ?_⟩
   unfold mCeB
   intro hall
   simp only [Bool.and_eq_true, List.all_eq_true, List.mem_range] at hall
   have e1 := hall.2 i hi
   have e2 := hall.2 j hj
   rw [hH i _ hi, h2] at e1
   rw [hH j _ hj, h3] at e2
   simp at e1 e2
   omega
 . rw [h1]
   simp only
   rw [Bool.eq_iff_iff, List.all_eq_true, List.all_eq_true]
   refine ⟨fun g i hi => ?_, fun g i hi => ?_⟩
   all_goals
     have hin := List.mem_range.1 hi
     have hg := g i hi
   . unfold ceB at hg
     unfold mCeB
     simp only [Bool.and_eq_true, decide_eq_true_eq] at hg
     obtain ⟨⟨g1, g2⟩, g3⟩ := hg
     simp only [Bool.and_eq_true, g1, g2, true_and, List.all_eq_true, List.mem_range, inB_iff]
     rcases h3 i hin with ⟨q1, q2⟩ | ⟨j, hj, q1, q2, q3⟩
     . refine ⟨by omega, fun k hk => ?_⟩
       rw [hH k _ hk, q2 k hk]
       simp; omega
     . refine ⟨by omega, fun k hk => ?_⟩
       rw [hH k _ hk]
       cases hb : heB (nth Ta.z s.tasks k) i with
       | false =>
         have : k ≠ j := fun e => by subst e; rw [hb] at q2; cases q2
         simp; omega
       | true =>
         have := q3 k hk hb
         simp; omega
   . unfold mCeB at hg
     unfold ceB
     simp only [Bool.and_eq_true, List.all_eq_true, List.mem_range, inB_iff] at hg
     obtain ⟨⟨⟨g1, g2⟩, g3⟩, g4⟩ := hg
     simp only [Bool.and_eq_true, g1, true_and, decide_eq_true_eq, inB_iff]
     refine ⟨g2, ?_⟩
     rcases h3 i hin with ⟨q1, q2⟩ | ⟨j, hj, q1, q2, q3⟩
     . rw [q1]
       by_cases hl : (nth Ce.z s.cells i).lock = -1
       . exact hl
       . exfalso
         have hk : (nth Ce.z s.cells i).lock.toNat < s.tasks.length := by omega
         have := g4 _ hk
         rw [hH _ _ hk, q2 _ hk] at this
         simp at this
         omega
     . rw [q1]
       have := g4 j hj
       rw [hH _ _ hj, q2] at this
       simpa using this
theorem lg_eq (p : Pr) (s : Sy) (hc : s.cells.length = p.cells.length) : lgB p s = mLgB p s := by
 unfold lgB mLgB
 congr 1
 funext i
 unfold enB mEnB
 rw [hc]
 generalize plB (enN s i).task s.tasks.length = b1
 generalize plB (enN s i).act _ = b2
 generalize inB (enN s i).when_ 0 s.clock = b3
 generalize inB (enN s i).from_ 0 i = b4
 generalize puB (enN s i).reads _ = b5
 generalize puB (enN s i).puts _ = b6
 cases b1 <;> cases b2 <;> cases b3 <;> cases b4 <;> cases b5 <;> cases b6 <;> rfl
theorem tkB_way {p : Pr} {s : Sy} {i : Nat} (h : tkB p s i = true) : 0 <= (tkN s i).way /\ (tkN s i).way <= 4 := by
 unfold tkB tnB at h
 simp only [Bool.and_eq_true, inB_iff] at h
 omega
theorem mTkB_way {p : Pr} {s : Sy} {i : Nat} (h : mTkB p s i = true) : 0 <= (tkN s i).way /\ (tkN s i).way <= 4 := by
 unfold mTkB mNumB at h
 simp only [Bool.and_eq_true, inB_iff] at h
 omega
theorem tkB_puts {p : Pr} {s : Sy} {i : Nat} (h : tkB p s i = true) : puB (tkN s i).puts p.cells.length = true /\ 0 <= (tkN s i).at_ := by
 unfold tkB cgB at h
 simp only [Bool.and_eq_true] at h
 refine ⟨h.2.2.2.1, ?_⟩
 have ha := h.2.2.2.2.1
 unfold atB at ha
 split at ha
 . cases ha
 . split at ha
   . rw [inB_iff] at ha; omega
   . split at ha
     . rw [plB_iff'] at ha; omega
     . split at ha
       . rw [inB_iff] at ha; omega
       . simp at ha; omega
theorem all_tk (p : Pr) (s : Sy) (hc : s.cells.length = p.cells.length) : (List.range s.tasks.length).all (tkB p s) = (List.range s.tasks.length).all (mTkB p s) := by
 rw [Bool.eq_iff_iff, List.all_eq_true, List.all_eq_true]
 constructor
 . intro h i hi
   rw [<- tk_eq p s i hc (kno_eq _ _ (fun u hu => ?_))]
   . exact h i hi
   . obtain ⟨j, hj, rfl⟩ := List.getElem_of_mem hu
     have := tkB_way (h j (List.mem_range.2 hj))
     rw [tkN, nth_eq _ _ _ hj] at this
     exact this
 . intro h i hi
   rw [tk_eq p s i hc (kno_eq _ _ (fun u hu => ?_))]
   . exact h i hi
   . obtain ⟨j, hj, rfl⟩ := List.getElem_of_mem hu
     have := mTkB_way (h j (List.mem_range.2 hj))
     rw [tkN, nth_eq _ _ _ hj] at this
     exact this
theorem so_eq (p : Pr) (s : Sy) : soB p s = mSoB p s := by
 unfold soB mSoB tksB
 by_cases hc : s.cells.length = p.cells.length
 . rw [decide_eq_true hc, all_tk p s hc, lg_eq p s hc]
   by_cases ht : (List.range s.tasks.length).all (mTkB p s) = true
   . rw [ces_eq p s hc (fun j hj => ?_)]
     . generalize okB p = b1
       generalize inB s.clock 0 200 = b2
       generalize inB s.tasks.length 1 7 = b3
       rw [ht]
       cases b1 <;> cases b2 <;> cases b3 <;> simp
     . rw [<- all_tk p s hc, List.all_eq_true] at ht
       have := tkB_puts (ht j (List.mem_range.2 hj))
       rw [hc]; exact this
   . simp only [Bool.not_eq_true] at ht
     rw [ht]
     simp
 . have : cesB p s = false := by unfold cesB; rw [decide_eq_false hc, Bool.false_and]
   rw [this, decide_eq_false hc]
   simp

set_option maxRecDepth 20000
def SmTa (x : Ta) : Prop := x.regs.length <= 1048576 /\ x.old.length <= 1048576 /\ x.reads.length <= 1048576 /\ x.puts.length <= 1048576
def SmsTa (xs : List Ta) : Prop := xs.length <= 1048576 /\ ∀ j, j < xs.length -> SmTa (nth Ta.z xs j)
def SmEn (x : En) : Prop := x.reads.length <= 1048576 /\ x.puts.length <= 1048576
def SmsEn (xs : List En) : Prop := xs.length <= 1048576 /\ ∀ j, j < xs.length -> SmEn (nth En.z xs j)

set_option maxHeartbeats 8000000
set_option maxRecDepth 20000
theorem isUpTo_any (n e : Int) (w : World) :
   Calls Try.prog 39 #[.int .i64 n, .int .i64 e] w fun r w' => r = .returned (.bool (inB n 0 e)) /\ w' = w := by
 by_cases h1 : 0 <= n
 . go_enter Try.func39, Try.ntmps39
   go_wp2
   go_ret
   exact ⟨by simp [inB]; try omega, rfl⟩
 . have h2 : decide (0 <= n) = false := by simpa using h1
   go_enter Try.func39, Try.ntmps39
   go_wp2
   go_ret
   exact ⟨by simp [inB]; try omega, rfl⟩
theorem regsInForm_rg (v : Value) (xs : List Int) (w : World) (h : IntsAt w v xs) :
   Calls Try.prog 123 #[v] w fun r w' => r = .returned (.bool (rgB xs)) /\ w' = w := by
 obtain ⟨a, cap, rfl, hm⟩ := h.shape
 have HI := (show Hid (IntsAt _ _ _) from h)
 clear h
 by_cases h5 : xs.length = 3
 . have h5' : ((xs.length : Int) == 3) = true := by simp; omega
   have HF : Hid (rgB xs = nsB xs) := by simp [Hid, rgB, nsB, h5]
   clear h5
   go_enter Try.func123, Try.ntmps123
   go_wp2_with (go_at_call 120; refine (numsInForm_any _ xs _ HI.out).mono ?_; rintro e w' ⟨rfl, rfl⟩)
   go_ret
   exact ⟨by rw [HF.out]; rfl, rfl⟩
 . have h5' : ((xs.length : Int) == 3) = false := by simp; omega
   have HF : Hid (rgB xs = false) := by simp [Hid, rgB, h5]
   clear h5
   clear HI
   go_enter Try.func123, Try.ntmps123
   go_wp2
   go_ret
   exact ⟨by rw [HF.out]; rfl, rfl⟩
theorem puB_no {xs : List Pu} {c : Int} {k : Nat} (hk : k < xs.length) (h : (plB (nth Pu.z xs k).c c && plB (nth Pu.z xs k).n 100 && (decide (k = 0) || decide ((nth Pu.z xs (k - 1)).c < (nth Pu.z xs k).c))) = false) : puB xs c = false := by
 unfold puB
 rw [List.all_eq_false]
 exact ⟨k, List.mem_range.2 hk, by simp [h]⟩
theorem puB_yes {xs : List Pu} {c : Int} (h : ∀ k, k < xs.length -> (plB (nth Pu.z xs k).c c && plB (nth Pu.z xs k).n 100 && (decide (k = 0) || decide ((nth Pu.z xs (k - 1)).c < (nth Pu.z xs k).c))) = true) : puB xs c = true := by
 unfold puB
 rw [List.all_eq_true]
 intro k hk
 exact h k (List.mem_range.1 hk)
theorem putsInForm_any (v : Value) (xs : List Pu) (c : Int) (w : World) (h : PusAt w v xs) :
   Calls Try.prog 93 #[v, .int .i64 c] w fun r w' => r = .returned (.bool (puB xs c)) /\ Below w.heap.size w w' := by
 obtain ⟨a, cap, rfl, hm, hc⟩ := h
 go_enter Try.func93, Try.ntmps93
 go_wp2_with fail
 go_loopw [9] (fun q w' => ∃ k : Nat, k <= xs.length /\ q = .int .i64 k /\ Below w.heap.size w w' /\ (∀ j, j < k -> (plB (nth Pu.z xs j).c c && plB (nth Pu.z xs j).n 100 && (decide (j = 0) || decide ((nth Pu.z xs (j - 1)).c < (nth Pu.z xs j).c))) = true)) (fun q _ => xs.length - (intOf q).toNat)
 case atStart => exact ⟨0, Nat.zero_le _, rfl, Below.refl _ _, fun j hj => absurd hj (Nat.not_lt_zero _)⟩
 case round =>
   obtain ⟨k, hk, rfl, hb, hall⟩ := hrel
   have HB := (show Hid (Below _ _ _) from hb)
   have hsz := hb.size
   by_cases hlt : k < xs.length
   . have hlt' : (k : Int) < (xs.length : Int) := by omega
     obtain ⟨b, off, rfl, hbw, c0, c1⟩ := hc k hlt
     rw [<- hb.cell (p := ⟨b, _, none⟩) hbw] at c0 c1
     cases h1 : plB (nth Pu.z xs k).c c
     . have HF : Hid (puB xs c = false) := puB_no hlt (by simp [h1])
       clear hc hall hb
       go_wp2_with (go_at_call 45; refine (isPlace_any _ _ _).mono ?_; rintro e w' ⟨rfl, hw⟩; have hw := hw.symm; subst hw)
       go_ret
       exact ⟨by rw [HF.out]; rfl, (bqx HB.out)⟩
     cases h2 : plB (nth Pu.z xs k).n 100
     . have HF : Hid (puB xs c = false) := puB_no hlt (by simp [h1, h2])
       clear hc hall hb
       go_wp2_with (go_at_call 45; refine (isPlace_any _ _ _).mono ?_; rintro e w' ⟨rfl, hw⟩; have hw := hw.symm; subst hw)
       go_ret
       exact ⟨by rw [HF.out]; rfl, (bqx HB.out)⟩
     by_cases hk0 : k = 0
     . have HA : Hid (∀ j, j < k + 1 -> (plB (nth Pu.z xs j).c c && plB (nth Pu.z xs j).n 100 && (decide (j = 0) || decide ((nth Pu.z xs (j - 1)).c < (nth Pu.z xs j).c))) = true) := so_far hall (by rw [h1, h2]; simp [hk0])
       have hk1 : ¬ (0 : Int) < (k : Int) := by omega
       have hk2 : decide (0 < k) = false := by simp [hk0]
       have hk2' : ¬ 0 < k := by omega
       clear hc hall hb hk0
       go_wp2_with (go_at_call 45; refine (isPlace_any _ _ _).mono ?_; rintro e w' ⟨rfl, hw⟩; have hw := hw.symm; subst hw)
       go_quiet (fail)
       go_wp2_with fail
       go_roundw
       case rel => exact ⟨k + 1, by omega, by go_num, (bqx HB.out), HA.out⟩
       case measure => simp [intOf]; omega
     . obtain ⟨m, rfl⟩ : ∃ m, k = m + 1 := ⟨k - 1, by omega⟩
       have hk2 : decide (0 < m + 1) = true := by simp
       have hk1 : (0 : Int) < (m : Int) + 1 := by omega
       have hmm : (m : Int) < (xs.length : Int) := by omega
       have hmm' : (m : Int) + 1 < (xs.length : Int) := by omega
       have hme : ((m + 1 : Nat) : Int) = (m : Int) + 1 := by omega
       obtain ⟨b', off', e', hbw', d0, d1⟩ := hc m (by omega)
       injection e' with e2; injection e2 with e3 e4; subst e3 e4
       rw [<- hb.cell (p := ⟨b, _, none⟩) hbw] at d0
       rw [hme]
       have HME := (show Hid (_ = _) from hme)
       have hbr : b < wr.heap.size := by omega
       have hwr : IntKind.i64.wrap (m : Int) = (m : Int) := by rw [IntKind.wrap_i64]; omega
       clear hme hlt'
       have hk0' : m + 1 - 1 = m := by omega
       by_cases h3 : (nth Pu.z xs m).c < (nth Pu.z xs (m + 1)).c
       . have h3' : ¬ (nth Pu.z xs (m + 1)).c <= (nth Pu.z xs m).c := by omega
         have HA : Hid (∀ j, j < m + 1 + 1 -> (plB (nth Pu.z xs j).c c && plB (nth Pu.z xs j).n 100 && (decide (j = 0) || decide ((nth Pu.z xs (j - 1)).c < (nth Pu.z xs j).c))) = true) := so_far hall (by rw [h1, h2]; simp [h3])
         clear hc hall hb d1 hk0 hk0'
         go_wp2_with (go_at_call 45; refine (isPlace_any _ _ _).mono ?_; rintro e w' ⟨rfl, hw⟩; have hw := hw.symm; subst hw)
         go_quiet (fail)
         go_wp2_with fail
         go_roundw
         case rel => exact ⟨m + 1 + 1, by omega, by go_num, (bqx HB.out), HA.out⟩
         case measure => simp [intOf]; omega
       . have h3' : (nth Pu.z xs (m + 1)).c <= (nth Pu.z xs m).c := by omega
         have HF : Hid (puB xs c = false) := puB_no hlt (by rw [h1, h2]; simp [h3])
         clear hc hall hb d1 hk0 hk0'
         go_wp2_with (go_at_call 45; refine (isPlace_any _ _ _).mono ?_; rintro e w' ⟨rfl, hw⟩; have hw := hw.symm; subst hw)
         go_quiet (fail)
         go_wp2_with fail
         go_ret
         exact ⟨by rw [HF.out]; rfl, (bqx HB.out)⟩
   . have HF : Hid (puB xs c = true) := puB_yes (fun j hj => hall j (by omega))
     clear hc hall
     go_wp2_with fail
     go_ret
     exact ⟨by rw [HF.out]; rfl, hb⟩
theorem kno_snoc (ts : List Ta) (i : Int) (t : Ta) : kno (ts ++ [t]) i = kno ts i + if t.up = i /\ ¬ t.way = 4 then 1 else 0 := by
 unfold kno
 rw [List.filter_append, List.length_append]
 by_cases h1 : t.up = i <;> by_cases h2 : t.way = 4 <;> simp [h1, h2]
theorem kno_le (ts : List Ta) (i : Int) : kno ts i <= ts.length := List.length_filter_le _ _
theorem kidsNotOff_any (s : Sy) (i : Int) (ac al : Option Addr) (cc cl : Nat) (tv : Value) (w : World) (h : TasAt w tv s.tasks) :
   Calls Try.prog 125 #[.agg #[.slice ac s.cells.length cc, tv, .int .i64 s.clock, .slice al s.log.length cl], .int .i64 i] w fun r w' => r = .returned (.int .i64 (kno s.tasks i)) /\ Below w.heap.size w w' := by
 obtain ⟨a, cap, rfl, hm, hc⟩ := h
 go_enter Try.func125, Try.ntmps125
 go_wp2_with fail
 go_loopw [5, 11] (fun u q w' => ∃ (k n : Nat), k <= s.tasks.length /\ q = .int .i64 k /\ u = .int .i64 n /\ n = kno (s.tasks.take k) i /\ Below w.heap.size w w') (fun _ q _ => s.tasks.length - (intOf q).toNat)
 case atStart => exact ⟨0, 0, Nat.zero_le _, rfl, rfl, by simp [kno], bq0⟩
 case round =>
   obtain ⟨k, n, hk, rfl, rfl, hn, hb⟩ := hrel
   have hnk : n <= k := by rw [hn]; exact Nat.le_trans (kno_le _ _) (List.length_take_le _ _)
   have HN := (show Hid (n = _) from hn)
   have HB := (show Hid (Below _ _ _) from hb)
   have hsz := hb.size
   clear hn
   by_cases hlt : k < s.tasks.length
   . have hlt' : (k : Int) < (s.tasks.length : Int) := by omega
     obtain ⟨b, off, v3, v8, v9, v10, rfl, hbw, c0, c1, c2, c3, c4, c5, c6, c7, c8, c9, c10, c11, c12, h3, h8, h9, h10⟩ := hc k hlt
     rw [<- hb.cell (p := ⟨b, _, none⟩) hbw] at c0 c1 c2 c3 c4 c5 c6 c7 c8 c9 c10 c11 c12
     obtain ⟨a3, e3, rfl, _⟩ := h3.shape
     obtain ⟨a8, e8, rfl, _⟩ := h8.shape
     obtain ⟨a9, e9, rfl, _⟩ := h9.shape
     obtain ⟨a10, e10, rfl, _⟩ := h10.shape
     have HS : Hid (kno (s.tasks.take (k + 1)) i = kno (s.tasks.take k) i + if (nth Ta.z s.tasks k).up = i /\ ¬ (nth Ta.z s.tasks k).way = 4 then 1 else 0) := by unfold Hid; rw [take_nth Ta.z _ _ hlt]; exact kno_snoc _ _ _
     clear hc hb h3 h8 h9 h10
     by_cases q1 : (nth Ta.z s.tasks k).up = i
     . have q1' : ((nth Ta.z s.tasks k).up == i) = true := by simp [q1]
       by_cases q2 : (nth Ta.z s.tasks k).way = 4
       . have q2' : ((nth Ta.z s.tasks k).way != 4) = false := by simp [q2]
         have HS' : Hid (kno (s.tasks.take (k + 1)) i = n) := by unfold Hid; rw [HS.out, <- HN.out]; simp [q2]
         have Q1 := (show Hid (_ = i) from q1)
         clear q1
         go_wp2_with fail
         go_roundw
         case rel => exact ⟨k + 1, n, by omega, by go_num, rfl, HS'.out.symm, (bqx HB.out)⟩
         case measure => simp [intOf]; omega
       . have q2' : ((nth Ta.z s.tasks k).way != 4) = true := by simp [q2]
         have HS' : Hid (kno (s.tasks.take (k + 1)) i = n + 1) := by unfold Hid; rw [HS.out, <- HN.out]; simp [q1, q2]
         have Q1 := (show Hid (_ = i) from q1)
         clear q1
         go_wp2_with fail
         go_roundw
         case rel => exact ⟨k + 1, n + 1, by omega, by go_num, by go_num, HS'.out.symm, (bqx HB.out)⟩
         case measure => simp [intOf]; omega
     . have q1' : ((nth Ta.z s.tasks k).up == i) = false := by simp [q1]
       have HS' : Hid (kno (s.tasks.take (k + 1)) i = n) := by unfold Hid; rw [HS.out, <- HN.out]; simp [q1]
       go_wp2_with fail
       go_roundw
       case rel => exact ⟨k + 1, n, by omega, by go_num, rfl, HS'.out.symm, (bqx HB.out)⟩
       case measure => simp [intOf]; omega
   . have HF : Hid (kno s.tasks i = n) := by
       have := HN.out; rw [List.take_of_length_le (by omega)] at this; exact this.symm
     clear hc
     go_wp2_with fail
     go_ret
     exact ⟨by rw [HF.out]; rfl, hb⟩
theorem atInForm_any (t : Ta) (a3 a8 a9 a10 : Option Addr) (c3 c8 c9 c10 : Nat) (n : Nat) (w : World) (hs : t.stage = 0 \/ t.stage = 1 \/ t.stage = 2 \/ t.stage = 3 \/ t.stage = 4 \/ t.stage = 5) :
  Calls Try.prog 126 #[.agg #[.int .i64 t.body, .int .i64 t.pc, .int .i64 t.up, .slice a3 t.regs.length c3, .int .i64 t.way, .int .i64 t.stage, .int .i64 t.at_, .int .i64 t.since, .slice a8 t.old.length c8, .slice a9 t.reads.length c9, .slice a10 t.puts.length c10, .int .i64 t.when_, .int .i64 t.from_], .int .i64 (n : Int)] w fun r w' => r = .returned (.bool (atB t n)) /\ Below w.heap.size w w' := by
 by_cases hp : t.puts.length = 0
 all_goals
  rcases hs with e | e | e | e | e | e
  all_goals
   have hp' : ((t.puts.length : Int) == 0) = decide (t.puts.length = 0) := by by_cases h : t.puts.length = 0 <;> simp [h]
   simp only [hp, decide_true, decide_false] at hp'
   (try have hp2 : ¬ ((t.puts.length : Int) = 0) := by omega)
   rw [e]
   go_enter Try.func126, Try.ntmps126
   go_wp2_with (first | (go_at_call 39; refine (isUpTo_any _ _ _).mono ?_; rintro e w' ⟨rfl, hw⟩; have hw := hw.symm; subst hw) | (go_at_call 45; refine (isPlace_any _ _ _).mono ?_; rintro e w' ⟨rfl, hw⟩; have hw := hw.symm; subst hw))
   go_ret
   exact ⟨by simp [atB, e, hp] <;> rfl, bq0⟩
theorem whenInForm_any (t : Ta) (a3 a8 a9 a10 : Option Addr) (c3 c8 c9 c10 : Nat) (clock : Int) (w : World) (hs : t.stage = 0 \/ t.stage = 1 \/ t.stage = 2 \/ t.stage = 3 \/ t.stage = 4 \/ t.stage = 5) (h0 : 0 <= clock) (h1 : clock <= 200) :
  Calls Try.prog 127 #[.agg #[.int .i64 t.body, .int .i64 t.pc, .int .i64 t.up, .slice a3 t.regs.length c3, .int .i64 t.way, .int .i64 t.stage, .int .i64 t.at_, .int .i64 t.since, .slice a8 t.old.length c8, .slice a9 t.reads.length c9, .slice a10 t.puts.length c10, .int .i64 t.when_, .int .i64 t.from_], .int .i64 clock] w fun r w' => r = .returned (.bool (whB t clock)) /\ Below w.heap.size w w' := by
 by_cases hp : t.since < t.when_
 all_goals
  rcases hs with e | e | e | e | e | e
  all_goals
   rw [e]
   go_enter Try.func127, Try.ntmps127
   go_wp2_with (first | (go_at_call 39; refine (isUpTo_any _ _ _).mono ?_; rintro e w' ⟨rfl, hw⟩; have hw := hw.symm; subst hw))
   go_ret
   exact ⟨by simp [whB, e, hp] <;> first | rfl | (intro h; omega), bq0⟩

def PrAt (w : World) (cv bv : Value) (p : Pr) : Prop := IntsAt w cv p.cells /\ BodiesAt w bv p.bodies
theorem PrAt.mono {w w' : World} {cv bv : Value} {p : Pr} (h : PrAt w cv bv p) (hb : Below w.heap.size w w') : PrAt w' cv bv p := ⟨h.1.mono hb, h.2.mono hb⟩
end Go.Proofs.Ytgbgjljflgbcaaa
