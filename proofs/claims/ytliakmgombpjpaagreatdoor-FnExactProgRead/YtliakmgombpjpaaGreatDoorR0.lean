/-
  The only program whose text a text can be, in plain words; a program in form is guessed from its text. No walk.
-/
import Derived.Test.YtliakmgombpjpaaGreatDoorP6
import Derived.Lib.SplitLaws
import Derived.Lib.IndexMore
import Derived.Lib.AtoiAll
namespace Go.Proofs.YtliakmgombpjpaaGreatDoor
open Go.RowKit
set_option linter.unusedSimpArgs false
set_option linter.unusedVariables false

/-! ### cutting at a byte -/
def splC (c : UInt8) : List UInt8 → List (List UInt8)
  | [] => [[]]
  | x :: xs => if x = c then [] :: splC c xs else match splC c xs with
    | [] => [[x]]
    | y :: ys => (x :: y) :: ys
theorem splC_step (c x : UInt8) (xs : List UInt8) : splC c (x :: xs) = if x = c then [] :: splC c xs else match splC c xs with
    | [] => [[x]]
    | y :: ys => (x :: y) :: ys := rfl
theorem cf_step (sub : List UInt8) (k : Nat) (s : List UInt8) : Lib.countFrom sub (k + 1) s = if Lib.index s sub == -1 then 0 else 1 + Lib.countFrom sub k (s.drop ((Lib.index s sub).toNat + sub.length)) := rfl
theorem sk_step (sep : List UInt8) (k : Nat) (s : List UInt8) : Lib.splitK sep 0 (k + 1) s = if Lib.index s sep == -1 then [s] else s.take ((Lib.index s sep).toNat + 0) :: Lib.splitK sep 0 k (s.drop ((Lib.index s sep).toNat + sep.length)) := rfl
theorem splC_ne (c : UInt8) (l : List UInt8) : splC c l ≠ [] := by
  cases l with
  | nil => simp [splC]
  | cons x xs =>
    unfold splC
    split
    · simp
    · split <;> simp
theorem splC_none {c : UInt8} : ∀ {l : List UInt8}, c ∉ l → splC c l = [l]
  | [], _ => rfl
  | x :: xs, h => by
    have h1 : x ≠ c := fun e => h (by simp [e])
    have h2 := splC_none (c := c) (l := xs) (fun e => h (by simp [e]))
    unfold splC
    rw [if_neg h1, h2]
theorem splC_cons {c : UInt8} : ∀ {a : List UInt8} (r : List UInt8), c ∉ a → splC c (a ++ c :: r) = a :: splC c r
  | [], r, _ => by simp [splC]
  | x :: xs, r, h => by
    have h1 : x ≠ c := fun e => h (by simp [e])
    have h2 := splC_cons (c := c) (a := xs) r (fun e => h (by simp [e]))
    rw [List.cons_append, splC_step, if_neg h1, h2]
/-- the pieces of what was joined by that byte -/
theorem splC_seps {c : UInt8} : ∀ (ls : List (List UInt8)) (a : List UInt8), c ∉ a → (∀ x, x ∈ ls → c ∉ x) → splC c (a ++ ls.flatMap fun x => c :: x) = a :: ls
  | [], a, h, _ => by simp [splC_none h]
  | b :: ls, a, h, hl => by
    rw [List.flatMap_cons, List.cons_append, splC_cons _ h, splC_seps ls b (hl b (by simp)) (fun x hx => hl x (by simp [hx]))]
/-- index of one byte -/
theorem index_one (s : List UInt8) (c : UInt8) : (Lib.index s [c] = -1 ∧ c ∉ s) ∨ ∃ a r, s = a ++ c :: r ∧ c ∉ a ∧ Lib.index s [c] = a.length := by
  induction s with
  | nil => left; simp [Lib.index]
  | cons x xs ih =>
    by_cases h : x = c
    · right
      subst h
      exact ⟨[], xs, rfl, by simp, by simp [Lib.index]⟩
    · have hp : ([c] : List UInt8).isPrefixOf (x :: xs) = false := by
        simp [List.isPrefixOf]; exact fun e => h e.symm
      rcases ih with ⟨h1, h2⟩ | ⟨a, r, h1, h2, h3⟩
      · left
        refine ⟨?_, fun e => ?_⟩
        · unfold Lib.index
          rw [hp, h1]; rfl
        · simp at e
          rcases e with e | e
          · exact h e.symm
          · exact h2 e
      · right
        refine ⟨x :: a, r, by rw [h1]; rfl, fun e => ?_, ?_⟩
        · simp at e
          rcases e with e | e
          · exact h e.symm
          · exact h2 e
        · unfold Lib.index
          rw [hp, h3]
          have : ((a.length : Int) == -1) = false := by simp
          simp only [Bool.false_eq_true, if_false, this]
          simp
theorem splitK_one (c : UInt8) : ∀ (k : Nat) (s : List UInt8), Lib.countFrom [c] k s < k → Lib.splitK [c] 0 (Lib.countFrom [c] k s) s = splC c s := by
  intro k
  induction k with
  | zero => intro s h; omega
  | succ k ih =>
    intro s h
    rcases index_one s c with ⟨h1, h2⟩ | ⟨a, r, h1, h2, h3⟩
    · have e : Lib.countFrom [c] (k + 1) s = 0 := by rw [cf_step, h1]; rfl
      rw [e, splC_none h2]; rfl
    · have hn : ((a.length : Int) == -1) = false := by simp
      have hd : s.drop (a.length + 1) = r := by rw [h1]; simp
      have e : Lib.countFrom [c] (k + 1) s = Lib.countFrom [c] k r + 1 := by
        rw [cf_step, h3, hn]
        simp only [Bool.false_eq_true, if_false, Int.toNat_natCast, List.length_cons, List.length_nil, Nat.zero_add, hd]
        omega
      rw [e] at h ⊢
      rw [sk_step, h3, hn]
      simp only [Bool.false_eq_true, if_false, Int.toNat_natCast, Nat.add_zero, List.length_cons, List.length_nil, Nat.zero_add, hd]
      rw [ih r (by omega), h1, splC_cons r h2]
      simp
theorem countFrom_le (c : UInt8) : ∀ (k : Nat) (s : List UInt8), Lib.countFrom [c] k s ≤ s.length := by
  intro k
  induction k with
  | zero => intro s; simp [Lib.countFrom]
  | succ k ih =>
    intro s
    rcases index_one s c with ⟨h1, h2⟩ | ⟨a, r, h1, h2, h3⟩
    · rw [cf_step, h1]; simp
    · have hn : ((a.length : Int) == -1) = false := by simp
      have hd : s.drop (a.length + 1) = r := by rw [h1]; simp
      have := ih r
      have hl : s.length = a.length + 1 + r.length := by rw [h1]; simp; omega
      rw [cf_step, h3, hn]
      simp only [Bool.false_eq_true, if_false, Int.toNat_natCast, List.length_cons, List.length_nil, Nat.zero_add, hd]
      omega
/-- Split, at one byte -/
theorem split_one (s : List UInt8) (c : UInt8) : Lib.split s [c] = splC c s := by
  have := countFrom_le c (s.length + 1) s
  exact splitK_one c (s.length + 1) s (by omega)

/-! ### the guess -/
def RST : List UInt8 := [114, 115, 116]
def ABC : List UInt8 := [65, 66, 67]
def nmG (w names : List UInt8) : Int := if w.length = 1 then Lib.indexByte names (w.getD 0 0) else -1
def nuG (w : List UInt8) : Int := match Lib.atoiAll w with
  | .ok v => v
  | _ => -1
def deG (w : List UInt8) : De :=
  if Lib.hasSuffix w [63] then ⟨5, nmG (Lib.trimSuffix w [63]) RST, 0⟩
  else if (Lib.cut w [43]).2.2 then ⟨4, nmG (Lib.cut w [43]).1 RST, nmG (Lib.cut w [43]).2.1 RST⟩
  else if 0 ≤ nmG (Lib.cut w [61]).1 ABC then ⟨2, nmG (Lib.cut w [61]).1 ABC, nmG (Lib.cut w [61]).2.1 RST⟩
  else if 0 ≤ nmG (Lib.cut w [61]).2.1 ABC then ⟨1, nmG (Lib.cut w [61]).1 RST, nmG (Lib.cut w [61]).2.1 ABC⟩
  else ⟨3, nmG (Lib.cut w [61]).1 RST, nuG (Lib.cut w [61]).2.1⟩
def TRY : List UInt8 := [116, 114, 121]
def FORK : List UInt8 := [102, 111, 114, 107]
def FAIL : List UInt8 := [102, 97, 105, 108]
def FAILIF : List UInt8 := [102, 97, 105, 108, 105, 102]
def CELLS : List UInt8 := [99, 101, 108, 108, 115]
def acG (n : List UInt8) (ws : List (List UInt8)) : Ac :=
  if n = TRY then ⟨1, ws.map deG, [], 0⟩ else if n = FORK then ⟨2, [], ws.map nuG, 0⟩ else if n = FAIL then ⟨3, [], [], 0⟩
  else if n = FAILIF then ⟨4, [], [], nmG (([32] : List UInt8).intercalate ws) RST⟩ else ⟨0, [], [], 0⟩
def lastG (bodies : List (List Ac)) (a : Ac) : List (List Ac) := bodies.dropLast ++ [(bodies.getLast?.getD []) ++ [a]]
def liG (p : Pr) (line : List UInt8) : Pr :=
  if (splC 32 line).headD [] = CELLS then ⟨(splC 32 line).tail.map nuG, p.bodies⟩
  else if (splC 32 line).headD [] = BW then ⟨p.cells, p.bodies ++ [[]]⟩
  else if p.bodies = [] then p
  else ⟨p.cells, lastG p.bodies (acG ((splC 32 line).headD []) (splC 32 line).tail)⟩
def prG (t : List UInt8) : Pr := (splC 10 (Lib.trimSuffix t [10])).foldl liG ⟨[], []⟩

def deFitG (d : De) : Bool := decide ((deG (deT d)).k = d.k) && decide ((deG (deT d)).a = d.a) && decide ((deG (deT d)).b = d.b)
theorem deG_all : ((List.range 3).all fun (a : Nat) => (List.range 3).all fun (b : Nat) => deFitG ⟨1, a, b⟩ && deFitG ⟨2, a, b⟩ && deFitG ⟨4, a, b⟩ && deFitG ⟨5, a, 0⟩) = true := by kernel_rfl
theorem numG_all : ((List.range 3).all fun (a : Nat) => (List.range 100).all fun (b : Nat) => deFitG ⟨3, a, b⟩) = true := by kernel_rfl
theorem decG_all : ((List.range 100).all fun (n : Nat) => decide (nuG (decT n) = n)) = true := by kernel_rfl
theorem reG_all : ((List.range 3).all fun (n : Nat) => decide (nmG (reT n) RST = n)) = true := by kernel_rfl
theorem decG {k : Int} (h : 0 ≤ k ∧ k < 100) : nuG (decT k) = k := by
  obtain ⟨n, rfl, hn⟩ : ∃ n : Nat, k = (n : Int) ∧ n < 100 := ⟨k.toNat, by omega, by omega⟩
  exact of_decide_eq_true (List.all_eq_true.1 decG_all n (List.mem_range.2 hn))
theorem reG {k : Int} (h : 0 ≤ k ∧ k < 3) : nmG (reT k) RST = k := by
  obtain ⟨n, rfl, hn⟩ := three h
  exact of_decide_eq_true (List.all_eq_true.1 reG_all n (List.mem_range.2 hn))
theorem deFitG_of {d : De} (h : deFitG d = true) : deG (deT d) = d := by
  unfold deFitG at h
  simp only [Bool.and_eq_true, decide_eq_true_eq] at h
  obtain ⟨k, a, b⟩ := d
  cases hx : deG (deT ⟨k, a, b⟩) with
  | mk k' a' b' =>
    rw [hx] at h
    obtain ⟨⟨rfl, rfl⟩, rfl⟩ := h
    rfl
theorem deG_of {d : De} {c : Int} (h : deB d c = true) (hc : c ≤ 3) : deG (deT d) = d := by
  apply deFitG_of
  have A := fun (a b : Nat) (ha : a < 3) (hb : b < 3) => by
    have h1 := List.all_eq_true.1 (List.all_eq_true.1 deG_all a (List.mem_range.2 ha)) b (List.mem_range.2 hb)
    simp only [Bool.and_eq_true] at h1
    exact h1
  have hp : ∀ n e : Int, plB n e = true → 0 ≤ n ∧ n < e := fun n e h => by simpa [plB] using h
  obtain ⟨k, a, b⟩ := d
  unfold deB at h
  dsimp only at h
  split at h
  · rename_i e; subst e; simp only [Bool.and_eq_true] at h
    obtain ⟨x, rfl, hx⟩ := three (hp _ _ h.1)
    obtain ⟨y, rfl, hy⟩ := three (a := b) (by have := hp _ _ h.2; omega)
    exact (A x y hx hy).1.1.1
  · split at h
    · rename_i e; subst e; simp only [Bool.and_eq_true] at h
      obtain ⟨y, rfl, hy⟩ := three (hp _ _ h.2)
      obtain ⟨x, rfl, hx⟩ := three (a := a) (by have := hp _ _ h.1; omega)
      exact (A x y hx hy).1.1.2
    · split at h
      · rename_i e; subst e; simp only [Bool.and_eq_true] at h
        obtain ⟨x, rfl, hx⟩ := three (hp _ _ h.1)
        obtain ⟨y, rfl, hy⟩ : ∃ n : Nat, b = (n : Int) ∧ n < 100 := ⟨b.toNat, by have := hp _ _ h.2; omega, by have := hp _ _ h.2; omega⟩
        exact List.all_eq_true.1 (List.all_eq_true.1 numG_all x (List.mem_range.2 hx)) y (List.mem_range.2 hy)
      · split at h
        · rename_i e; subst e; simp only [Bool.and_eq_true] at h
          obtain ⟨x, rfl, hx⟩ := three (hp _ _ h.1)
          obtain ⟨y, rfl, hy⟩ := three (hp _ _ h.2)
          exact (A x y hx hy).1.2
        · split at h
          · rename_i e; subst e; simp only [Bool.and_eq_true, decide_eq_true_eq] at h
            obtain ⟨x, rfl, hx⟩ := three (hp _ _ h.1)
            rw [h.2]
            exact (A x 0 hx (by omega)).2
          · cases h

end Go.Proofs.YtliakmgombpjpaaGreatDoor
