import Derived.Test.YtdpnenjbgcpefaaDoorT0
namespace Go.Proofs.YtdpnenjbgcpefaaDoor
open Go.RowKit
set_option linter.unusedSimpArgs false
set_option linter.unusedVariables false

/-! ### What a program's text is, in plain words -/
def bs (l : List UInt8) : ByteArray := ⟨l.toArray⟩
theorem bs_app (a b : List UInt8) : bs a ++ bs b = bs (a ++ b) := by
  apply ByteArray.ext
  simp [bs]
theorem bs_size (a : List UInt8) : (bs a).size = a.length := by show a.toArray.size = _; simp
def by8 (n : Int) : UInt8 := UInt8.ofNat n.toNat
def decT (n : Int) : List UInt8 := if n < 10 then [by8 (48 + n)] else [by8 (48 + n / 10), by8 (48 + n % 10)]
def reT (a : Int) : List UInt8 := [by8 (114 + a)]
def ceT (a : Int) : List UInt8 := [by8 (65 + a)]
def deT (d : De) : List UInt8 :=
  if d.k = 1 then reT d.a ++ [61] ++ ceT d.b else if d.k = 2 then ceT d.a ++ [61] ++ reT d.b else if d.k = 3 then reT d.a ++ [61] ++ decT d.b else if d.k = 4 then reT d.a ++ [43] ++ reT d.b else reT d.a ++ [63]
def nuT (ks : List Int) : List UInt8 := ks.flatMap fun k => [32] ++ decT k
def dsT (ds : List De) : List UInt8 := ds.flatMap fun d => [32] ++ deT d
def acT (a : Ac) : List UInt8 :=
  if a.k = 1 then [116, 114, 121] ++ dsT a.ds else if a.k = 2 then [102, 111, 114, 107] ++ nuT a.ks else if a.k = 3 then [102, 97, 105, 108] else [102, 97, 105, 108, 105, 102, 32] ++ reT a.r
def asT (acts : List Ac) : List UInt8 := acts.flatMap fun a => acT a ++ [10]
def boT (acts : List Ac) : List UInt8 := [98, 111, 100, 121, 10] ++ asT acts
def bsT (bodies : List (List Ac)) : List UInt8 := bodies.flatMap boT
def prT (p : Pr) : List UInt8 := [99, 101, 108, 108, 115] ++ nuT p.cells ++ [10] ++ bsT p.bodies
def txT (p : Pr) : List UInt8 := if okB p then prT p else []

theorem flat_snoc {α : Type} (f : α → List UInt8) (l : List α) (x : α) : (l ++ [x]).flatMap f = l.flatMap f ++ f x := by simp
theorem flat_take {α : Type} (z : α) (f : α → List UInt8) (l : List α) (k : Nat) (h : k < l.length) : (l.take (k + 1)).flatMap f = (l.take k).flatMap f ++ f (nth z l k) := by
  rw [take_nth z l k h, flat_snoc]
theorem flat_len {α : Type} {f : α → List UInt8} {m : Nat} (l : List α) (h : ∀ x, x ∈ l → (f x).length ≤ m) : (l.flatMap f).length ≤ l.length * m := by
  induction l with
  | nil => simp
  | cons x l ih =>
    have h1 := ih fun y hy => h y (List.mem_cons_of_mem _ hy)
    have h2 := h x (List.mem_cons_self)
    simp only [List.flatMap_cons, List.length_append, List.length_cons, Nat.succ_mul]
    omega
theorem decT_len (n : Int) : (decT n).length ≤ 2 := by unfold decT; split <;> simp
theorem deT_len (d : De) : (deT d).length ≤ 4 := by
  have := decT_len d.b
  unfold deT reT ceT
  repeat' split
  all_goals simp; try omega
theorem nuT_len (ks : List Int) : (nuT ks).length ≤ ks.length * 3 := flat_len ks fun k _ => by have := decT_len k; simp; omega
theorem dsT_len (ds : List De) : (dsT ds).length ≤ ds.length * 5 := flat_len ds fun d _ => by have := deT_len d; simp; omega
theorem acT_len {a : Ac} (h : a.ds.length ≤ 5) (h2 : a.ks.length ≤ 3) : (acT a).length ≤ 28 := by
  have h1 := dsT_len a.ds
  have h3 := nuT_len a.ks
  unfold acT reT
  repeat' split
  all_goals simp; try omega
/-- what is in form is not long -/
theorem acB_len {a : Ac} {nc body nb : Int} (h : acB a nc body nb = true) : a.ds.length ≤ 5 ∧ a.ks.length ≤ 3 := by
  unfold acB at h
  split at h
  · simp [dsB] at h; simp [h]
  split at h
  · simp [ksB, inB] at h; simp [h]; omega
  split at h
  · simp at h; simp [h]
  split at h
  · simp at h; simp [h]
  · simp at h
theorem asT_len (acts : List Ac) (h : ∀ a, a ∈ acts → a.ds.length ≤ 5 ∧ a.ks.length ≤ 3) : (asT acts).length ≤ acts.length * 29 := flat_len acts fun a ha => by have := acT_len (h a ha).1 (h a ha).2; simp; omega

end Go.Proofs.YtdpnenjbgcpefaaDoor
