import Derived.Test.YtliakmgombpjpaaGreatDoorJ1
import Derived.WalkKit
import Derived.Deep.RegionHeld3
import Derived.Test.YtliakmgombpjpaaGreatDoorJ2
namespace Go.Proofs.YtliakmgombpjpaaGreatDoor
open Go.RowKit
set_option linter.unusedSimpArgs false
set_option linter.unusedVariables false

/-! ### What a program's text is, in plain words -/
def bs (l : List UInt8) : ByteArray := ⟨l.toArray⟩
theorem bs_app (a b : List UInt8) : bs a ++ bs b = bs (a ++ b) := by
  apply ByteArray.ext
  simp [bs]
theorem bs_size (a : List UInt8) : (bs a).size = a.length := by show a.toArray.size = _; simp
def by8 (n : Int) : UInt8 := UInt8.ofNat n.toNat
def decT (n : Int) : List UInt8 := if n < 10 then [by8 (48 + n)] else [by8 (48 + n / 10), by8 (48 + n % 10)]
def reT (a : Int) : List UInt8 := [by8 (114 + a)]
def ceT (a : Int) : List UInt8 := [by8 (65 + a)]
def deT (d : De) : List UInt8 :=
  if d.k = 1 then reT d.a ++ [61] ++ ceT d.b else if d.k = 2 then ceT d.a ++ [61] ++ reT d.b else if d.k = 3 then reT d.a ++ [61] ++ decT d.b else if d.k = 4 then reT d.a ++ [43] ++ reT d.b else reT d.a ++ [63]
def nuT (ks : List Int) : List UInt8 := ks.flatMap fun k => [32] ++ decT k
def dsT (ds : List De) : List UInt8 := ds.flatMap fun d => [32] ++ deT d
def acT (a : Ac) : List UInt8 :=
  if a.k = 1 then [116, 114, 121] ++ dsT a.ds else if a.k = 2 then [102, 111, 114, 107] ++ nuT a.ks else if a.k = 3 then [102, 97, 105, 108] else [102, 97, 105, 108, 105, 102, 32] ++ reT a.r
def asT (acts : List Ac) : List UInt8 := acts.flatMap fun a => acT a ++ [10]
def boT (acts : List Ac) : List UInt8 := [98, 111, 100, 121, 10] ++ asT acts
def bsT (bodies : List (List Ac)) : List UInt8 := bodies.flatMap boT
def prT (p : Pr) : List UInt8 := [99, 101, 108, 108, 115] ++ nuT p.cells ++ [10] ++ bsT p.bodies
def txT (p : Pr) : List UInt8 := if okB p then prT p else []

theorem flat_snoc {α : Type} (f : α → List UInt8) (l : List α) (x : α) : (l ++ [x]).flatMap f = l.flatMap f ++ f x := by simp
theorem flat_take {α : Type} (z : α) (f : α → List UInt8) (l : List α) (k : Nat) (h : k < l.length) : (l.take (k + 1)).flatMap f = (l.take k).flatMap f ++ f (nth z l k) := by
  rw [take_nth z l k h, flat_snoc]
theorem flat_len {α : Type} {f : α → List UInt8} {m : Nat} (l : List α) (h : ∀ x, x ∈ l → (f x).length ≤ m) : (l.flatMap f).length ≤ l.length * m := by
  induction l with
  | nil => simp
  | cons x l ih =>
    have h1 := ih fun y hy => h y (List.mem_cons_of_mem _ hy)
    have h2 := h x (List.mem_cons_self)
    simp only [List.flatMap_cons, List.length_append, List.length_cons, Nat.succ_mul]
    omega
theorem decT_len (n : Int) : (decT n).length ≤ 2 := by unfold decT; split <;> simp
theorem deT_len (d : De) : (deT d).length ≤ 4 := by
  have := decT_len d.b
  unfold deT reT ceT
  repeat' split
  all_goals simp; try omega
theorem nuT_len (ks : List Int) : (nuT ks).length ≤ ks.length * 3 := flat_len ks fun k _ => by have := decT_len k; simp; omega
theorem dsT_len (ds : List De) : (dsT ds).length ≤ ds.length * 5 := flat_len ds fun d _ => by have := deT_len d; simp; omega
theorem acT_len {a : Ac} (h : a.ds.length ≤ 5) (h2 : a.ks.length ≤ 3) : (acT a).length ≤ 28 := by
  have h1 := dsT_len a.ds
  have h3 := nuT_len a.ks
  unfold acT reT
  repeat' split
  all_goals simp; try omega
/-- what is in form is not long -/
theorem acB_len {a : Ac} {nc body nb : Int} (h : acB a nc body nb = true) : a.ds.length ≤ 5 ∧ a.ks.length ≤ 3 := by
  unfold acB at h
  split at h
  · simp [dsB] at h; simp [h]
  split at h
  · simp [ksB, inB] at h; simp [h]; omega
  split at h
  · simp at h; simp [h]
  split at h
  · simp at h; simp [h]
  · simp at h
theorem asT_len (acts : List Ac) (h : ∀ a, a ∈ acts → a.ds.length ≤ 5 ∧ a.ks.length ≤ 3) : (asT acts).length ≤ acts.length * 29 := flat_len acts fun a ha => by have := acT_len (h a ha).1 (h a ha).2; simp; omega

end Go.Proofs.YtliakmgombpjpaaGreatDoor

namespace Go.Proofs.YtliakmgombpjpaaGreatDoor
open Go.RowKit
set_option linter.unusedSimpArgs false
set_option linter.unusedVariables false

theorem regName_any (a : Int) (h0 : 0 ≤ a) (h1 : a < 3) (w : World) :
    Calls Tryz.prog 153 #[.int .i64 a] w fun e w' => e = .returned (.string (bs (reT a))) ∧ w' = w := by
  have h : a = 0 ∨ a = 1 ∨ a = 2 := by omega
  rcases h with rfl | rfl | rfl
  all_goals
    go_enter Tryz.func153, Tryz.ntmps153
    go_wp2_with fail
    go_ret
    exact ⟨by rfl, rfl⟩
theorem cellName_any (a : Int) (h0 : 0 ≤ a) (h1 : a < 3) (w : World) :
    Calls Tryz.prog 157 #[.int .i64 a] w fun e w' => e = .returned (.string (bs (ceT a))) ∧ w' = w := by
  have h : a = 0 ∨ a = 1 ∨ a = 2 := by omega
  rcases h with rfl | rfl | rfl
  all_goals
    go_enter Tryz.func157, Tryz.ntmps157
    go_wp2_with fail
    go_ret
    exact ⟨by rfl, rfl⟩

def digC : ByteArray := bs [48, 49, 50, 51, 52, 53, 54, 55, 56, 57, 97, 98, 99, 100, 101, 102, 103, 104, 105, 106, 107, 108, 109, 110, 111, 112, 113, 114, 115, 116, 117, 118, 119, 120, 121, 122]
def smallsC : ByteArray := bs ((List.range 100).flatMap fun (i : Nat) => [by8 (48 + (i : Int) / 10), by8 (48 + (i : Int) % 10)])
theorem small_all : ((List.range 100).all fun (n : Nat) => decide ((smallsC.extract (n * 2) (n * 2 + 2)).data.toList = [by8 (48 + (n : Int) / 10), by8 (48 + (n : Int) % 10)])) = true := by kernel_rfl
theorem dig_all : ((List.range 10).all fun (n : Nat) => decide ((digC.extract n (n + 1)).data.toList = [by8 (48 + (n : Int))])) = true := by kernel_rfl
theorem ba_ext {a b : ByteArray} (h : a.data.toList = b.data.toList) : a = b := by
  apply ByteArray.ext
  exact Array.toList_inj.1 h
theorem small_eq (n : Nat) (h : n < 100) (h1 : ¬ n < 10) : smallsC.extract (n * 2) (n * 2 + 2) = bs (decT n) := by
  have h2 := List.all_eq_true.1 small_all n (List.mem_range.2 h)
  apply ba_ext
  rw [of_decide_eq_true h2]
  unfold decT
  rw [if_neg (by omega)]
  rfl
theorem dig_eq (n : Nat) (h : n < 10) : digC.extract n (n + 1) = bs (decT n) := by
  have h2 := List.all_eq_true.1 dig_all n (List.mem_range.2 h)
  apply ba_ext
  rw [of_decide_eq_true h2]
  unfold decT
  rw [if_pos (by omega)]
  rfl
theorem ext_of {C C' X : ByteArray} {a b : Nat} (h : C = C') (h2 : C'.extract a b = X) : C.extract a b = X := by rw [h]; exact h2
theorem ret_str {a b : ByteArray} (h : a = b) : Ending.returned (Value.string a) = .returned (.string b) := by rw [h]

set_option maxRecDepth 20000 in
theorem small_any (n : Nat) (h1 : n < 100) (w : World) :
    Calls Tryz.prog 90 #[.int .i64 (n : Int)] w fun e w' => e = .returned (.string (bs (decT n))) ∧ w' = w := by
  by_cases h : n < 10
  · have h' : (n : Int) < 10 := by omega
    go_enter Tryz.func90, Tryz.ntmps90
    go_wp2_with fail
    go_ret
    exact ⟨ret_str (ext_of (C' := digC) (by kernel_rfl) (dig_eq n h)), rfl⟩
  · have h' : ¬ (n : Int) < 10 := by omega
    go_enter Tryz.func90, Tryz.ntmps90
    go_wp2_with fail
    go_ret
    exact ⟨ret_str (ext_of (C' := smallsC) (by kernel_rfl) (small_eq n h1 h)), rfl⟩

theorem formatInt_any (n : Nat) (h1 : n < 100) (w : World) :
    Calls Tryz.prog 76 #[.int .i64 (n : Int), .int .i64 10] w fun e w' => e = .returned (.string (bs (decT n))) ∧ Below w.heap.size w w' := by
  have h' : (n : Int) < 100 := by omega
  go_enter Tryz.func76, Tryz.ntmps76
  go_wp2_with (go_at_call 90; refine (small_any n h1 _).mono ?_; rintro e w' ⟨rfl, rfl⟩)
  go_ret
  exact ⟨rfl, (by repeat (first | exact Below.refl _ _ | refine Below.alloc ?_ (by simp; try omega) _ | refine Below.drew ?_ | refine Below.setCell ?_ (by simp; try omega) _))⟩
theorem iItoa_any (n : Nat) (h1 : n < 100) (w : World) :
    Calls Tryz.prog 60 #[.int .i64 (n : Int)] w fun e w' => e = .returned (.string (bs (decT n))) ∧ Below w.heap.size w w' := by
  go_enter Tryz.func60, Tryz.ntmps60
  go_wp2_with (go_at_call 76; refine (formatInt_any n h1 _).mono ?_; rintro e w' ⟨rfl, hb⟩; have HB := (show Hid (Below _ _ _) from hb); clear hb)
  go_ret
  exact ⟨rfl, HB.out⟩
theorem itoa_any (n : Nat) (h1 : n < 100) (w : World) :
    Calls Tryz.prog 43 #[.int .i64 (n : Int)] w fun e w' => e = .returned (.string (bs (decT n))) ∧ Below w.heap.size w w' := by
  go_enter Tryz.func43, Tryz.ntmps43
  go_wp2_with (go_at_call 60; refine (iItoa_any n h1 _).mono ?_; rintro e w' ⟨rfl, hb⟩; have HB := (show Hid (Below _ _ _) from hb); clear hb)
  go_ret
  exact ⟨rfl, HB.out⟩

end Go.Proofs.YtliakmgombpjpaaGreatDoor

namespace Go.Proofs.YtliakmgombpjpaaGreatDoor
open Go.RowKit
set_option linter.unusedSimpArgs false
set_option linter.unusedVariables false

@[go_sem] theorem bs_size' (l : List UInt8) : (bs l).size = l.length := bs_size l
@[go_sem] theorem reT_len (a : Int) : (reT a).length = 1 := rfl
@[go_sem] theorem ceT_len (a : Int) : (ceT a).length = 1 := rfl
theorem mk_bs (l : List UInt8) : ByteArray.mk l.toArray = bs l := rfl

set_option maxHeartbeats 1000000 in
theorem wLoad_any (r c : Int) (h0 : 0 ≤ r) (h1 : r < 3) (h2 : 0 ≤ c) (h3 : c < 3) (w : World) :
    Calls Tryz.prog 156 #[.agg #[.int .i64 r, .int .i64 c]] w fun e w' => e = .returned (.string (bs (reT r ++ [61] ++ ceT c))) ∧ Below w.heap.size w w' := by
  go_enter Tryz.func156, Tryz.ntmps156
  go_wp2_with fail
  go_region_held3 (fun w' => w'.cell? ⟨w.heap.size, 0, none⟩ = some (.int .i64 r) ∧ w'.cell? ⟨w.heap.size, 1, none⟩ = some (.int .i64 c)) (first | exact ⟨k0, k1⟩ | go_keep | (constructor <;> simp [go_sem])) (first | (go_at_call 153; refine (regName_any _ (by omega) (by omega) _).mono ?_; rintro e w' ⟨rfl, rfl⟩) | (go_at_call 157; refine (cellName_any _ (by omega) (by omega) _).mono ?_; rintro e w' ⟨rfl, rfl⟩))
  all_goals
    go_wp2_with fail
    go_ret
    exact ⟨ret_str (by rw [mk_bs, bs_app, bs_app]), (by repeat (first | exact Below.refl _ _ | refine Below.alloc ?_ (by simp; try omega) _ | refine Below.drew ?_ | refine Below.setCell ?_ (by simp; try omega) _))⟩
set_option maxHeartbeats 1000000 in
theorem wStore_any (c r : Int) (h0 : 0 ≤ r) (h1 : r < 3) (h2 : 0 ≤ c) (h3 : c < 3) (w : World) :
    Calls Tryz.prog 158 #[.agg #[.int .i64 c, .int .i64 r]] w fun e w' => e = .returned (.string (bs (ceT c ++ [61] ++ reT r))) ∧ Below w.heap.size w w' := by
  go_enter Tryz.func158, Tryz.ntmps158
  go_wp2_with fail
  go_region_held3 (fun w' => w'.cell? ⟨w.heap.size, 0, none⟩ = some (.int .i64 c) ∧ w'.cell? ⟨w.heap.size, 1, none⟩ = some (.int .i64 r)) (first | exact ⟨k0, k1⟩ | go_keep | (constructor <;> simp [go_sem])) (first | (go_at_call 153; refine (regName_any _ (by omega) (by omega) _).mono ?_; rintro e w' ⟨rfl, rfl⟩) | (go_at_call 157; refine (cellName_any _ (by omega) (by omega) _).mono ?_; rintro e w' ⟨rfl, rfl⟩))
  all_goals
    go_wp2_with fail
    go_ret
    exact ⟨ret_str (by rw [mk_bs, bs_app, bs_app]), (by repeat (first | exact Below.refl _ _ | refine Below.alloc ?_ (by simp; try omega) _ | refine Below.drew ?_ | refine Below.setCell ?_ (by simp; try omega) _))⟩
set_option maxHeartbeats 1000000 in
theorem wAdd_any (r c : Int) (h0 : 0 ≤ r) (h1 : r < 3) (h2 : 0 ≤ c) (h3 : c < 3) (w : World) :
    Calls Tryz.prog 160 #[.agg #[.int .i64 r, .int .i64 c]] w fun e w' => e = .returned (.string (bs (reT r ++ [43] ++ reT c))) ∧ Below w.heap.size w w' := by
  go_enter Tryz.func160, Tryz.ntmps160
  go_wp2_with fail
  go_region_held3 (fun w' => w'.cell? ⟨w.heap.size, 0, none⟩ = some (.int .i64 r) ∧ w'.cell? ⟨w.heap.size, 1, none⟩ = some (.int .i64 c)) (first | exact ⟨k0, k1⟩ | go_keep | (constructor <;> simp [go_sem])) (first | (go_at_call 153; refine (regName_any _ (by omega) (by omega) _).mono ?_; rintro e w' ⟨rfl, rfl⟩))
  all_goals
    go_wp2_with fail
    go_ret
    exact ⟨ret_str (by rw [mk_bs, bs_app, bs_app]), (by repeat (first | exact Below.refl _ _ | refine Below.alloc ?_ (by simp; try omega) _ | refine Below.drew ?_ | refine Below.setCell ?_ (by simp; try omega) _))⟩
set_option maxHeartbeats 1000000 in
theorem wNeed_any (r : Int) (h0 : 0 ≤ r) (h1 : r < 3) (w : World) :
    Calls Tryz.prog 161 #[.agg #[.int .i64 r]] w fun e w' => e = .returned (.string (bs (reT r ++ [63]))) ∧ Below w.heap.size w w' := by
  go_enter Tryz.func161, Tryz.ntmps161
  go_wp2_with (go_at_call 153; refine (regName_any r h0 h1 _).mono ?_; rintro e w' ⟨rfl, rfl⟩)
  go_ret
  exact ⟨ret_str (by rw [mk_bs, bs_app]), (by repeat (first | exact Below.refl _ _ | refine Below.alloc ?_ (by simp; try omega) _ | refine Below.drew ?_ | refine Below.setCell ?_ (by simp; try omega) _))⟩
set_option maxHeartbeats 1000000 in
theorem wNum_any (r : Int) (n : Nat) (h0 : 0 ≤ r) (h1 : r < 3) (h3 : n < 100) (w : World) :
    Calls Tryz.prog 159 #[.agg #[.int .i64 r, .int .i64 (n : Int)]] w fun e w' => e = .returned (.string (bs (reT r ++ [61] ++ decT n))) ∧ Below w.heap.size w w' := by
  have hd : ∃ D, D = decT n ∧ (D.length = 1 ∨ D.length = 2) := ⟨_, rfl, by unfold decT; split <;> simp⟩
  obtain ⟨D, hD, hl⟩ := hd
  have HD := (show Hid (D = decT n) from hD)
  clear hD
  rcases hl with hl | hl
  all_goals
    go_enter Tryz.func159, Tryz.ntmps159
    go_wp2_with fail
    go_region_held3 (fun w' => w'.cell? ⟨w.heap.size, 0, none⟩ = some (.int .i64 r) ∧ w'.cell? ⟨w.heap.size, 1, none⟩ = some (.int .i64 (n : Int))) (first | exact ⟨k0, k1⟩ | go_keep | (constructor <;> simp [go_sem])) (first | (go_at_call 153; refine (regName_any _ (by omega) (by omega) _).mono ?_; rintro e w' ⟨rfl, rfl⟩) | (go_at_call 43; refine (itoa_any n h3 _).mono ?_; rintro e w2 ⟨rfl, hb⟩; rw [← HD.out]; have HB := (show Hid (Below _ _ _) from hb); have k0 : w2.cell? ⟨w.heap.size, 0, none⟩ = some (.int .i64 r) := (by rw [hb.cell (p := ⟨w.heap.size, 0, none⟩) (by simp)]; simp [go_sem]); have k1 : w2.cell? ⟨w.heap.size, 1, none⟩ = some (.int .i64 (n : Int)) := (by rw [hb.cell (p := ⟨w.heap.size, 1, none⟩) (by simp)]; simp [go_sem]); clear hb))
    all_goals
      go_wp2_with fail
      go_ret
      exact ⟨ret_str (by rw [mk_bs, bs_app, bs_app, HD.out]), Below.trans ((by repeat (first | exact Below.refl _ _ | refine Below.alloc ?_ (by simp; try omega) _ | refine Below.drew ?_ | refine Below.setCell ?_ (by simp; try omega) _))) (HB.out.mono (by simp; try omega))⟩

end Go.Proofs.YtliakmgombpjpaaGreatDoor

namespace Go.Proofs.YtliakmgombpjpaaGreatDoor
open Go.RowKit
set_option linter.unusedSimpArgs false
set_option linter.unusedVariables false

/-- two strings that are not long -/
theorem add_ok {a b : ByteArray} {m n : Nat} (h1 : a.size ≤ m) (h2 : b.size ≤ n) (h : m + n ≤ 1000000) : ¬ (9223372036854775807 < a.size + b.size) := by omega
theorem num_nat {k : Int} (h : 0 ≤ k ∧ k < 100) : ∃ n : Nat, k = (n : Int) ∧ n < 100 := ⟨k.toNat, by omega, by omega⟩

set_option maxHeartbeats 1000000 in
theorem numsWritten_any (ks : List Int) (kv : Value) (w : World) (h : IntsAt w kv ks) (hn : ∀ k, k ∈ ks → 0 ≤ k ∧ k < 100) (hl : ks.length ≤ 1000) :
    Calls Tryz.prog 19 #[kv] w fun e w' => e = .returned (.string (bs (nuT ks))) ∧ Below w.heap.size w w' := by
  obtain ⟨a, cap, rfl, hm, hc⟩ := id h
  have HC := (show Hid (∀ i, i < ks.length → _) from hc)
  have HN := (show Hid (∀ k, k ∈ ks → _) from hn)
  clear h hc hn
  go_enter Tryz.func19, Tryz.ntmps19
  go_wp2_with fail
  go_loopw [3, 8] (fun t q w' => ∃ (k : Nat) (T : ByteArray), k ≤ ks.length ∧ q = .int .i64 k ∧ t = .string T ∧ T = bs (nuT (ks.take k)) ∧ Below w.heap.size w w') (fun _ q _ => ks.length - (intOf q).toNat)
  case atStart => exact ⟨0, _, Nat.zero_le _, rfl, rfl, rfl, Below.refl _ _⟩
  case round =>
    obtain ⟨k, T, hk, rfl, rfl, hT, hb⟩ := hrel
    have hTs : T.size ≤ 3000 := by
      have := nuT_len (ks.take k)
      rw [hT, bs_size]
      simp at this
      omega
    have HT := (show Hid (T = _) from hT)
    clear hT
    by_cases hlt : k < ks.length
    · have hlt' : (k : Int) < (ks.length : Int) := by omega
      obtain ⟨b, off, rfl, hbw, c0⟩ := HC.out k hlt
      rw [← hb.cell (p := ⟨b, _, none⟩) hbw] at c0
      obtain ⟨n, hn, hn1⟩ := num_nat (HN.out _ (nth_mem 0 ks k hlt))
      rw [hn] at c0
      obtain ⟨D, hD⟩ : ∃ D, D = bs (decT (n : Int)) := ⟨_, rfl⟩
      have hDs : D.size ≤ 2 := by rw [hD, bs_size]; exact decT_len _
      have HD := (show Hid (D = _) from hD)
      have HE : Hid (bs (nuT (ks.take (k + 1))) = T ++ (ByteArray.mk #[32] ++ D)) := by
        have e := flat_take 0 (fun k => [32] ++ decT k) ks k hlt
        rw [hn] at e
        rw [HT.out, HD.out, show ByteArray.mk #[32] = bs [32] from rfl, bs_app, bs_app]
        unfold nuT
        rw [e]
        exact (rfl : _ = _)
      have a1 : ¬ (9223372036854775807 < 1 + D.size) := by omega
      have a2 : ¬ (9223372036854775807 < T.size + (1 + D.size)) := by omega
      have hz : b < wr.heap.size := Nat.lt_of_lt_of_le hbw hb.size
      have H1 := (show Hid (Below _ _ _) from hb)
      clear hD hn hb
      go_wp2_with (go_at_call 43; refine (itoa_any n hn1 _).mono ?_; rintro e w2 ⟨rfl, hb2⟩; rw [← HD.out]; have H2 : Hid (Below w.heap.size w w2) := H1.out.trans (hb2.mono H1.out.size); clear hb2)
      go_roundw
      case rel => exact ⟨k + 1, _, by omega, by go_num, rfl, HE.out.symm, H2.out⟩
      case measure => simp [intOf]; omega
    · have hlt' : ¬ (k : Int) < (ks.length : Int) := by omega
      have HE : Hid (T = bs (nuT ks)) := by rw [HT.out, List.take_of_length_le (by omega)]; rfl
      have H1 := (show Hid (Below _ _ _) from hb)
      clear hb
      go_wp2_with fail
      go_ret
      exact ⟨ret_str HE.out, H1.out⟩

theorem wFail_any (w : World) :
    Calls Tryz.prog 151 #[.agg #[]] w fun e w' => e = .returned (.string (bs [102, 97, 105, 108])) ∧ Below w.heap.size w w' := by
  go_enter Tryz.func151, Tryz.ntmps151
  go_wp2_with fail
  go_ret
  exact ⟨rfl, (by repeat (first | exact Below.refl _ _ | refine Below.alloc ?_ (by simp; try omega) _ | refine Below.drew ?_ | refine Below.setCell ?_ (by simp; try omega) _))⟩
theorem wFailIf_any (r : Int) (h0 : 0 ≤ r) (h1 : r < 3) (w : World) :
    Calls Tryz.prog 152 #[.agg #[.int .i64 r]] w fun e w' => e = .returned (.string (bs ([102, 97, 105, 108, 105, 102, 32] ++ reT r))) ∧ Below w.heap.size w w' := by
  go_enter Tryz.func152, Tryz.ntmps152
  go_wp2_with (go_at_call 153; refine (regName_any r h0 h1 _).mono ?_; rintro e w' ⟨rfl, rfl⟩)
  go_ret
  exact ⟨ret_str (by rw [mk_bs, bs_app]; rfl), (by repeat (first | exact Below.refl _ _ | refine Below.alloc ?_ (by simp; try omega) _ | refine Below.drew ?_ | refine Below.setCell ?_ (by simp; try omega) _))⟩
set_option maxHeartbeats 1000000 in
theorem wFork_any (ks : List Int) (kv : Value) (w : World) (h : IntsAt w kv ks) (hn : ∀ k, k ∈ ks → 0 ≤ k ∧ k < 100) (hl : ks.length ≤ 1000) :
    Calls Tryz.prog 150 #[.agg #[kv]] w fun e w' => e = .returned (.string (bs ([102, 111, 114, 107] ++ nuT ks))) ∧ Below w.heap.size w w' := by
  obtain ⟨a, cap, rfl, hm⟩ := h.shape
  have HI : Hid (IntsAt (w.alloc (.cells #[.slice a ks.length cap] 71)) (.slice a ks.length cap) ks) := h.mono (by repeat (first | exact Below.refl _ _ | refine Below.alloc ?_ (by simp; try omega) _ | refine Below.drew ?_ | refine Below.setCell ?_ (by simp; try omega) _))
  obtain ⟨D, hD⟩ : ∃ D, D = bs (nuT ks) := ⟨_, rfl⟩
  have hDs : D.size ≤ 3000 := by have := nuT_len ks; rw [hD, bs_size]; omega
  have HD := (show Hid (D = _) from hD)
  have a1 : ¬ (9223372036854775807 < 4 + D.size) := by omega
  clear h hD
  go_enter Tryz.func150, Tryz.ntmps150
  go_wp2_with (go_at_call 19; refine (numsWritten_any ks _ _ HI.out hn hl).mono ?_; rintro e w2 ⟨rfl, hb2⟩; rw [← HD.out]; have H2 : Hid (Below w.heap.size w w2) := below_after (Below.refl _ _) (Nat.le_refl _) hb2; clear hb2)
  go_ret
  exact ⟨ret_str (by rw [HD.out, mk_bs, bs_app]; rfl), H2.out⟩

end Go.Proofs.YtliakmgombpjpaaGreatDoor
