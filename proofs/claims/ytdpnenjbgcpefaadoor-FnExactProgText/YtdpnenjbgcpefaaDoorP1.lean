import Derived.Test.YtdpnenjbgcpefaaDoorP0
import Derived.WalkKit
namespace Go.Proofs.YtdpnenjbgcpefaaDoor
open Go.RowKit
set_option linter.unusedSimpArgs false
set_option linter.unusedVariables false

theorem regName_any (a : Int) (h0 : 0 ≤ a) (h1 : a < 3) (w : World) :
    Calls Tryd.prog 83 #[.int .i64 a] w fun e w' => e = .returned (.string (bs (reT a))) ∧ w' = w := by
  have h : a = 0 ∨ a = 1 ∨ a = 2 := by omega
  rcases h with rfl | rfl | rfl
  all_goals
    go_enter Tryd.func83, Tryd.ntmps83
    go_wp2_with fail
    go_ret
    exact ⟨by rfl, rfl⟩
theorem cellName_any (a : Int) (h0 : 0 ≤ a) (h1 : a < 3) (w : World) :
    Calls Tryd.prog 86 #[.int .i64 a] w fun e w' => e = .returned (.string (bs (ceT a))) ∧ w' = w := by
  have h : a = 0 ∨ a = 1 ∨ a = 2 := by omega
  rcases h with rfl | rfl | rfl
  all_goals
    go_enter Tryd.func86, Tryd.ntmps86
    go_wp2_with fail
    go_ret
    exact ⟨by rfl, rfl⟩

def digC : ByteArray := bs [48, 49, 50, 51, 52, 53, 54, 55, 56, 57, 97, 98, 99, 100, 101, 102, 103, 104, 105, 106, 107, 108, 109, 110, 111, 112, 113, 114, 115, 116, 117, 118, 119, 120, 121, 122]
def smallsC : ByteArray := bs ((List.range 100).flatMap fun (i : Nat) => [by8 (48 + (i : Int) / 10), by8 (48 + (i : Int) % 10)])
theorem small_all : ((List.range 100).all fun (n : Nat) => decide ((smallsC.extract (n * 2) (n * 2 + 2)).data.toList = [by8 (48 + (n : Int) / 10), by8 (48 + (n : Int) % 10)])) = true := by kernel_rfl
theorem dig_all : ((List.range 10).all fun (n : Nat) => decide ((digC.extract n (n + 1)).data.toList = [by8 (48 + (n : Int))])) = true := by kernel_rfl
theorem ba_ext {a b : ByteArray} (h : a.data.toList = b.data.toList) : a = b := by
  apply ByteArray.ext
  exact Array.toList_inj.1 h
theorem small_eq (n : Nat) (h : n < 100) (h1 : ¬ n < 10) : smallsC.extract (n * 2) (n * 2 + 2) = bs (decT n) := by
  have h2 := List.all_eq_true.1 small_all n (List.mem_range.2 h)
  apply ba_ext
  rw [of_decide_eq_true h2]
  unfold decT
  rw [if_neg (by omega)]
  rfl
theorem dig_eq (n : Nat) (h : n < 10) : digC.extract n (n + 1) = bs (decT n) := by
  have h2 := List.all_eq_true.1 dig_all n (List.mem_range.2 h)
  apply ba_ext
  rw [of_decide_eq_true h2]
  unfold decT
  rw [if_pos (by omega)]
  rfl
theorem ext_of {C C' X : ByteArray} {a b : Nat} (h : C = C') (h2 : C'.extract a b = X) : C.extract a b = X := by rw [h]; exact h2
theorem ret_str {a b : ByteArray} (h : a = b) : Ending.returned (Value.string a) = .returned (.string b) := by rw [h]

set_option maxRecDepth 20000 in
theorem small_any (n : Nat) (h1 : n < 100) (w : World) :
    Calls Tryd.prog 51 #[.int .i64 (n : Int)] w fun e w' => e = .returned (.string (bs (decT n))) ∧ w' = w := by
  by_cases h : n < 10
  · have h' : (n : Int) < 10 := by omega
    go_enter Tryd.func51, Tryd.ntmps51
    go_wp2_with fail
    go_ret
    exact ⟨ret_str (ext_of (C' := digC) (by kernel_rfl) (dig_eq n h)), rfl⟩
  · have h' : ¬ (n : Int) < 10 := by omega
    go_enter Tryd.func51, Tryd.ntmps51
    go_wp2_with fail
    go_ret
    exact ⟨ret_str (ext_of (C' := smallsC) (by kernel_rfl) (small_eq n h1 h)), rfl⟩

theorem formatInt_any (n : Nat) (h1 : n < 100) (w : World) :
    Calls Tryd.prog 47 #[.int .i64 (n : Int), .int .i64 10] w fun e w' => e = .returned (.string (bs (decT n))) ∧ Below w.heap.size w w' := by
  have h' : (n : Int) < 100 := by omega
  go_enter Tryd.func47, Tryd.ntmps47
  go_wp2_with (go_at_call 51; refine (small_any n h1 _).mono ?_; rintro e w' ⟨rfl, rfl⟩)
  go_ret
  exact ⟨rfl, (by repeat (first | exact Below.refl _ _ | refine Below.alloc ?_ (by simp; try omega) _ | refine Below.drew ?_ | refine Below.setCell ?_ (by simp; try omega) _))⟩
theorem iItoa_any (n : Nat) (h1 : n < 100) (w : World) :
    Calls Tryd.prog 38 #[.int .i64 (n : Int)] w fun e w' => e = .returned (.string (bs (decT n))) ∧ Below w.heap.size w w' := by
  go_enter Tryd.func38, Tryd.ntmps38
  go_wp2_with (go_at_call 47; refine (formatInt_any n h1 _).mono ?_; rintro e w' ⟨rfl, hb⟩; have HB := (show Hid (Below _ _ _) from hb); clear hb)
  go_ret
  exact ⟨rfl, HB.out⟩
theorem itoa_any (n : Nat) (h1 : n < 100) (w : World) :
    Calls Tryd.prog 29 #[.int .i64 (n : Int)] w fun e w' => e = .returned (.string (bs (decT n))) ∧ Below w.heap.size w w' := by
  go_enter Tryd.func29, Tryd.ntmps29
  go_wp2_with (go_at_call 38; refine (iItoa_any n h1 _).mono ?_; rintro e w' ⟨rfl, hb⟩; have HB := (show Hid (Below _ _ _) from hb); clear hb)
  go_ret
  exact ⟨rfl, HB.out⟩

end Go.Proofs.YtdpnenjbgcpefaaDoor
