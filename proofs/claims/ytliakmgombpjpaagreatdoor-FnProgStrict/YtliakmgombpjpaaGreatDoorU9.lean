/-
  Drawing a text to be read.
-/
import Derived.Test.YtliakmgombpjpaaGreatDoorU8
import Derived.Test.YtliakmgombpjpaaGreatDoorD18
namespace Go.Proofs.YtliakmgombpjpaaGreatDoor
open Go.RowKit
set_option linter.unusedSimpArgs false
set_option linter.unusedVariables false
set_option maxRecDepth 20000

set_option maxHeartbeats 1000000 in
theorem of_any (B R p g : Nat) (ws : List (List UInt8)) (w : World) (h : RdAt B w R p) (hp : p ≤ 1000000) (hs : StrsAt w (.slice (some ⟨g, 0, none⟩) ws.length ws.length) ws) (hg : g < w.heap.size) (hgR : g ≠ R) (h1 : 1 ≤ ws.length) (h2 : ws.length ≤ 1000) :
    Calls Tryz.prog 29 #[.pointer (some ⟨R, 0, none⟩), .slice (some ⟨g, 0, none⟩) ws.length ws.length] w fun e w' => ∃ x, x ∈ ws ∧ e = .returned (.string (bs x)) ∧ RdAt B w' R (p + 1) ∧ Fr R w.heap.size w w' := by
  have HS := (show Hid (StrsAt _ _ _) from hs)
  clear hs
  go_enter Tryz.func29, Tryz.ntmps29
  go_wp2_with fail
  refine (pick_any B R p _ _ h hp (by omega) (by omega)).mono ?_
  rintro e w1 ⟨q, rfl, q0, q1, hR1, hF1⟩
  obtain ⟨i, rfl⟩ := Int.eq_ofNat_of_zero_le q0
  have hi : i < ws.length := by omega
  have c0 := (hF1.strs HS.out hg hgR).get i hi
  have HF1 := (show Hid (Fr _ _ _ _) from hF1)
  have HR1 := (show Hid (RdAt _ _ _ _) from hR1)
  have hm := nth_mem [] ws i hi
  generalize nth [] ws i = X at c0 hm
  clear hF1 hR1 h
  go_wp2_with fail
  go_ret
  exact ⟨X, hm, rfl, HR1.out, HF1.out⟩

theorem strs6 (w : World) : StrsAt (w.alloc (.cells #[.string ⟨#[32]⟩, .string ⟨#[10]⟩, .string ⟨#[48]⟩, .string ⟨#[114]⟩, .string ⟨#[65]⟩, .string ⟨#[61]⟩] 9)) (.slice (some ⟨w.heap.size, 0, none⟩) 6 6) [[32], [10], [48], [114], [65], [61]] := by
  refine ⟨_, _, rfl, ⟨by simp, by omega⟩, fun i hi => ⟨w.heap.size, 0, rfl, by simp, ?_⟩⟩
  rw [Nat.zero_add]
  match i, hi with
  | 0, _ => simp; rfl
  | 1, _ => simp; rfl
  | 2, _ => simp; rfl
  | 3, _ => simp; rfl
  | 4, _ => simp; rfl
  | 5, _ => simp; rfl
def W9 : List (List UInt8) := [[], [99, 101, 108, 108, 115], [99, 101, 108, 108, 115, 10], [99, 101, 108, 108, 115, 32, 49, 10, 98, 111, 100, 121, 10, 116, 114, 121, 32, 114, 61, 66, 10], [99, 101, 108, 108, 115, 32, 49, 10, 98, 111, 100, 121, 10, 102, 111, 114, 107, 32, 48, 10], [99, 101, 108, 108, 115, 32, 49, 10, 98, 111, 100, 121, 10, 102, 111, 114, 107, 10], [99, 101, 108, 108, 115, 32, 48, 49, 10, 98, 111, 100, 121, 10], [99, 101, 108, 108, 115, 32, 49, 10, 98, 111, 100, 121, 10, 116, 114, 121, 32, 117, 61, 65, 10], [98, 111, 100, 121, 10]]
theorem strs9 (w : World) : StrsAt (w.alloc (.cells (W9.map fun x => Value.string (bs x)).toArray 9)) (.slice (some ⟨w.heap.size, 0, none⟩) 9 9) W9 := by
  refine ⟨_, _, rfl, ⟨by decide, by omega⟩, fun i hi => ⟨w.heap.size, 0, rfl, by simp, ?_⟩⟩
  rw [Nat.zero_add, World.cell?_alloc_at (w := w) _ _ w.heap.size i rfl]
  have hi9 : i < W9.length := hi
  rw [nth_eq [] W9 i hi9]
  simp [hi9]
theorem w9_len : ∀ x, x ∈ W9 → x.length ≤ 100 := by decide
theorem w6_len : ∀ x, x ∈ ([[32], [10], [48], [114], [65], [61]] : List (List UInt8)) → x.length ≤ 100 := by decide

set_option maxHeartbeats 4000000 in
theorem drawProgRead_any (a : Option Addr) (n cap : Nat) (w : World) (h : Bytes w a n) (hc : n ≤ cap) (hn : cap ≤ 9223372036854775807) :
    Calls Tryz.prog 11 #[.slice a n cap] w fun e w' => ∃ S : ByteArray, e = .returned (.string S) ∧ S.size ≤ 2000 ∧ Below w.heap.size w w' := by
  have HBy := (show Hid (Bytes _ _ _) from h)
  clear h
  go_enter Tryz.func11, Tryz.ntmps11
  go_wp2_with fail
  refine (l6Open_any a n cap _ HBy.out hc hn).mono ?_
  rintro e w1 ⟨rfl, hR1, hb1⟩
  have HF1 : Hid (Fr w.heap.size w.heap.size w w1) := Fr.of_below hb1
  clear hb1 HBy
  go_wp2_with fail
  refine (l71Prog_any (w.heap.size + 1) w.heap.size 0 _ hR1 (by omega)).mono ?_
  rintro e w2 ⟨pr, cv, bv, p2, rfl, hO, hBs, hok, _, hp2, hp2', hR2, hF2⟩
  have HF2 : Hid (Fr w.heap.size w.heap.size w w2) := HF1.out.trans (hF2.mono HF1.out.size)
  have HO := (show Hid (IntsAt _ _ _) from hO.at)
  have HB := (show Hid (BodiesAt _ _ _) from hBs.at)
  have hR2l := hR2.le
  have HR2 := (show Hid (RdAt _ _ _ _) from hR2)
  obtain ⟨ac, kc, rfl, _⟩ := hO.at.shape
  obtain ⟨ab, kb, rfl, _⟩ := hBs.at.shape
  have hl6 := prT_600S hok
  obtain ⟨A, hA⟩ : ∃ A, A = bs (txT pr) := ⟨_, rfl⟩
  have hAs : A.size ≤ 600 := by rw [hA, bs_size, txT_ok hok]; exact hl6
  have hA2 : A.toList ≠ [] := by rw [hA, bs_lst, txT_ok hok]; exact prT_ne pr
  have hA1 : (A.toList == []) = false := by simp [hA2]
  have hA0 : 1 ≤ A.size := by
    rw [hA, bs_size, txT_ok hok]
    exact List.length_pos_iff.2 (prT_ne pr)
  have HA := (show Hid (A = _) from hA)
  clear hA hF2 hR1 HF1 hO hBs hR2 hok hl6
  go_wp2_with fail
  refine (sProgText_any pr _ _ _ HO.out HB.out).mono ?_
  rintro e w3 ⟨rfl, hb3⟩
  rw [← HA.out]
  have HF3 : Hid (Fr w.heap.size w.heap.size w w3) := HF2.out.trans (Fr.of_below (hb3.mono HF2.out.size))
  have hR3 : RdAt (w.heap.size + 1) w3 w.heap.size p2 := HR2.out.below (hb3.mono hR2l)
  clear hb3 HF2 HR2 HO HB HA
  go_wp2_with fail
  refine (pick_any (w.heap.size + 1) w.heap.size p2 _ _ hR3 (by omega) (by omega) (by omega)).mono ?_
  rintro e w4 ⟨q4, rfl, a0, a1, hR4, hF4⟩
  have HF4 : Hid (Fr w.heap.size w.heap.size w w4) := HF3.out.trans (hF4.mono HF3.out.size)
  clear hF4 hR3 HF3
  by_cases hq : q4 = 0
  · subst hq
    go_wp2_with fail
    go_ret
    exact ⟨A, rfl, by omega, HF4.out.below (Nat.le_refl _)⟩
  have gq : (q4 == 0) = false := by simp [hq]
  go_wp2_with fail
  refine (pick_any (w.heap.size + 1) w.heap.size (p2 + 1) _ _ hR4 (by omega) (by omega) (by omega)).mono ?_
  rintro e w5 ⟨q5, rfl, b0, b1, hR5, hF5⟩
  obtain ⟨i, rfl⟩ := Int.eq_ofNat_of_zero_le b0
  have hi : i < A.size := by omega
  have HF5 : Hid (Fr w.heap.size w.heap.size w w5) := HF4.out.trans (hF5.mono HF4.out.size)
  clear hF5 hR4 HF4
  go_wp2_with fail
  refine (pick_any (w.heap.size + 1) w.heap.size (p2 + 1 + 1) _ _ hR5 (by omega) (by omega) (by omega)).mono ?_
  rintro e w6 ⟨q6, rfl, c0, c1, hR6, hF6⟩
  have HF6 : Hid (Fr w.heap.size w.heap.size w w6) := HF5.out.trans (hF6.mono HF5.out.size)
  have HR6 := (show Hid (RdAt _ _ _ _) from hR6)
  have hs6 := HF6.out.size
  have hR6lt := hR6.lt
  have hR6le := hR6.le
  clear hF6 hR5 HF5 hR6
  have e1 : (A.extract 0 i).size ≤ 600 := by simp; omega
  have e2 : (A.extract (i + 1) A.size).size ≤ 600 := by simp; omega
  have e3 : (A.extract i A.size).size ≤ 600 := by simp; omega
  have hi' : (i : Int) ≤ (A.size : Int) := by omega
  have hi2 : (i : Int) + 1 ≤ (A.size : Int) := by omega
  have hq6 : q6 = 0 ∨ q6 = 1 ∨ q6 = 2 ∨ q6 = 3 := by omega
  rcases hq6 with rfl | rfl | rfl | rfl
  · have n1 : ¬ (9223372036854775807 < (A.extract 0 i).size + (A.extract (i + 1) A.size).size) := by omega
    go_wp2_with fail
    go_quiet (fail)
    go_wp2_with fail
    go_ret
    exact ⟨_, rfl, by first | (rw [ByteArray.size_append]; omega) | (simp; omega), below_drewN (HF6.out.below (Nat.le_refl _)) _⟩
  · go_wp2_with fail
    go_region_with (go_at_call 29; refine (of_any (w.heap.size + 1) w.heap.size (p2 + 1 + 1 + 1) w6.heap.size [[32], [10], [48], [114], [65], [61]] _ (by exact HR6.out.below (((Below.refl _ _).alloc hR6le _).drew)) (by omega) (by exact strs6 w6) (by simp) (by omega) (by simp) (by simp)).mono ?_; rintro e w7 ⟨x, hxm, rfl, hR7, hF7⟩; have hxl := w6_len x hxm; obtain ⟨X, hX⟩ : ∃ X, X = bs x := ⟨_, rfl⟩; rw [← hX]; have hXs : X.size ≤ 100 := (by rw [hX, bs_size]; exact hxl); have n1 : ¬ (9223372036854775807 < (A.extract 0 i).size + X.size) := (by omega); have n2 : ¬ (9223372036854775807 < (A.extract 0 i ++ X).size + (A.extract i A.size).size) := (by rw [ByteArray.size_append]; omega); have HF7 : Hid (Below w.heap.size w w7) := (by have h1 := HF6.out.below (Nat.le_refl _); exact ((h1.alloc hs6 _).drew.trans ((hF7.mono (by simp; omega)).below (Nat.le_refl _)))); clear hX hxm hxl hR7 hF7)
    all_goals
      go_wp2_with fail
      go_ret
      exact ⟨_, rfl, by first | (rw [ByteArray.size_append, ByteArray.size_append]; omega) | (simp; omega), HF7.out⟩
  · go_wp2_with fail
    refine (of_any (w.heap.size + 1) w.heap.size (p2 + 1 + 1 + 1) w6.heap.size W9 _ (by exact HR6.out.below ((Below.refl _ _).alloc hR6le _)) (by omega) (by exact strs9 w6) (by simp) (by omega) (by decide) (by decide)).mono ?_
    rintro e w7 ⟨x, hxm, rfl, hR7, hF7⟩
    have hxl := w9_len x hxm
    have HF7 : Hid (Below w.heap.size w w7) := by
      have h1 := HF6.out.below (Nat.le_refl _)
      exact (h1.alloc hs6 _).trans ((hF7.mono (by simp; omega)).below (Nat.le_refl _))
    clear hR7 hF7
    go_wp2_with fail
    go_ret
    exact ⟨_, rfl, by rw [bs_size]; omega, HF7.out⟩
  · go_wp2_with fail
    go_ret
    exact ⟨_, rfl, by omega, HF6.out.below (Nat.le_refl _)⟩

end Go.Proofs.YtliakmgombpjpaaGreatDoor
