import Derived.Test.YtliakmgombpjpaaGreatDoorJ3
import Derived.WalkKit
import Derived.Test.YtliakmgombpjpaaGreatDoorS0
namespace Go.Proofs.YtliakmgombpjpaaGreatDoor
open Go.RowKit
set_option linter.unusedSimpArgs false
set_option linter.unusedVariables false

theorem conv_at (w : World) (b : Nat) (u : Int) (h : w.cell? ⟨b, 0, none⟩ = some (.int .u8 u)) : (convert 22 9 (.slice (some ⟨b, 0, none⟩) 1 1)).run Tryz.prog w = .ok (.string (bs [by8 u])) w := by
  rw [run_convert_bytes_string w 22 9 5 _ 1 1 Tryz.underlying22 Tryz.underlying5 Tryz.underlying9]
  rw [run_bytesToString w ⟨b, 0, none⟩ 1 1 [u] ?_]
  · rfl
  · exact run_loadCells_list (P := Tryz.prog) w ⟨b, 0, none⟩ [.int .u8 u] (fun j v hj => by
      rcases j with _ | j
      · simp at hj; subst hj; rw [Go.WideShapes.add_plain]; exact h
      · simp at hj)
@[go_sem] theorem conv_new (w : World) (u : Int) : (convert 22 9 (.slice (some ⟨w.heap.size, 0, none⟩) 1 1)).run Tryz.prog (w.alloc (.cells #[.int .u8 u] 5)) = .ok (.string (bs [by8 u])) (w.alloc (.cells #[.int .u8 u] 5)) :=
  conv_at _ _ u (by simp [go_sem])
@[go_sem] theorem conv_new1 (w : World) (o : Obj) (u : Int) : (convert 22 9 (.slice (some ⟨w.heap.size + 1, 0, none⟩) 1 1)).run Tryz.prog ((w.alloc o).alloc (.cells #[.int .u8 u] 5)) = .ok (.string (bs [by8 u])) ((w.alloc o).alloc (.cells #[.int .u8 u] 5)) :=
  conv_at _ _ u (by simp [go_sem])
@[go_sem] theorem conv_new2 (w : World) (o o' : Obj) (u : Int) : (convert 22 9 (.slice (some ⟨w.heap.size + 1 + 1, 0, none⟩) 1 1)).run Tryz.prog (((w.alloc o).alloc o').alloc (.cells #[.int .u8 u] 5)) = .ok (.string (bs [by8 u])) (((w.alloc o).alloc o').alloc (.cells #[.int .u8 u] 5)) :=
  conv_at _ _ u (by simp [go_sem])

@[go_sem] theorem conv_new3 (w : World) (o o' o2 : Obj) (u : Int) : (convert 22 9 (.slice (some ⟨w.heap.size + 1 + 1 + 1, 0, none⟩) 1 1)).run Tryz.prog ((((w.alloc o).alloc o').alloc o2).alloc (.cells #[.int .u8 u] 5)) = .ok (.string (bs [by8 u])) ((((w.alloc o).alloc o').alloc o2).alloc (.cells #[.int .u8 u] 5)) :=
  conv_at _ _ u (by simp [go_sem])
@[go_sem] theorem conv_newd (w : World) (u : Int) : (convert 22 9 (.slice (some ⟨w.heap.size, 0, none⟩) 1 1)).run Tryz.prog (w.alloc (.cells #[.int .u8 u] 5)).drew = .ok (.string (bs [by8 u])) (w.alloc (.cells #[.int .u8 u] 5)).drew :=
  conv_at _ _ u (by simp [go_sem])
theorem ret_str' {a b : ByteArray} (h : a = b) : Ending.returned (Value.string a) = .returned (.string b) := by rw [h]
@[go_sem] theorem bs_size'' (l : List UInt8) : (bs l).size = l.length := bs_size l

set_option maxHeartbeats 1000000 in
set_option maxRecDepth 20000 in
theorem l6Dec_one (n : Nat) (h1 : n < 10) (w : World) :
    Calls Tryz.prog 22 #[.int .i64 (n : Int)] w fun e w' => e = .returned (.string (bs (decT n))) ∧ Below w.heap.size w w' := by
  have h' : (n : Int) < 10 := by omega
  have h2 : ¬ (n : Int) < -9223372036854775807 := by omega
  go_enter Tryz.func22, Tryz.ntmps22
  go_wp2_with fail
  go_ret
  exact ⟨ret_str' (by unfold decT; rw [if_pos h']), (by repeat (first | exact Below.refl _ _ | refine Below.alloc ?_ (by simp; try omega) _ | refine Below.drew ?_ | refine Below.setCell ?_ (by simp; try omega) _))⟩

set_option maxHeartbeats 1000000 in
set_option maxRecDepth 20000 in
theorem l6Dec_any (n : Nat) (h1 : n < 100) (w : World) :
    Calls Tryz.prog 22 #[.int .i64 (n : Int)] w fun e w' => e = .returned (.string (bs (decT n))) ∧ Below w.heap.size w w' := by
  by_cases h10 : n < 10
  · exact l6Dec_one n h10 w
  have h' : ¬ (n : Int) < 10 := by omega
  have h2 : ¬ (n : Int) < -9223372036854775807 := by omega
  have h3 : ¬ (n : Int) < 0 := by omega
  obtain ⟨m, hm⟩ : ∃ m : Nat, (n : Int).tdiv 10 = (m : Int) := ⟨n / 10, rfl⟩
  obtain ⟨r, hr⟩ : ∃ r : Nat, (n : Int).tmod 10 = (r : Int) := ⟨n % 10, rfl⟩
  have hm1 : m < 10 := by have : ((n / 10 : Nat) : Int) = (m : Int) := hm; omega
  have hr1 : r < 10 := by have : ((n % 10 : Nat) : Int) = (r : Int) := hr; omega
  have HE : Hid (decT n = decT m ++ [by8 (48 + (r : Int))]) := by
    have e1 : ((n / 10 : Nat) : Int) = (m : Int) := hm
    have e2 : ((n % 10 : Nat) : Int) = (r : Int) := hr
    unfold decT
    rw [if_neg h', if_pos (by omega), show (n : Int) / 10 = (m : Int) by omega, show (n : Int) % 10 = (r : Int) by omega]
    exact (rfl : _ = _)
  obtain ⟨D, hD⟩ : ∃ D, D = bs (decT (m : Int)) := ⟨_, rfl⟩
  have hDs : D.size ≤ 2 := by rw [hD, bs_size]; exact decT_len _
  have HD := (show Hid (D = _) from hD)
  have a1 : ¬ (9223372036854775807 < D.size + 1) := by omega
  have hw1 : IntKind.i64.wrap (m : Int) = m := by rw [IntKind.wrap_i64]; omega
  have hw2 : IntKind.i64.wrap (48 + (r : Int)) = 48 + r := by rw [IntKind.wrap_i64]; omega
  have hw3 : IntKind.u8.wrap (48 + (r : Int)) = 48 + r := by rw [IntKind.wrap_u8]; omega
  have hw4 : IntKind.i64.wrap (r : Int) = r := by rw [IntKind.wrap_i64]; omega
  clear hD
  go_enter Tryz.func22, Tryz.ntmps22
  go_wp2_with fail
  refine wp_region_noPanic ?_
  refine till_begin (S := fun _ => True) (z := 10) (by kernel_rfl) ?_
  refine till_take (i := 0) (v := (.int .i64 (n : Int))) rfl (by kernel_rfl) (fun _ _ _ h => h) (by kernel_rfl) ?_ trivial ?_
  · (intro w hSw; go_simp)
  (try simp only [Act.put, List.setIfInBounds_toArray, List.set_cons_zero, List.set_cons_succ])
  refine till_take (i := 1) (v := (.int .i64 (m : Int))) rfl (by kernel_rfl) (fun _ _ _ h => h) (by kernel_rfl) ?_ trivial ?_
  · (intro w hSw; go_simp)
  (try simp only [Act.put, List.setIfInBounds_toArray, List.set_cons_zero, List.set_cons_succ])
  refine till_take (i := 3) (v := (.int .i64 (n : Int))) rfl (by kernel_rfl) (fun _ _ _ h => h) (by kernel_rfl) ?_ trivial ?_
  · (intro w hSw; go_simp)
  (try simp only [Act.put, List.setIfInBounds_toArray, List.set_cons_zero, List.set_cons_succ])
  refine till_take (i := 4) (v := (.int .i64 (r : Int))) rfl (by kernel_rfl) (fun _ _ _ h => h) (by kernel_rfl) ?_ trivial ?_
  · (intro w hSw; go_simp)
  (try simp only [Act.put, List.setIfInBounds_toArray, List.set_cons_zero, List.set_cons_succ])
  refine till_take (i := 5) (v := (.int .i64 (48 + (r : Int)))) rfl (by kernel_rfl) (fun _ _ _ h => h) (by kernel_rfl) ?_ trivial ?_
  · (intro w hSw; go_simp)
  (try simp only [Act.put, List.setIfInBounds_toArray, List.set_cons_zero, List.set_cons_succ])
  refine till_take (i := 6) (v := (.int .u8 (48 + (r : Int)))) rfl (by kernel_rfl) (fun _ _ _ h => h) (by kernel_rfl) ?_ trivial ?_
  · (intro w hSw; go_simp)
  (try simp only [Act.put, List.setIfInBounds_toArray, List.set_cons_zero, List.set_cons_succ])
  refine till_two (i := 2) (j := 7) rfl rfl (by kernel_rfl) (fun K hK => ?_) (fun K hK => ?_)
  · skip
    go_simp
    go_at_call 22
    refine (l6Dec_one m hm1 _).mono ?_
    rintro e w2 ⟨rfl, hb2⟩
    rw [← HD.out]
    have HB : Hid (Below w.heap.size w w2) := below_drewed (Below.refl _ _) (Nat.le_refl _) hb2
    have hs2 := HB.out.size
    clear hb2
    refine hK.out _ _ (fun _ => trivial) ?_
    (try simp only [Act.put, List.setIfInBounds_toArray, List.set_cons_zero, List.set_cons_succ])
    clear hK
    refine till_step (i := 7) rfl (by kernel_rfl) (fun K hK => ?_)
    go_simp
    refine hK.out _ _ (fun _ => trivial) ?_
    (try simp only [Act.put, List.setIfInBounds_toArray, List.set_cons_zero, List.set_cons_succ])
    clear hK
    refine till_step (i := 8) rfl (by kernel_rfl) (fun K hK => ?_)
    go_simp
    refine hK.out _ _ (fun _ => trivial) ?_
    (try simp only [Act.put, List.setIfInBounds_toArray, List.set_cons_zero, List.set_cons_succ])
    clear hK
    refine till_take (i := 9) (v := (.string (D ++ bs [by8 (48 + (r : Int))]))) rfl (by kernel_rfl) (fun _ _ _ h => h) (by kernel_rfl) ?_ trivial ?_
    · (intro w hSw; go_simp)
    (try simp only [Act.put, List.setIfInBounds_toArray, List.set_cons_zero, List.set_cons_succ])
    refine till_step (i := 10) rfl (by kernel_rfl) (fun K hK => ?_)
    go_simp
    refine hK.out _ _ (fun h => absurd rfl h) ?_
    clear hK
    refine till_done (by kernel_rfl) ?_ _
    refine NoPanic.normal ?_
    go_wp2_with fail
    go_ret
    exact ⟨ret_str' (by rw [HE.out, HD.out, bs_app]), HB.out.alloc hs2 _⟩
  · go_simp
    refine hK.out _ _ (fun _ => trivial) ?_
    (try simp only [Act.put, List.setIfInBounds_toArray, List.set_cons_zero, List.set_cons_succ])
    clear hK
    refine till_two (i := 2) (j := 8) rfl rfl (by kernel_rfl) (fun K hK => ?_) (fun K hK => ?_)
    · skip
      go_simp
      go_at_call 22
      refine (l6Dec_one m hm1 _).mono ?_
      rintro e w2 ⟨rfl, hb2⟩
      rw [← HD.out]
      have HB : Hid (Below w.heap.size w w2) := below_drewed ((Below.refl _ _).alloc (Nat.le_refl _) _) (by simp) hb2
      have hs2 := HB.out.size
      have hcv : (convert 22 9 (.slice (some ⟨w.heap.size, 0, none⟩) 1 1)).run Tryz.prog w2 = .ok (.string (bs [by8 (48 + (r : Int))])) w2 := conv_at _ _ _ (by rw [hb2.cell (p := ⟨w.heap.size, 0, none⟩) (by simp)]; simp [go_sem])
      clear hb2
      refine hK.out _ _ (fun _ => trivial) ?_
      (try simp only [Act.put, List.setIfInBounds_toArray, List.set_cons_zero, List.set_cons_succ])
      clear hK
      refine till_step (i := 8) rfl (by kernel_rfl) (fun K hK => ?_)
      go_simp
      refine hK.out _ _ (fun _ => trivial) ?_
      (try simp only [Act.put, List.setIfInBounds_toArray, List.set_cons_zero, List.set_cons_succ])
      clear hK
      refine till_take (i := 9) (v := (.string (D ++ bs [by8 (48 + (r : Int))]))) rfl (by kernel_rfl) (fun _ _ _ h => h) (by kernel_rfl) ?_ trivial ?_
      · (intro w hSw; go_simp)
      (try simp only [Act.put, List.setIfInBounds_toArray, List.set_cons_zero, List.set_cons_succ])
      refine till_step (i := 10) rfl (by kernel_rfl) (fun K hK => ?_)
      go_simp
      refine hK.out _ _ (fun h => absurd rfl h) ?_
      clear hK
      refine till_done (by kernel_rfl) ?_ _
      refine NoPanic.normal ?_
      go_wp2_with fail
      go_ret
      exact ⟨ret_str' (by rw [HE.out, HD.out, bs_app]), HB.out⟩
    · go_simp
      refine hK.out _ _ (fun _ => trivial) ?_
      (try simp only [Act.put, List.setIfInBounds_toArray, List.set_cons_zero, List.set_cons_succ])
      clear hK
      refine till_step (i := 2) rfl (by kernel_rfl) (fun K hK => ?_)
      go_simp
      go_at_call 22
      refine (l6Dec_one m hm1 _).mono ?_
      rintro e w2 ⟨rfl, hb2⟩
      rw [← HD.out]
      have HB : Hid (Below w.heap.size w w2) := below_drewed ((Below.refl _ _).alloc (Nat.le_refl _) _) (by simp) hb2
      have hs2 := HB.out.size
      clear hb2
      refine hK.out _ _ (fun _ => trivial) ?_
      (try simp only [Act.put, List.setIfInBounds_toArray, List.set_cons_zero, List.set_cons_succ])
      clear hK
      refine till_take (i := 9) (v := (.string (D ++ bs [by8 (48 + (r : Int))]))) rfl (by kernel_rfl) (fun _ _ _ h => h) (by kernel_rfl) ?_ trivial ?_
      · (intro w hSw; go_simp)
      (try simp only [Act.put, List.setIfInBounds_toArray, List.set_cons_zero, List.set_cons_succ])
      refine till_step (i := 10) rfl (by kernel_rfl) (fun K hK => ?_)
      go_simp
      refine hK.out _ _ (fun h => absurd rfl h) ?_
      clear hK
      refine till_done (by kernel_rfl) ?_ _
      refine NoPanic.normal ?_
      go_wp2_with fail
      go_ret
      exact ⟨ret_str' (by rw [HE.out, HD.out, bs_app]), HB.out⟩

end Go.Proofs.YtliakmgombpjpaaGreatDoor
