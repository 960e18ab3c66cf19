/-
  The model reads a number, a deed.
-/
import Derived.Test.YtliakmgombpjpaaGreatDoorU2
namespace Go.Proofs.YtliakmgombpjpaaGreatDoor
open Go.RowKit
set_option linter.unusedSimpArgs false
set_option linter.unusedVariables false

theorem bt_get (s : ByteArray) (i : Nat) (h : i < s.size) : bt s.data.toList i = ((s[i]'h).toNat : Int) := by
  unfold bt
  have h2 : i < s.data.toList.length := by simp; exact h
  have e : s.data.toList.getD i 0 = s.data.toList[i] := by rw [List.getD_eq_getElem?_getD, List.getElem?_eq_getElem h2]; rfl
  rw [e]
  simp; rfl
theorem drop_get (s : ByteArray) (k : Nat) (h : k < s.size) : s.data.toList.drop k = (s[k]'h) :: s.data.toList.drop (k + 1) := by
  have h2 : k < s.data.toList.length := by simp; exact h
  rw [List.drop_eq_getElem_cons h2]
  simp; rfl
theorem nuS_bd : ∀ (l : List UInt8) (n : Int), 0 ≤ n → n ≤ 100009 → 0 ≤ nuS n l ∧ nuS n l ≤ 100009
  | [], n, h0, h1 => ⟨h0, h1⟩
  | c :: cs, n, h0, h1 => by
    unfold nuS
    split
    · split
      · exact nuS_bd cs _ (by omega) (by omega)
      · exact nuS_bd cs _ h0 h1
    · exact ⟨h0, h1⟩

set_option maxHeartbeats 1000000 in
theorem l1Num_any (s : ByteArray) (w : World) (hs : s.size ≤ 1048576) :
    Calls Tryz.prog 31 #[.string s] w fun e w' => e = .returned (.int .i64 (nuS 0 s.data.toList)) ∧ w' = w := by
  go_enter Tryz.func31, Tryz.ntmps31
  go_wp2_with fail
  go_loop [3, 4] (fun n i => ∃ (k : Nat) (m : Int), k ≤ s.size ∧ i = .int .i64 k ∧ n = .int .i64 m ∧ 0 ≤ m ∧ m ≤ 100009 ∧ Hid (nuS 0 s.data.toList = nuS m (s.data.toList.drop k))) (fun _ i => s.size - (intOf i).toNat)
  case atStart => exact ⟨0, 0, Nat.zero_le _, rfl, rfl, by omega, by omega, by rw [Hid]; simp⟩
  case round =>
    obtain ⟨k, m, hk, rfl, rfl, h0, h1, HE⟩ := hrel
    by_cases hlt : k < s.size
    · have hlt' : decide ((k : Int) < (s.size : Int)) = true := by simp; omega
      have hlt2 : (k : Int) < (s.size : Int) := by omega
      by_cases hm : m < 10000
      · have HD := drop_get s k hlt
        by_cases hd : 48 ≤ ((s[k]'hlt).toNat : Int) ∧ ((s[k]'hlt).toNat : Int) ≤ 57
        · obtain ⟨d1, d2⟩ := hd
          have d1' : decide (48 ≤ ((s[k]'hlt).toNat : Int)) = true := by simpa using d1
          have HE2 : Hid (nuS 0 s.data.toList = nuS (m * 10 + (((s[k]'hlt).toNat : Int) - 48)) (s.data.toList.drop (k + 1))) := by
            rw [Hid, HE.out, HD]
            conv => lhs; unfold nuS
            rw [if_pos hm, if_pos ⟨d1, d2⟩]
          clear HE HD
          go_wp2_with fail
          go_round
          case rel => exact ⟨k + 1, m * 10 + (((s[k]'hlt).toNat : Int) - 48), by omega, by go_num, by go_num, by omega, by omega, HE2⟩
          case measure => simp [intOf]; omega
        · have HE2 : Hid (nuS 0 s.data.toList = nuS m (s.data.toList.drop (k + 1))) := by
            rw [Hid, HE.out, HD]
            conv => lhs; unfold nuS
            rw [if_pos hm, if_neg hd]
          clear HE HD
          by_cases d1 : 48 ≤ ((s[k]'hlt).toNat : Int)
          · have d1' : decide (48 ≤ ((s[k]'hlt).toNat : Int)) = true := by simpa using d1
            have d2 : ¬ ((s[k]'hlt).toNat : Int) ≤ 57 := fun h => hd ⟨d1, h⟩
            clear hd
            go_wp2_with fail
            go_round
            case rel => exact ⟨k + 1, m, by omega, by go_num, rfl, h0, h1, HE2⟩
            case measure => simp [intOf]; omega
          · have d1' : decide (48 ≤ ((s[k]'hlt).toNat : Int)) = false := by simpa using d1
            clear hd
            go_wp2_with fail
            go_round
            case rel => exact ⟨k + 1, m, by omega, by go_num, rfl, h0, h1, HE2⟩
            case measure => simp [intOf]; omega
      · have HF : Hid (nuS 0 s.data.toList = m) := by
          rw [Hid, HE.out, drop_get s k hlt]
          conv => lhs; unfold nuS
          rw [if_neg hm]
        clear HE
        go_wp2_with fail
        go_ret
        exact ⟨by rw [HF.out]; rfl, rfl⟩
    · have hlt' : decide ((k : Int) < (s.size : Int)) = false := by simp; omega
      have HF : Hid (nuS 0 s.data.toList = m) := by
        rw [Hid, HE.out, List.drop_eq_nil_of_le (by simp; omega)]
        rfl
      clear HE
      go_wp2_with fail
      go_ret
      exact ⟨by rw [HF.out]; rfl, rfl⟩

theorem deS_eq (s : ByteArray) : s.data.toList.length = s.size := by simp

set_option maxHeartbeats 4000000 in
set_option maxRecDepth 20000 in
theorem l1HearDeed_any (s : ByteArray) (w : World) (hs : s.size ≤ 1048576) :
    Calls Tryz.prog 53 #[.string s] w fun e w' => e = .returned (.agg #[.int .i64 (deS s.data.toList).k, .int .i64 (deS s.data.toList).a, .int .i64 (deS s.data.toList).b]) ∧ Below w.heap.size w w' := by
  have hsl := deS_eq s
  by_cases h3 : s.size < 3
  · by_cases h2 : s.size = 2
    · have p0 : 0 < s.size := by omega
      have p1 : 1 < s.size := by omega
      have i0 : (0 : Int) < (s.size : Int) := by omega
      have i1 : (1 : Int) < (s.size : Int) := by omega
      have e2 : ((s.size : Int) == 2) = true := by simp; omega
      have hx0 : (s[0]'p0).toNat < 256 := (s[0]'p0).toNat_lt
      have e3 : ((s.size : Int) == 3) = false := by simp; omega
      have h3' : (s.size : Int) < 3 := by omega
      by_cases hq : bt s.data.toList 1 = 63
      · have HD : Hid (deS s.data.toList = ⟨5, ((s[0]'p0).toNat : Int) - 114, 0⟩) := by
          rw [Hid, ← bt_get s 0 p0]; unfold deS; rw [if_pos ⟨by omega, hq⟩]
        have hq' : (((s[1]'p1).toNat : Int) == 63) = true := by rw [← bt_get s 1 p1, hq]; rfl
        rw [HD.out]
        dsimp only
        clear hq hsl
        go_enter Tryz.func53, Tryz.ntmps53
        go_wp2_with fail
        exact bodyPost_ret (v := .agg #[.int .i64 5, .int .i64 (((s[0]'p0).toNat : Int) - 114), .int .i64 0]) (by simp [results, Tryz.results53, go_sem]) rfl ⟨rfl, (by repeat (first | exact Below.refl _ _ | refine Below.alloc ?_ (by simp; try omega) _ | refine Below.drew ?_ | refine Below.setCell ?_ (by simp; try omega) _))⟩
      · have HD : Hid (deS s.data.toList = ⟨0, 0, 0⟩) := by
          rw [Hid]; unfold deS; rw [if_neg (fun h => hq h.2), if_neg (fun h => by omega), if_pos (by omega)]
        have hq' : (((s[1]'p1).toNat : Int) == 63) = false := by rw [← bt_get s 1 p1]; simpa using hq
        rw [HD.out]
        dsimp only
        clear hq hsl
        go_enter Tryz.func53, Tryz.ntmps53
        go_wp2_with fail
        exact bodyPost_ret (v := .agg #[.int .i64 0, .int .i64 0, .int .i64 0]) (by simp [results, Tryz.results53, go_sem]) rfl ⟨rfl, (by repeat (first | exact Below.refl _ _ | refine Below.alloc ?_ (by simp; try omega) _ | refine Below.drew ?_ | refine Below.setCell ?_ (by simp; try omega) _))⟩
    · have e2 : ((s.size : Int) == 2) = false := by simp; omega
      have e3 : ((s.size : Int) == 3) = false := by simp; omega
      have h3' : (s.size : Int) < 3 := by omega
      have HD : Hid (deS s.data.toList = ⟨0, 0, 0⟩) := by
        rw [Hid]; unfold deS; rw [if_neg (fun h => by omega), if_neg (fun h => by omega), if_pos (by omega)]
      rw [HD.out]
      dsimp only
      clear hsl
      go_enter Tryz.func53, Tryz.ntmps53
      go_wp2_with fail
      exact bodyPost_ret (v := .agg #[.int .i64 0, .int .i64 0, .int .i64 0]) (by simp [results, Tryz.results53, go_sem]) rfl ⟨rfl, (by repeat (first | exact Below.refl _ _ | refine Below.alloc ?_ (by simp; try omega) _ | refine Below.drew ?_ | refine Below.setCell ?_ (by simp; try omega) _))⟩
  · have p0 : 0 < s.size := by omega
    have p1 : 1 < s.size := by omega
    have p2 : 2 < s.size := by omega
    have i0 : (0 : Int) < (s.size : Int) := by omega
    have i1 : (1 : Int) < (s.size : Int) := by omega
    have i2 : (2 : Int) < (s.size : Int) := by omega
    have i2' : (2 : Int) ≤ (s.size : Int) := by omega
    have e2 : ((s.size : Int) == 2) = false := by simp; omega
    have h3' : ¬ (s.size : Int) < 3 := by omega
    have b0 := bt_get s 0 p0
    have b1 := bt_get s 1 p1
    have b2 := bt_get s 2 p2
    have hx0 : (s[0]'p0).toNat < 256 := (s[0]'p0).toNat_lt
    have hx2 : (s[2]'p2).toNat < 256 := (s[2]'p2).toNat_lt
    have z0 : IntKind.i64.wrap ((s[0]'p0).toNat : Int) = ((s[0]'p0).toNat : Int) := by rw [IntKind.wrap_i64]; omega
    have z1 : IntKind.i64.wrap (((s[0]'p0).toNat : Int) - 114) = ((s[0]'p0).toNat : Int) - 114 := by rw [IntKind.wrap_i64]; omega
    by_cases hp : s.size = 3 ∧ bt s.data.toList 1 = 43
    · have HD : Hid (deS s.data.toList = ⟨4, ((s[0]'p0).toNat : Int) - 114, ((s[2]'p2).toNat : Int) - 114⟩) := by
        rw [Hid, ← b0, ← b2]; unfold deS; rw [if_neg (fun h => by omega), if_pos ⟨by omega, hp.2⟩]
      have e3 : ((s.size : Int) == 3) = true := by simp; omega
      have hq' : (((s[1]'p1).toNat : Int) == 43) = true := by rw [← b1, hp.2]; rfl
      rw [HD.out]
      dsimp only
      clear hp hsl b0 b1 b2
      go_enter Tryz.func53, Tryz.ntmps53
      go_wp2_with fail
      go_region
      all_goals
        go_wp2_with fail
        exact bodyPost_ret (v := .agg #[.int .i64 4, .int .i64 (((s[0]'p0).toNat : Int) - 114), .int .i64 (((s[2]'p2).toNat : Int) - 114)]) (by simp [results, Tryz.results53, go_sem]) rfl ⟨rfl, (by repeat (first | exact Below.refl _ _ | refine Below.alloc ?_ (by simp; try omega) _ | refine Below.drew ?_ | refine Below.setCell ?_ (by simp; try omega) _))⟩
    · have hn4 : ¬ (s.data.toList.length = 3 ∧ bt s.data.toList 1 = 43) := fun h => hp ⟨by omega, h.2⟩
      have key : ∀ (P : Prop), (((s.size : Int) == 3) = false → P) → (((s.size : Int) == 3) = true → (((s[1]'p1).toNat : Int) == 43) = false → P) → P := fun P f g => by
        by_cases h : s.size = 3
        · refine g (by simp; omega) ?_
          rw [← b1]
          have : ¬ bt s.data.toList 1 = 43 := fun e => hp ⟨h, e⟩
          simpa using this
        · exact f (by simp; omega)
      have KEY := (show Hid (∀ P : Prop, _) from key)
      clear key hp
      by_cases hz : bt s.data.toList 0 ≤ 90
      · have HD : Hid (deS s.data.toList = ⟨2, ((s[0]'p0).toNat : Int) - 65, ((s[2]'p2).toNat : Int) - 114⟩) := by
          rw [Hid, ← b0, ← b2]; unfold deS; rw [if_neg (fun h => by omega), if_neg hn4, if_neg (by omega), if_pos hz]
        have hz' : ((s[0]'p0).toNat : Int) ≤ 90 := by rw [← b0]; exact hz
        rw [HD.out]
        dsimp only
        clear hz hsl b0 b1 b2 hn4
        apply KEY.out
        · intro e3
          clear KEY
          go_enter Tryz.func53, Tryz.ntmps53
          go_wp2_with fail
          go_region
          all_goals
            go_wp2_with fail
            exact bodyPost_ret (v := .agg #[.int .i64 2, .int .i64 (((s[0]'p0).toNat : Int) - 65), .int .i64 (((s[2]'p2).toNat : Int) - 114)]) (by simp [results, Tryz.results53, go_sem]) rfl ⟨rfl, (by repeat (first | exact Below.refl _ _ | refine Below.alloc ?_ (by simp; try omega) _ | refine Below.drew ?_ | refine Below.setCell ?_ (by simp; try omega) _))⟩
        · intro e3 hq'
          clear KEY
          go_enter Tryz.func53, Tryz.ntmps53
          go_wp2_with fail
          go_region
          all_goals
            go_wp2_with fail
            exact bodyPost_ret (v := .agg #[.int .i64 2, .int .i64 (((s[0]'p0).toNat : Int) - 65), .int .i64 (((s[2]'p2).toNat : Int) - 114)]) (by simp [results, Tryz.results53, go_sem]) rfl ⟨rfl, (by repeat (first | exact Below.refl _ _ | refine Below.alloc ?_ (by simp; try omega) _ | refine Below.drew ?_ | refine Below.setCell ?_ (by simp; try omega) _))⟩
      · have hz' : ¬ ((s[0]'p0).toNat : Int) ≤ 90 := by rw [← b0]; exact hz
        by_cases hl : 65 ≤ bt s.data.toList 2 ∧ bt s.data.toList 2 ≤ 90
        · have HD : Hid (deS s.data.toList = ⟨1, ((s[0]'p0).toNat : Int) - 114, ((s[2]'p2).toNat : Int) - 65⟩) := by
            rw [Hid, ← b0, ← b2]; unfold deS; rw [if_neg (fun h => by omega), if_neg hn4, if_neg (by omega), if_neg hz, if_pos hl]
          have l1 : decide (65 ≤ ((s[2]'p2).toNat : Int)) = true := by rw [← b2]; simpa using hl.1
          have l2 : ((s[2]'p2).toNat : Int) ≤ 90 := by rw [← b2]; exact hl.2
          have l3 : 65 ≤ ((s[2]'p2).toNat : Int) := by rw [← b2]; exact hl.1
          rw [HD.out]
          dsimp only
          clear hz hl hsl b0 b1 b2 hn4
          apply KEY.out
          · intro e3
            clear KEY
            go_enter Tryz.func53, Tryz.ntmps53
            go_wp2_with fail
            go_region
            all_goals
              go_wp2_with fail
              exact bodyPost_ret (v := .agg #[.int .i64 1, .int .i64 (((s[0]'p0).toNat : Int) - 114), .int .i64 (((s[2]'p2).toNat : Int) - 65)]) (by simp [results, Tryz.results53, go_sem]) rfl ⟨rfl, (by repeat (first | exact Below.refl _ _ | refine Below.alloc ?_ (by simp; try omega) _ | refine Below.drew ?_ | refine Below.setCell ?_ (by simp; try omega) _))⟩
          · intro e3 hq'
            clear KEY
            go_enter Tryz.func53, Tryz.ntmps53
            go_wp2_with fail
            go_region
            all_goals
              go_wp2_with fail
              exact bodyPost_ret (v := .agg #[.int .i64 1, .int .i64 (((s[0]'p0).toNat : Int) - 114), .int .i64 (((s[2]'p2).toNat : Int) - 65)]) (by simp [results, Tryz.results53, go_sem]) rfl ⟨rfl, (by repeat (first | exact Below.refl _ _ | refine Below.alloc ?_ (by simp; try omega) _ | refine Below.drew ?_ | refine Below.setCell ?_ (by simp; try omega) _))⟩
        · have HD : Hid (deS s.data.toList = ⟨3, ((s[0]'p0).toNat : Int) - 114, nuS 0 (s.extract 2 s.size).data.toList⟩) := by
            have ex : (s.extract 2 s.size).data.toList = s.data.toList.drop 2 := by
              have := ex_bs s 2 s.size
              rw [show s.data.toList.take s.size = s.data.toList by rw [← hsl, List.take_length]] at this
              rw [this, bs_data]
            rw [Hid, ex, ← b0]; unfold deS; rw [if_neg (fun h => by omega), if_neg hn4, if_neg (by omega), if_neg hz, if_neg hl]
          have hes : (s.extract 2 s.size).size ≤ 1048576 := by simp; omega
          obtain ⟨m0, m1⟩ := nuS_bd (s.extract 2 s.size).data.toList 0 (by omega) (by omega)
          have key2 : ∀ (P : Prop), (decide (65 ≤ ((s[2]'p2).toNat : Int)) = false → P) → (decide (65 ≤ ((s[2]'p2).toNat : Int)) = true → ¬ ((s[2]'p2).toNat : Int) ≤ 90 → P) → P := fun P f g => by
            by_cases h : 65 ≤ ((s[2]'p2).toNat : Int)
            · exact g (by simpa using h) (fun h2 => hl ⟨by rw [b2]; exact h, by rw [b2]; exact h2⟩)
            · exact f (by simpa using h)
          have KEY2 := (show Hid (∀ P : Prop, _) from key2)
          rw [HD.out]
          dsimp only
          clear hz hl hsl b0 b1 b2 hn4 key2
          apply KEY.out
          · intro e3
            clear KEY
            apply KEY2.out
            · intro q1
              have q1' : ¬ 65 ≤ ((s[2]'p2).toNat : Int) := by simpa using q1
              clear KEY2
              go_enter Tryz.func53, Tryz.ntmps53
              go_wp2_with fail
              go_region_with (go_at_call 31; refine (l1Num_any _ _ hes).mono ?_; rintro e w' ⟨rfl, hw⟩; have hw := hw.symm; subst hw)
              all_goals
                go_wp2_with fail
                exact bodyPost_ret (v := .agg #[.int .i64 3, .int .i64 (((s[0]'p0).toNat : Int) - 114), .int .i64 (nuS 0 (s.extract 2 s.size).data.toList)]) (by simp [results, Tryz.results53, go_sem]) rfl ⟨rfl, (by repeat (first | exact Below.refl _ _ | refine Below.alloc ?_ (by simp; try omega) _ | refine Below.drew ?_ | refine Below.setCell ?_ (by simp; try omega) _))⟩
            · intro q1 q2
              have q1' : 65 ≤ ((s[2]'p2).toNat : Int) := by simpa using q1
              clear KEY2
              go_enter Tryz.func53, Tryz.ntmps53
              go_wp2_with fail
              go_region_with (go_at_call 31; refine (l1Num_any _ _ hes).mono ?_; rintro e w' ⟨rfl, hw⟩; have hw := hw.symm; subst hw)
              all_goals
                go_wp2_with fail
                exact bodyPost_ret (v := .agg #[.int .i64 3, .int .i64 (((s[0]'p0).toNat : Int) - 114), .int .i64 (nuS 0 (s.extract 2 s.size).data.toList)]) (by simp [results, Tryz.results53, go_sem]) rfl ⟨rfl, (by repeat (first | exact Below.refl _ _ | refine Below.alloc ?_ (by simp; try omega) _ | refine Below.drew ?_ | refine Below.setCell ?_ (by simp; try omega) _))⟩
          · intro e3 hq'
            clear KEY
            apply KEY2.out
            · intro q1
              have q1' : ¬ 65 ≤ ((s[2]'p2).toNat : Int) := by simpa using q1
              clear KEY2
              go_enter Tryz.func53, Tryz.ntmps53
              go_wp2_with fail
              go_region_with (go_at_call 31; refine (l1Num_any _ _ hes).mono ?_; rintro e w' ⟨rfl, hw⟩; have hw := hw.symm; subst hw)
              all_goals
                go_wp2_with fail
                exact bodyPost_ret (v := .agg #[.int .i64 3, .int .i64 (((s[0]'p0).toNat : Int) - 114), .int .i64 (nuS 0 (s.extract 2 s.size).data.toList)]) (by simp [results, Tryz.results53, go_sem]) rfl ⟨rfl, (by repeat (first | exact Below.refl _ _ | refine Below.alloc ?_ (by simp; try omega) _ | refine Below.drew ?_ | refine Below.setCell ?_ (by simp; try omega) _))⟩
            · intro q1 q2
              have q1' : 65 ≤ ((s[2]'p2).toNat : Int) := by simpa using q1
              clear KEY2
              go_enter Tryz.func53, Tryz.ntmps53
              go_wp2_with fail
              go_region_with (go_at_call 31; refine (l1Num_any _ _ hes).mono ?_; rintro e w' ⟨rfl, hw⟩; have hw := hw.symm; subst hw)
              all_goals
                go_wp2_with fail
                exact bodyPost_ret (v := .agg #[.int .i64 3, .int .i64 (((s[0]'p0).toNat : Int) - 114), .int .i64 (nuS 0 (s.extract 2 s.size).data.toList)]) (by simp [results, Tryz.results53, go_sem]) rfl ⟨rfl, (by repeat (first | exact Below.refl _ _ | refine Below.alloc ?_ (by simp; try omega) _ | refine Below.drew ?_ | refine Below.setCell ?_ (by simp; try omega) _))⟩

end Go.Proofs.YtliakmgombpjpaaGreatDoor
