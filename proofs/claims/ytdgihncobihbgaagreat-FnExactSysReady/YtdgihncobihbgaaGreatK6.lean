/-
  Small functions that SysOk asks: the model (by mky.py).
-/
import Derived.Test.YtdgihncobihbgaaGreatK4
import Derived.Test.YtdgihncobihbgaaGreatK2
namespace Go.Proofs.YtdgihncobihbgaaGreat
open Go.RowKit
set_option linter.unusedSimpArgs false
set_option linter.unusedVariables false
set_option maxRecDepth 20000

theorem l6In_b {n lo hi : Int} {b : Bool} (h : inB n lo hi = b) (w : World) : Calls Tryz.prog 29 #[.int .i64 n, .int .i64 lo, .int .i64 hi] w fun r w' => r = .returned (.bool b) ∧ w' = w := by subst h; exact l6In_any n lo hi w
set_option maxHeartbeats 400000 in
theorem l2Nums_rg (v : Value) (xs : List Int) (w : World) (h : IntsAt w v xs) :
    Calls Tryz.prog 59 #[v, .int .i64 3] w fun r w' => r = .returned (.bool (rgB xs)) ∧ w' = w := by
  obtain ⟨a, cap, rfl, hm, hc⟩ := h
  go_enter Tryz.func59, Tryz.ntmps59
  go_wp2_with fail
  go_loop [5] (fun i => ∃ k : Nat, k ≤ xs.length ∧ i = .int .i64 k ∧ (∀ j, j < k → plB (nth 0 xs j) 100 = true)) (fun i => xs.length - (intOf i).toNat)
  case atStart => exact ⟨0, Nat.zero_le _, rfl, fun j hj => absurd hj (Nat.not_lt_zero _)⟩
  case round =>
    obtain ⟨k, hk, rfl, hall⟩ := hrel
    by_cases hlt : k < xs.length
    · obtain ⟨b, off, rfl, hbw, c0⟩ := hc k hlt
      cases hd : inB (nth 0 xs k) 0 99
      · have HF : Hid (rgB xs = false) := by
          have : xs.all (plB · 100) = false := not_all_nth 0 (plB · 100) xs k hlt (by rw [← in_pl100]; exact hd)
          simp [Hid, rgB, this]
        clear hc hall
        go_wp2_with (go_at_call 29; refine (l6In_any _ _ _ _).mono ?_; rintro e w' ⟨rfl, rfl⟩)
        go_ret
        exact ⟨by rw [HF.out]; rfl, rfl⟩
      · have HA : Hid (∀ j, j < k + 1 → plB (nth 0 xs j) 100 = true) := so_far hall (by rw [← in_pl100]; exact hd)
        clear hc hall
        go_wp2_with (go_at_call 29; refine (l6In_any _ _ _ _).mono ?_; rintro e w' ⟨rfl, rfl⟩)
        go_round
        case rel => exact ⟨k + 1, by omega, by go_num, HA.out⟩
        case measure => simp [intOf]; omega
    · have HF : Hid (rgB xs = ((xs.length : Int) == 3)) := by
        have : xs.all (plB · 100) = true := all_nth 0 (plB · 100) xs (fun j hj => hall j (by omega))
        unfold Hid rgB; rw [this, Bool.and_true]
        by_cases h3 : xs.length = 3 <;> simp [h3]
        omega
      clear hall hc
      go_wp2
      go_ret
      exact ⟨by rw [HF.out]; rfl, rfl⟩

set_option maxHeartbeats 8000000 in
theorem l12List_any (v : Value) (xs : List Pu) (c : Nat) (w : World) (h : PusAt w v xs) (hcb : c ≤ 1048576) :
    Calls Tryz.prog 60 #[v, .int .i64 (c : Int)] w fun r w' => r = .returned (.bool (puB xs c)) ∧ Below w.heap.size w w' := by
  obtain ⟨a, cap, rfl, hm, hc⟩ := h
  have hwc : IntKind.i64.wrap ((c : Int) - 1) = (c : Int) - 1 := by rw [IntKind.wrap_i64]; omega
  go_enter Tryz.func60, Tryz.ntmps60
  go_wp2_with fail
  go_loopw [5] (fun q w' => ∃ k : Nat, k ≤ xs.length ∧ q = .int .i64 k ∧ Below w.heap.size w w' ∧ (∀ j, j < k → (plB (nth Pu.z xs j).c c && plB (nth Pu.z xs j).n 100 && (decide (j = 0) || decide ((nth Pu.z xs (j - 1)).c < (nth Pu.z xs j).c))) = true)) (fun q _ => xs.length - (intOf q).toNat)
  case atStart => exact ⟨0, Nat.zero_le _, rfl, Below.refl _ _, fun j hj => absurd hj (Nat.not_lt_zero _)⟩
  case round =>
    obtain ⟨k, hk, rfl, hb, hall⟩ := hrel
    have HB := (show Hid (Below _ _ _) from hb)
    have hsz := hb.size
    by_cases hlt : k < xs.length
    · have hlt' : (k : Int) < (xs.length : Int) := by omega
      obtain ⟨b, off, rfl, hbw, c0, c1⟩ := hc k hlt
      rw [← hb.cell (p := ⟨b, _, none⟩) hbw] at c0 c1
      have hbr : b < wr.heap.size := by omega
      cases h1 : inB (nth Pu.z xs k).c 0 ((c : Int) - 1)
      · have HF : Hid (puB xs c = false) := puB_no hlt (by rw [in_pl] at h1; simp [h1])
        have G1 := (show Hid (_ = _) from h1)
        clear hc hall hb h1
        go_wp2_with fail
        go_quiet ((go_at_call 29; with_reducible exact Calls.quiet_of_same (l6In_b G1.out _)))
        go_wp2_with fail
        go_ret
        exact ⟨by rw [HF.out]; rfl, (by repeat (first | with_reducible exact HB.out | (with_reducible refine Below.setCell ?_ ?hs _; case hs => ((try simp); try omega)) | (with_reducible refine Below.alloc ?_ ?hs _; case hs => ((try simp); try omega)) | with_reducible refine Below.drew ?_ | with_reducible refine below_drewN ?_ _))⟩
      have P1 := (show Hid (_ = _) from (in_pl (nth Pu.z xs k).c c).symm.trans h1)
      have G1 := (show Hid (_ = _) from h1)
      clear h1
      cases h2 : inB (nth Pu.z xs k).n 0 99
      · have HF : Hid (puB xs c = false) := puB_no hlt (by rw [in_pl100] at h2; simp [h2])
        have G2 := (show Hid (_ = _) from h2)
        clear hc hall hb h2
        go_wp2_with fail
        go_quiet ((first | (go_at_call 29; with_reducible exact Calls.quiet_of_same (l6In_b G1.out _)) | (go_at_call 29; with_reducible exact Calls.quiet_of_same (l6In_b G2.out _))))
        go_wp2_with fail
        go_ret
        exact ⟨by rw [HF.out]; rfl, (by repeat (first | with_reducible exact HB.out | (with_reducible refine Below.setCell ?_ ?hs _; case hs => ((try simp); try omega)) | (with_reducible refine Below.alloc ?_ ?hs _; case hs => ((try simp); try omega)) | with_reducible refine Below.drew ?_ | with_reducible refine below_drewN ?_ _))⟩
      have P2 := (show Hid (_ = _) from (in_pl100 (nth Pu.z xs k).n).symm.trans h2)
      have G2 := (show Hid (_ = _) from h2)
      clear h2
      by_cases hk0 : k = 0
      · have HA : Hid (∀ j, j < k + 1 → (plB (nth Pu.z xs j).c c && plB (nth Pu.z xs j).n 100 && (decide (j = 0) || decide ((nth Pu.z xs (j - 1)).c < (nth Pu.z xs j).c))) = true) := so_far hall (by rw [P1.out, P2.out]; simp [hk0])
        have hk1 : ¬ (0 : Int) < (k : Int) := by omega
        have hk2 : decide (0 < k) = false := by simp [hk0]
        have hk2' : ¬ 0 < k := by omega
        clear hc hall hb hk0
        go_wp2_with fail
        go_quiet ((first | (go_at_call 29; with_reducible exact Calls.quiet_of_same (l6In_b G1.out _)) | (go_at_call 29; with_reducible exact Calls.quiet_of_same (l6In_b G2.out _))))
        go_wp2_with fail
        go_roundw
        case rel => exact ⟨k + 1, by omega, by go_num, (by repeat (first | with_reducible exact HB.out | (with_reducible refine Below.setCell ?_ ?hs _; case hs => ((try simp); try omega)) | (with_reducible refine Below.alloc ?_ ?hs _; case hs => ((try simp); try omega)) | with_reducible refine Below.drew ?_ | with_reducible refine below_drewN ?_ _)), HA.out⟩
        case measure => simp [intOf]; omega
      · obtain ⟨m, rfl⟩ : ∃ m, k = m + 1 := ⟨k - 1, by omega⟩
        have hk2 : decide (0 < m + 1) = true := by simp
        have hk1 : (0 : Int) < (m : Int) + 1 := by omega
        have hmm : (m : Int) < (xs.length : Int) := by omega
        have hmm' : (m : Int) + 1 < (xs.length : Int) := by omega
        have hme : ((m + 1 : Nat) : Int) = (m : Int) + 1 := by omega
        obtain ⟨b', off', e', hbw', d0, d1⟩ := hc m (by omega)
        injection e' with e2; injection e2 with e3 e4; subst e3 e4
        rw [← hb.cell (p := ⟨b, _, none⟩) hbw] at d0
        rw [hme]
        have HME := (show Hid (_ = _) from hme)
        have hwr : IntKind.i64.wrap (m : Int) = (m : Int) := by rw [IntKind.wrap_i64]; omega
        clear hme hlt'
        by_cases h3 : (nth Pu.z xs m).c < (nth Pu.z xs (m + 1)).c
        · have h3' : ¬ (nth Pu.z xs (m + 1)).c ≤ (nth Pu.z xs m).c := by omega
          have HA : Hid (∀ j, j < m + 1 + 1 → (plB (nth Pu.z xs j).c c && plB (nth Pu.z xs j).n 100 && (decide (j = 0) || decide ((nth Pu.z xs (j - 1)).c < (nth Pu.z xs j).c))) = true) := so_far hall (by rw [P1.out, P2.out]; simp [h3])
          clear hc hall hb d1 hk0
          go_wp2_with fail
          go_quiet ((first | (go_at_call 29; with_reducible exact Calls.quiet_of_same (l6In_b G1.out _)) | (go_at_call 29; with_reducible exact Calls.quiet_of_same (l6In_b G2.out _))))
          go_wp2_with fail
          go_roundw
          case rel => exact ⟨m + 1 + 1, by omega, by go_num, (by repeat (first | with_reducible exact HB.out | (with_reducible refine Below.setCell ?_ ?hs _; case hs => ((try simp); try omega)) | (with_reducible refine Below.alloc ?_ ?hs _; case hs => ((try simp); try omega)) | with_reducible refine Below.drew ?_ | with_reducible refine below_drewN ?_ _)), HA.out⟩
          case measure => simp [intOf]; omega
        · have h3' : (nth Pu.z xs (m + 1)).c ≤ (nth Pu.z xs m).c := by omega
          have HF : Hid (puB xs c = false) := puB_no hlt (by rw [P1.out, P2.out]; simp [h3])
          clear hc hall hb d1 hk0
          go_wp2_with fail
          go_quiet ((first | (go_at_call 29; with_reducible exact Calls.quiet_of_same (l6In_b G1.out _)) | (go_at_call 29; with_reducible exact Calls.quiet_of_same (l6In_b G2.out _))))
          go_wp2_with fail
          go_ret
          exact ⟨by rw [HF.out]; rfl, (by repeat (first | with_reducible exact HB.out | (with_reducible refine Below.setCell ?_ ?hs _; case hs => ((try simp); try omega)) | (with_reducible refine Below.alloc ?_ ?hs _; case hs => ((try simp); try omega)) | with_reducible refine Below.drew ?_ | with_reducible refine below_drewN ?_ _))⟩
    · have HF : Hid (puB xs c = true) := puB_yes (fun j hj => hall j (by omega))
      clear hc hall
      go_wp2_with fail
      go_ret
      exact ⟨by rw [HF.out]; rfl, hb⟩

def fdI (xs : List Pu) (c : Int) : Int := match fdP xs c with
  | none => -1
  | some i => (i : Int)
set_option maxHeartbeats 1000000 in
theorem l11Find_any (v : Value) (xs : List Pu) (c : Int) (w : World) (h : PusAt w v xs) :
    Calls Tryz.prog 91 #[v, .int .i64 c] w fun r w' => r = .returned (.int .i64 (fdI xs c)) ∧ w' = w := by
  obtain ⟨a, cap, rfl, hm, hc⟩ := h
  go_enter Tryz.func91, Tryz.ntmps91
  go_wp2_with fail
  go_loop [5] (fun i => ∃ k : Nat, k ≤ xs.length ∧ i = .int .i64 k ∧ (∀ j, j < k → (nth Pu.z xs j).c ≠ c)) (fun i => xs.length - (intOf i).toNat)
  case atStart => exact ⟨0, Nat.zero_le _, rfl, fun j hj => absurd hj (Nat.not_lt_zero _)⟩
  case round =>
    obtain ⟨k, hk, rfl, hall⟩ := hrel
    by_cases hlt : k < xs.length
    · have hlt' : (k : Int) < (xs.length : Int) := by omega
      obtain ⟨b, off, rfl, hbw, c0, c1⟩ := hc k hlt
      by_cases he : (nth Pu.z xs k).c = c
      · have he' : ((nth Pu.z xs k).c == c) = true := by simp [he]
        have HF : Hid (fdI xs c = (k : Int)) := by
          have : fdP xs c = some k := by
            unfold fdP; rw [List.find?_range_eq_some]
            exact ⟨by simpa using he, List.mem_range.2 hlt, fun j hj => by simpa using hall j hj⟩
          unfold Hid fdI; rw [this]
        have HE := (show Hid (_ = _) from he)
        clear hc hall he
        go_wp2_with fail
        go_ret
        exact ⟨by rw [HF.out]; rfl, rfl⟩
      · have he' : ((nth Pu.z xs k).c == c) = false := by simp [he]
        have HA : Hid (∀ j, j < k + 1 → (nth Pu.z xs j).c ≠ c) := so_far hall he
        clear hc hall
        go_wp2_with fail
        go_round
        case rel => exact ⟨k + 1, by omega, by go_num, HA.out⟩
        case measure => simp [intOf]; omega
    · have HF : Hid (fdI xs c = -1) := by
        have : fdP xs c = none := by
          unfold fdP; rw [List.find?_range_eq_none]
          intro j hj; simpa using hall j (by omega)
        unfold Hid fdI; rw [this]
      clear hc hall
      go_wp2_with fail
      go_ret
      exact ⟨by rw [HF.out]; rfl, rfl⟩

end Go.Proofs.YtdgihncobihbgaaGreat
