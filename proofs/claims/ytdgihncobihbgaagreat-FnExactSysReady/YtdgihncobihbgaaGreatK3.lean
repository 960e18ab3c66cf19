/-
  Small functions that SysOk asks: the program (by mky.py).
-/
import Derived.Test.YtdgihncobihbgaaGreatK1
import Derived.Test.YtdgihncobihbgaaGreatJ5
import Derived.Deep.QuietTactic
import Derived.BigQuiet
import Derived.Deep.RegionWith
namespace Go.Proofs.YtdgihncobihbgaaGreat
open Go.RowKit
set_option linter.unusedSimpArgs false
set_option linter.unusedVariables false
set_option maxRecDepth 20000

set_option maxHeartbeats 400000 in
theorem isUpTo_any (n e : Int) (w : World) :
    Calls Tryz.prog 39 #[.int .i64 n, .int .i64 e] w fun r w' => r = .returned (.bool (inB n 0 e)) ∧ w' = w := by
  by_cases h1 : 0 ≤ n
  · go_enter Tryz.func39, Tryz.ntmps39
    go_wp2
    go_ret
    exact ⟨by simp [inB]; try omega, rfl⟩
  · have h2 : decide (0 ≤ n) = false := by simpa using h1
    go_enter Tryz.func39, Tryz.ntmps39
    go_wp2
    go_ret
    exact ⟨by simp [inB]; try omega, rfl⟩

set_option maxHeartbeats 400000 in
theorem isLive_any (t : Ta) (a3 a8 a9 a10 : Option Addr) (c3 c8 c9 c10 : Nat) (w : World) :
    Calls Tryz.prog 98 #[.agg #[.int .i64 t.body, .int .i64 t.pc, .int .i64 t.up, .slice a3 t.regs.length c3, .int .i64 t.way, .int .i64 t.stage, .int .i64 t.at_, .int .i64 t.since, .slice a8 t.old.length c8, .slice a9 t.reads.length c9, .slice a10 t.puts.length c10, .int .i64 t.when_, .int .i64 t.from_]] w fun r w' => r = .returned (.bool (liB t)) ∧ Below w.heap.size w w' := by
  by_cases h1 : t.way = 0
  · have HF : Hid (liB t = true) := by simp [Hid, liB, h1]
    have h1' : (t.way == 0) = true := by simp [h1]
    go_enter Tryz.func98, Tryz.ntmps98
    go_wp2_with fail
    go_ret
    exact ⟨by rw [HF.out]; rfl, (by repeat (first | with_reducible exact Below.refl _ _ | (with_reducible refine Below.setCell ?_ ?hs _; case hs => ((try simp); try omega)) | (with_reducible refine Below.alloc ?_ ?hs _; case hs => ((try simp); try omega)) | with_reducible refine Below.drew ?_))⟩
  · have HF : Hid (liB t = decide (t.way = 1)) := by simp [Hid, liB, h1]
    have h1' : (t.way == 0) = false := by simp [h1]
    go_enter Tryz.func98, Tryz.ntmps98
    go_wp2_with fail
    go_ret
    exact ⟨by rw [HF.out]; rfl, (by repeat (first | with_reducible exact Below.refl _ _ | (with_reducible refine Below.setCell ?_ ?hs _; case hs => ((try simp); try omega)) | (with_reducible refine Below.alloc ?_ ?hs _; case hs => ((try simp); try omega)) | with_reducible refine Below.drew ?_))⟩

set_option maxHeartbeats 400000 in
theorem regsInForm_rg (v : Value) (xs : List Int) (w : World) (h : IntsAt w v xs) :
    Calls Tryz.prog 97 #[v] w fun r w' => r = .returned (.bool (rgB xs)) ∧ w' = w := by
  obtain ⟨a, cap, rfl, hm⟩ := h.shape
  have HI := (show Hid (IntsAt _ _ _) from h)
  clear h
  by_cases h5 : xs.length = 3
  · have h5' : ((xs.length : Int) == 3) = true := by simp; omega
    have HF : Hid (rgB xs = nsB xs) := by simp [Hid, rgB, nsB, h5]
    clear h5
    go_enter Tryz.func97, Tryz.ntmps97
    go_wp2_with (go_at_call 94; refine (numsInForm_any _ xs _ HI.out).mono ?_; rintro e w' ⟨rfl, rfl⟩)
    go_ret
    exact ⟨by rw [HF.out]; rfl, rfl⟩
  · have h5' : ((xs.length : Int) == 3) = false := by simp; omega
    have HF : Hid (rgB xs = false) := by simp [Hid, rgB, h5]
    clear h5
    clear HI
    go_enter Tryz.func97, Tryz.ntmps97
    go_wp2
    go_ret
    exact ⟨by rw [HF.out]; rfl, rfl⟩

theorem puB_no {xs : List Pu} {c : Int} {k : Nat} (hk : k < xs.length) (h : (plB (nth Pu.z xs k).c c && plB (nth Pu.z xs k).n 100 && (decide (k = 0) || decide ((nth Pu.z xs (k - 1)).c < (nth Pu.z xs k).c))) = false) : puB xs c = false := by
  unfold puB
  rw [List.all_eq_false]
  exact ⟨k, List.mem_range.2 hk, by simp [h]⟩
theorem puB_yes {xs : List Pu} {c : Int} (h : ∀ k, k < xs.length → (plB (nth Pu.z xs k).c c && plB (nth Pu.z xs k).n 100 && (decide (k = 0) || decide ((nth Pu.z xs (k - 1)).c < (nth Pu.z xs k).c))) = true) : puB xs c = true := by
  unfold puB
  rw [List.all_eq_true]
  intro k hk
  exact h k (List.mem_range.1 hk)
set_option maxHeartbeats 2000000 in
theorem putsInForm_any (v : Value) (xs : List Pu) (c : Int) (w : World) (h : PusAt w v xs) :
    Calls Tryz.prog 78 #[v, .int .i64 c] w fun r w' => r = .returned (.bool (puB xs c)) ∧ Below w.heap.size w w' := by
  obtain ⟨a, cap, rfl, hm, hc⟩ := h
  go_enter Tryz.func78, Tryz.ntmps78
  go_wp2_with fail
  go_loopw [9] (fun q w' => ∃ k : Nat, k ≤ xs.length ∧ q = .int .i64 k ∧ Below w.heap.size w w' ∧ (∀ j, j < k → (plB (nth Pu.z xs j).c c && plB (nth Pu.z xs j).n 100 && (decide (j = 0) || decide ((nth Pu.z xs (j - 1)).c < (nth Pu.z xs j).c))) = true)) (fun q _ => xs.length - (intOf q).toNat)
  case atStart => exact ⟨0, Nat.zero_le _, rfl, Below.refl _ _, fun j hj => absurd hj (Nat.not_lt_zero _)⟩
  case round =>
    obtain ⟨k, hk, rfl, hb, hall⟩ := hrel
    have HB := (show Hid (Below _ _ _) from hb)
    have hsz := hb.size
    by_cases hlt : k < xs.length
    · have hlt' : (k : Int) < (xs.length : Int) := by omega
      obtain ⟨b, off, rfl, hbw, c0, c1⟩ := hc k hlt
      rw [← hb.cell (p := ⟨b, _, none⟩) hbw] at c0 c1
      cases h1 : plB (nth Pu.z xs k).c c
      · have HF : Hid (puB xs c = false) := puB_no hlt (by simp [h1])
        clear hc hall hb
        go_wp2_with (go_at_call 77; refine (isPlace_any _ _ _).mono ?_; rintro e w' ⟨rfl, hw⟩; have hw := hw.symm; subst hw)
        go_ret
        exact ⟨by rw [HF.out]; rfl, (by repeat (first | with_reducible exact HB.out | (with_reducible refine Below.setCell ?_ ?hs _; case hs => ((try simp); try omega)) | (with_reducible refine Below.alloc ?_ ?hs _; case hs => ((try simp); try omega)) | with_reducible refine Below.drew ?_))⟩
      cases h2 : plB (nth Pu.z xs k).n 100
      · have HF : Hid (puB xs c = false) := puB_no hlt (by simp [h1, h2])
        clear hc hall hb
        go_wp2_with (go_at_call 77; refine (isPlace_any _ _ _).mono ?_; rintro e w' ⟨rfl, hw⟩; have hw := hw.symm; subst hw)
        go_ret
        exact ⟨by rw [HF.out]; rfl, (by repeat (first | with_reducible exact HB.out | (with_reducible refine Below.setCell ?_ ?hs _; case hs => ((try simp); try omega)) | (with_reducible refine Below.alloc ?_ ?hs _; case hs => ((try simp); try omega)) | with_reducible refine Below.drew ?_))⟩
      by_cases hk0 : k = 0
      · have HA : Hid (∀ j, j < k + 1 → (plB (nth Pu.z xs j).c c && plB (nth Pu.z xs j).n 100 && (decide (j = 0) || decide ((nth Pu.z xs (j - 1)).c < (nth Pu.z xs j).c))) = true) := so_far hall (by rw [h1, h2]; simp [hk0])
        have hk1 : ¬ (0 : Int) < (k : Int) := by omega
        have hk2 : decide (0 < k) = false := by simp [hk0]
        have hk2' : ¬ 0 < k := by omega
        clear hc hall hb hk0
        go_wp2_with (go_at_call 77; refine (isPlace_any _ _ _).mono ?_; rintro e w' ⟨rfl, hw⟩; have hw := hw.symm; subst hw)
        go_quiet (fail)
        go_wp2_with fail
        go_roundw
        case rel => exact ⟨k + 1, by omega, by go_num, (by repeat (first | with_reducible exact HB.out | (with_reducible refine Below.setCell ?_ ?hs _; case hs => ((try simp); try omega)) | (with_reducible refine Below.alloc ?_ ?hs _; case hs => ((try simp); try omega)) | with_reducible refine Below.drew ?_ | with_reducible refine below_drewN ?_ _)), HA.out⟩
        case measure => simp [intOf]; omega
      · obtain ⟨m, rfl⟩ : ∃ m, k = m + 1 := ⟨k - 1, by omega⟩
        have hk2 : decide (0 < m + 1) = true := by simp
        have hk1 : (0 : Int) < (m : Int) + 1 := by omega
        have hmm : (m : Int) < (xs.length : Int) := by omega
        have hmm' : (m : Int) + 1 < (xs.length : Int) := by omega
        have hme : ((m + 1 : Nat) : Int) = (m : Int) + 1 := by omega
        obtain ⟨b', off', e', hbw', d0, d1⟩ := hc m (by omega)
        injection e' with e2; injection e2 with e3 e4; subst e3 e4
        rw [← hb.cell (p := ⟨b, _, none⟩) hbw] at d0
        rw [hme]
        have HME := (show Hid (_ = _) from hme)
        have hbr : b < wr.heap.size := by omega
        have hwr : IntKind.i64.wrap (m : Int) = (m : Int) := by rw [IntKind.wrap_i64]; omega
        clear hme hlt'
        have hk0' : m + 1 - 1 = m := by omega
        by_cases h3 : (nth Pu.z xs m).c < (nth Pu.z xs (m + 1)).c
        · have h3' : ¬ (nth Pu.z xs (m + 1)).c ≤ (nth Pu.z xs m).c := by omega
          have HA : Hid (∀ j, j < m + 1 + 1 → (plB (nth Pu.z xs j).c c && plB (nth Pu.z xs j).n 100 && (decide (j = 0) || decide ((nth Pu.z xs (j - 1)).c < (nth Pu.z xs j).c))) = true) := so_far hall (by rw [h1, h2]; simp [h3])
          clear hc hall hb d1 hk0 hk0'
          go_wp2_with (go_at_call 77; refine (isPlace_any _ _ _).mono ?_; rintro e w' ⟨rfl, hw⟩; have hw := hw.symm; subst hw)
          go_quiet (fail)
          go_wp2_with fail
          go_roundw
          case rel => exact ⟨m + 1 + 1, by omega, by go_num, (by repeat (first | with_reducible exact HB.out | (with_reducible refine Below.setCell ?_ ?hs _; case hs => ((try simp); try omega)) | (with_reducible refine Below.alloc ?_ ?hs _; case hs => ((try simp); try omega)) | with_reducible refine Below.drew ?_ | with_reducible refine below_drewN ?_ _)), HA.out⟩
          case measure => simp [intOf]; omega
        · have h3' : (nth Pu.z xs (m + 1)).c ≤ (nth Pu.z xs m).c := by omega
          have HF : Hid (puB xs c = false) := puB_no hlt (by rw [h1, h2]; simp [h3])
          clear hc hall hb d1 hk0 hk0'
          go_wp2_with (go_at_call 77; refine (isPlace_any _ _ _).mono ?_; rintro e w' ⟨rfl, hw⟩; have hw := hw.symm; subst hw)
          go_quiet (fail)
          go_wp2_with fail
          go_ret
          exact ⟨by rw [HF.out]; rfl, (by repeat (first | with_reducible exact HB.out | (with_reducible refine Below.setCell ?_ ?hs _; case hs => ((try simp); try omega)) | (with_reducible refine Below.alloc ?_ ?hs _; case hs => ((try simp); try omega)) | with_reducible refine Below.drew ?_ | with_reducible refine below_drewN ?_ _))⟩
    · have HF : Hid (puB xs c = true) := puB_yes (fun j hj => hall j (by omega))
      clear hc hall
      go_wp2_with fail
      go_ret
      exact ⟨by rw [HF.out]; rfl, hb⟩

theorem kno_snoc (ts : List Ta) (i : Int) (t : Ta) : kno (ts ++ [t]) i = kno ts i + if t.up = i ∧ ¬ t.way = 4 then 1 else 0 := by
  unfold kno
  rw [List.filter_append, List.length_append]
  by_cases h1 : t.up = i <;> by_cases h2 : t.way = 4 <;> simp [h1, h2]
theorem kno_le (ts : List Ta) (i : Int) : kno ts i ≤ ts.length := List.length_filter_le _ _
set_option maxHeartbeats 2000000 in
theorem kidsNotOff_any (s : Sy) (i : Int) (ac al : Option Addr) (cc cl : Nat) (tv : Value) (w : World) (h : TasAt w tv s.tasks) :
    Calls Tryz.prog 100 #[.agg #[.slice ac s.cells.length cc, tv, .int .i64 s.clock, .slice al s.log.length cl], .int .i64 i] w fun r w' => r = .returned (.int .i64 (kno s.tasks i)) ∧ Below w.heap.size w w' := by
  obtain ⟨a, cap, rfl, hm, hc⟩ := h
  go_enter Tryz.func100, Tryz.ntmps100
  go_wp2_with fail
  go_loopw [5, 11] (fun u q w' => ∃ (k n : Nat), k ≤ s.tasks.length ∧ q = .int .i64 k ∧ u = .int .i64 n ∧ n = kno (s.tasks.take k) i ∧ Below w.heap.size w w') (fun _ q _ => s.tasks.length - (intOf q).toNat)
  case atStart => exact ⟨0, 0, Nat.zero_le _, rfl, rfl, by simp [kno], (by repeat (first | with_reducible exact Below.refl _ _ | (with_reducible refine Below.setCell ?_ ?hs _; case hs => ((try simp); try omega)) | (with_reducible refine Below.alloc ?_ ?hs _; case hs => ((try simp); try omega)) | with_reducible refine Below.drew ?_))⟩
  case round =>
    obtain ⟨k, n, hk, rfl, rfl, hn, hb⟩ := hrel
    have hnk : n ≤ k := by rw [hn]; exact Nat.le_trans (kno_le _ _) (List.length_take_le _ _)
    have HN := (show Hid (n = _) from hn)
    have HB := (show Hid (Below _ _ _) from hb)
    have hsz := hb.size
    clear hn
    by_cases hlt : k < s.tasks.length
    · have hlt' : (k : Int) < (s.tasks.length : Int) := by omega
      obtain ⟨b, off, v3, v8, v9, v10, rfl, hbw, c0, c1, c2, c3, c4, c5, c6, c7, c8, c9, c10, c11, c12, h3, h8, h9, h10⟩ := hc k hlt
      rw [← hb.cell (p := ⟨b, _, none⟩) hbw] at c0 c1 c2 c3 c4 c5 c6 c7 c8 c9 c10 c11 c12
      obtain ⟨a3, e3, rfl, _⟩ := h3.shape
      obtain ⟨a8, e8, rfl, _⟩ := h8.shape
      obtain ⟨a9, e9, rfl, _⟩ := h9.shape
      obtain ⟨a10, e10, rfl, _⟩ := h10.shape
      have HS : Hid (kno (s.tasks.take (k + 1)) i = kno (s.tasks.take k) i + if (nth Ta.z s.tasks k).up = i ∧ ¬ (nth Ta.z s.tasks k).way = 4 then 1 else 0) := by unfold Hid; rw [take_nth Ta.z _ _ hlt]; exact kno_snoc _ _ _
      clear hc hb h3 h8 h9 h10
      by_cases q1 : (nth Ta.z s.tasks k).up = i
      · have q1' : ((nth Ta.z s.tasks k).up == i) = true := by simp [q1]
        by_cases q2 : (nth Ta.z s.tasks k).way = 4
        · have q2' : ((nth Ta.z s.tasks k).way != 4) = false := by simp [q2]
          have HS' : Hid (kno (s.tasks.take (k + 1)) i = n) := by unfold Hid; rw [HS.out, ← HN.out]; simp [q2]
          have Q1 := (show Hid (_ = i) from q1)
          clear q1
          go_wp2_with fail
          go_roundw
          case rel => exact ⟨k + 1, n, by omega, by go_num, rfl, HS'.out.symm, (by repeat (first | with_reducible exact HB.out | (with_reducible refine Below.setCell ?_ ?hs _; case hs => ((try simp); try omega)) | (with_reducible refine Below.alloc ?_ ?hs _; case hs => ((try simp); try omega)) | with_reducible refine Below.drew ?_))⟩
          case measure => simp [intOf]; omega
        · have q2' : ((nth Ta.z s.tasks k).way != 4) = true := by simp [q2]
          have HS' : Hid (kno (s.tasks.take (k + 1)) i = n + 1) := by unfold Hid; rw [HS.out, ← HN.out]; simp [q1, q2]
          have Q1 := (show Hid (_ = i) from q1)
          clear q1
          go_wp2_with fail
          go_roundw
          case rel => exact ⟨k + 1, n + 1, by omega, by go_num, by go_num, HS'.out.symm, (by repeat (first | with_reducible exact HB.out | (with_reducible refine Below.setCell ?_ ?hs _; case hs => ((try simp); try omega)) | (with_reducible refine Below.alloc ?_ ?hs _; case hs => ((try simp); try omega)) | with_reducible refine Below.drew ?_))⟩
          case measure => simp [intOf]; omega
      · have q1' : ((nth Ta.z s.tasks k).up == i) = false := by simp [q1]
        have HS' : Hid (kno (s.tasks.take (k + 1)) i = n) := by unfold Hid; rw [HS.out, ← HN.out]; simp [q1]
        go_wp2_with fail
        go_roundw
        case rel => exact ⟨k + 1, n, by omega, by go_num, rfl, HS'.out.symm, (by repeat (first | with_reducible exact HB.out | (with_reducible refine Below.setCell ?_ ?hs _; case hs => ((try simp); try omega)) | (with_reducible refine Below.alloc ?_ ?hs _; case hs => ((try simp); try omega)) | with_reducible refine Below.drew ?_))⟩
        case measure => simp [intOf]; omega
    · have HF : Hid (kno s.tasks i = n) := by
        have := HN.out; rw [List.take_of_length_le (by omega)] at this; exact this.symm
      clear hc
      go_wp2_with fail
      go_ret
      exact ⟨by rw [HF.out]; rfl, hb⟩

set_option maxHeartbeats 1000000 in
theorem atInForm_any (t : Ta) (a3 a8 a9 a10 : Option Addr) (c3 c8 c9 c10 : Nat) (n : Nat) (w : World) (hs : t.stage = 0 ∨ t.stage = 1 ∨ t.stage = 2 ∨ t.stage = 3 ∨ t.stage = 4 ∨ t.stage = 5) :
    Calls Tryz.prog 101 #[.agg #[.int .i64 t.body, .int .i64 t.pc, .int .i64 t.up, .slice a3 t.regs.length c3, .int .i64 t.way, .int .i64 t.stage, .int .i64 t.at_, .int .i64 t.since, .slice a8 t.old.length c8, .slice a9 t.reads.length c9, .slice a10 t.puts.length c10, .int .i64 t.when_, .int .i64 t.from_], .int .i64 (n : Int)] w fun r w' => r = .returned (.bool (atB t n)) ∧ Below w.heap.size w w' := by
  by_cases hp : t.puts.length = 0
  all_goals
    rcases hs with e | e | e | e | e | e
    all_goals
      have hp' : ((t.puts.length : Int) == 0) = decide (t.puts.length = 0) := by by_cases h : t.puts.length = 0 <;> simp [h]
      simp only [hp, decide_true, decide_false] at hp'
      (try have hp2 : ¬ ((t.puts.length : Int) = 0) := by omega)
      rw [e]
      go_enter Tryz.func101, Tryz.ntmps101
      go_wp2_with (first | (go_at_call 39; refine (isUpTo_any _ _ _).mono ?_; rintro e w' ⟨rfl, hw⟩; have hw := hw.symm; subst hw) | (go_at_call 77; refine (isPlace_any _ _ _).mono ?_; rintro e w' ⟨rfl, hw⟩; have hw := hw.symm; subst hw))
      go_ret
      exact ⟨by simp [atB, e, hp] <;> rfl, (by repeat (first | with_reducible exact Below.refl _ _ | (with_reducible refine Below.setCell ?_ ?hs _; case hs => ((try simp); try omega)) | (with_reducible refine Below.alloc ?_ ?hs _; case hs => ((try simp); try omega)) | with_reducible refine Below.drew ?_))⟩

set_option maxHeartbeats 1000000 in
theorem whenInForm_any (t : Ta) (a3 a8 a9 a10 : Option Addr) (c3 c8 c9 c10 : Nat) (clock : Int) (w : World) (hs : t.stage = 0 ∨ t.stage = 1 ∨ t.stage = 2 ∨ t.stage = 3 ∨ t.stage = 4 ∨ t.stage = 5) (h0 : 0 ≤ clock) (h1 : clock ≤ 200) :
    Calls Tryz.prog 102 #[.agg #[.int .i64 t.body, .int .i64 t.pc, .int .i64 t.up, .slice a3 t.regs.length c3, .int .i64 t.way, .int .i64 t.stage, .int .i64 t.at_, .int .i64 t.since, .slice a8 t.old.length c8, .slice a9 t.reads.length c9, .slice a10 t.puts.length c10, .int .i64 t.when_, .int .i64 t.from_], .int .i64 clock] w fun r w' => r = .returned (.bool (whB t clock)) ∧ Below w.heap.size w w' := by
  by_cases hp : t.since < t.when_
  all_goals
    rcases hs with e | e | e | e | e | e
    all_goals
      rw [e]
      go_enter Tryz.func102, Tryz.ntmps102
      go_wp2_with (first | (go_at_call 39; refine (isUpTo_any _ _ _).mono ?_; rintro e w' ⟨rfl, hw⟩; have hw := hw.symm; subst hw))
      go_ret
      exact ⟨by simp [whB, e, hp] <;> first | rfl | (intro h; omega), (by repeat (first | with_reducible exact Below.refl _ _ | (with_reducible refine Below.setCell ?_ ?hs _; case hs => ((try simp); try omega)) | (with_reducible refine Below.alloc ?_ ?hs _; case hs => ((try simp); try omega)) | with_reducible refine Below.drew ?_))⟩

end Go.Proofs.YtdgihncobihbgaaGreat
