import Derived.Test.YtgbgjljflgbcaaaNe06
import Derived.Deep.QuietTactic
import Derived.BigQuiet
import Derived.Deep.RegionWith
import Derived.Test.YtgbgjljflgbcaaaNe05
namespace Go.Proofs.Ytgbgjljflgbcaaa
open Go.RowKit
set_option linter.unusedSimpArgs false
set_option linter.unusedVariables false
set_option maxRecDepth 20000
set_option maxHeartbeats 400000 in
theorem isUpTo_any (n e : Int) (w : World) :
    Calls Try.prog 39 #[.int .i64 n, .int .i64 e] w fun r w' => r = .returned (.bool (inB n 0 e)) ∧ w' = w := by
  by_cases h1 : 0 ≤ n
  · go_enter Try.func39, Try.ntmps39
    go_wp2
    go_ret
    exact ⟨by simp [inB]; try omega, rfl⟩
  · have h2 : decide (0 ≤ n) = false := by simpa using h1
    go_enter Try.func39, Try.ntmps39
    go_wp2
    go_ret
    exact ⟨by simp [inB]; try omega, rfl⟩
set_option maxHeartbeats 400000 in
theorem regsInForm_rg (v : Value) (xs : List Int) (w : World) (h : IntsAt w v xs) :
    Calls Try.prog 123 #[v] w fun r w' => r = .returned (.bool (rgB xs)) ∧ w' = w := by
  obtain ⟨a, cap, rfl, hm⟩ := h.shape
  have HI := (show Hid (IntsAt _ _ _) from h)
  clear h
  by_cases h5 : xs.length = 3
  · have h5' : ((xs.length : Int) == 3) = true := by simp; omega
    have HF : Hid (rgB xs = nsB xs) := by simp [Hid, rgB, nsB, h5]
    clear h5
    go_enter Try.func123, Try.ntmps123
    go_wp2_with (go_at_call 120; refine (numsInForm_any _ xs _ HI.out).mono ?_; rintro e w' ⟨rfl, rfl⟩)
    go_ret
    exact ⟨by rw [HF.out]; rfl, rfl⟩
  · have h5' : ((xs.length : Int) == 3) = false := by simp; omega
    have HF : Hid (rgB xs = false) := by simp [Hid, rgB, h5]
    clear h5
    clear HI
    go_enter Try.func123, Try.ntmps123
    go_wp2
    go_ret
    exact ⟨by rw [HF.out]; rfl, rfl⟩
theorem puB_no {xs : List Pu} {c : Int} {k : Nat} (hk : k < xs.length) (h : (plB (nth Pu.z xs k).c c && plB (nth Pu.z xs k).n 100 && (decide (k = 0) || decide ((nth Pu.z xs (k - 1)).c < (nth Pu.z xs k).c))) = false) : puB xs c = false := by
  unfold puB
  rw [List.all_eq_false]
  exact ⟨k, List.mem_range.2 hk, by simp [h]⟩
theorem puB_yes {xs : List Pu} {c : Int} (h : ∀ k, k < xs.length → (plB (nth Pu.z xs k).c c && plB (nth Pu.z xs k).n 100 && (decide (k = 0) || decide ((nth Pu.z xs (k - 1)).c < (nth Pu.z xs k).c))) = true) : puB xs c = true := by
  unfold puB
  rw [List.all_eq_true]
  intro k hk
  exact h k (List.mem_range.1 hk)
set_option maxHeartbeats 2000000 in
theorem putsInForm_any (v : Value) (xs : List Pu) (c : Int) (w : World) (h : PusAt w v xs) :
    Calls Try.prog 93 #[v, .int .i64 c] w fun r w' => r = .returned (.bool (puB xs c)) ∧ Below w.heap.size w w' := by
  obtain ⟨a, cap, rfl, hm, hc⟩ := h
  go_enter Try.func93, Try.ntmps93
  go_wp2_with fail
  go_loopw [9] (fun q w' => ∃ k : Nat, k ≤ xs.length ∧ q = .int .i64 k ∧ Below w.heap.size w w' ∧ (∀ j, j < k → (plB (nth Pu.z xs j).c c && plB (nth Pu.z xs j).n 100 && (decide (j = 0) || decide ((nth Pu.z xs (j - 1)).c < (nth Pu.z xs j).c))) = true)) (fun q _ => xs.length - (intOf q).toNat)
  case atStart => exact ⟨0, Nat.zero_le _, rfl, Below.refl _ _, fun j hj => absurd hj (Nat.not_lt_zero _)⟩
  case round =>
    obtain ⟨k, hk, rfl, hb, hall⟩ := hrel
    have HB := (show Hid (Below _ _ _) from hb)
    have hsz := hb.size
    by_cases hlt : k < xs.length
    · have hlt' : (k : Int) < (xs.length : Int) := by omega
      obtain ⟨b, off, rfl, hbw, c0, c1⟩ := hc k hlt
      rw [← hb.cell (p := ⟨b, _, none⟩) hbw] at c0 c1
      cases h1 : plB (nth Pu.z xs k).c c
      · have HF : Hid (puB xs c = false) := puB_no hlt (by simp [h1])
        clear hc hall hb
        go_wp2_with (go_at_call 45; refine (isPlace_any _ _ _).mono ?_; rintro e w' ⟨rfl, hw⟩; have hw := hw.symm; subst hw)
        go_ret
        exact ⟨by rw [HF.out]; rfl, (by repeat (first | with_reducible exact HB.out | (with_reducible refine Below.setCell ?_ ?hs _; case hs => ((try simp); try omega)) | (with_reducible refine Below.alloc ?_ ?hs _; case hs => ((try simp); try omega)) | with_reducible refine Below.drew ?_))⟩
      cases h2 : plB (nth Pu.z xs k).n 100
      · have HF : Hid (puB xs c = false) := puB_no hlt (by simp [h1, h2])
        clear hc hall hb
        go_wp2_with (go_at_call 45; refine (isPlace_any _ _ _).mono ?_; rintro e w' ⟨rfl, hw⟩; have hw := hw.symm; subst hw)
        go_ret
        exact ⟨by rw [HF.out]; rfl, (by repeat (first | with_reducible exact HB.out | (with_reducible refine Below.setCell ?_ ?hs _; case hs => ((try simp); try omega)) | (with_reducible refine Below.alloc ?_ ?hs _; case hs => ((try simp); try omega)) | with_reducible refine Below.drew ?_))⟩
      by_cases hk0 : k = 0
      · have HA : Hid (∀ j, j < k + 1 → (plB (nth Pu.z xs j).c c && plB (nth Pu.z xs j).n 100 && (decide (j = 0) || decide ((nth Pu.z xs (j - 1)).c < (nth Pu.z xs j).c))) = true) := so_far hall (by rw [h1, h2]; simp [hk0])
        have hk1 : ¬ (0 : Int) < (k : Int) := by omega
        have hk2 : decide (0 < k) = false := by simp [hk0]
        have hk2' : ¬ 0 < k := by omega
        clear hc hall hb hk0
        go_wp2_with (go_at_call 45; refine (isPlace_any _ _ _).mono ?_; rintro e w' ⟨rfl, hw⟩; have hw := hw.symm; subst hw)
        go_quiet (fail)
        go_wp2_with fail
        go_roundw
        case rel => exact ⟨k + 1, by omega, by go_num, (by repeat (first | with_reducible exact HB.out | (with_reducible refine Below.setCell ?_ ?hs _; case hs => ((try simp); try omega)) | (with_reducible refine Below.alloc ?_ ?hs _; case hs => ((try simp); try omega)) | with_reducible refine Below.drew ?_ | with_reducible refine below_drewN ?_ _)), HA.out⟩
        case measure => simp [intOf]; omega
      · obtain ⟨m, rfl⟩ : ∃ m, k = m + 1 := ⟨k - 1, by omega⟩
        have hk2 : decide (0 < m + 1) = true := by simp
        have hk1 : (0 : Int) < (m : Int) + 1 := by omega
        have hmm : (m : Int) < (xs.length : Int) := by omega
        have hmm' : (m : Int) + 1 < (xs.length : Int) := by omega
        have hme : ((m + 1 : Nat) : Int) = (m : Int) + 1 := by omega
        obtain ⟨b', off', e', hbw', d0, d1⟩ := hc m (by omega)
        injection e' with e2; injection e2 with e3 e4; subst e3 e4
        rw [← hb.cell (p := ⟨b, _, none⟩) hbw] at d0
        rw [hme]
        have HME := (show Hid (_ = _) from hme)
        have hbr : b < wr.heap.size := by omega
        have hwr : IntKind.i64.wrap (m : Int) = (m : Int) := by rw [IntKind.wrap_i64]; omega
        clear hme hlt'
        have hk0' : m + 1 - 1 = m := by omega
        by_cases h3 : (nth Pu.z xs m).c < (nth Pu.z xs (m + 1)).c
        · have h3' : ¬ (nth Pu.z xs (m + 1)).c ≤ (nth Pu.z xs m).c := by omega
          have HA : Hid (∀ j, j < m + 1 + 1 → (plB (nth Pu.z xs j).c c && plB (nth Pu.z xs j).n 100 && (decide (j = 0) || decide ((nth Pu.z xs (j - 1)).c < (nth Pu.z xs j).c))) = true) := so_far hall (by rw [h1, h2]; simp [h3])
          clear hc hall hb d1 hk0 hk0'
          go_wp2_with (go_at_call 45; refine (isPlace_any _ _ _).mono ?_; rintro e w' ⟨rfl, hw⟩; have hw := hw.symm; subst hw)
          go_quiet (fail)
          go_wp2_with fail
          go_roundw
          case rel => exact ⟨m + 1 + 1, by omega, by go_num, (by repeat (first | with_reducible exact HB.out | (with_reducible refine Below.setCell ?_ ?hs _; case hs => ((try simp); try omega)) | (with_reducible refine Below.alloc ?_ ?hs _; case hs => ((try simp); try omega)) | with_reducible refine Below.drew ?_ | with_reducible refine below_drewN ?_ _)), HA.out⟩
          case measure => simp [intOf]; omega
        · have h3' : (nth Pu.z xs (m + 1)).c ≤ (nth Pu.z xs m).c := by omega
          have HF : Hid (puB xs c = false) := puB_no hlt (by rw [h1, h2]; simp [h3])
          clear hc hall hb d1 hk0 hk0'
          go_wp2_with (go_at_call 45; refine (isPlace_any _ _ _).mono ?_; rintro e w' ⟨rfl, hw⟩; have hw := hw.symm; subst hw)
          go_quiet (fail)
          go_wp2_with fail
          go_ret
          exact ⟨by rw [HF.out]; rfl, (by repeat (first | with_reducible exact HB.out | (with_reducible refine Below.setCell ?_ ?hs _; case hs => ((try simp); try omega)) | (with_reducible refine Below.alloc ?_ ?hs _; case hs => ((try simp); try omega)) | with_reducible refine Below.drew ?_ | with_reducible refine below_drewN ?_ _))⟩
    · have HF : Hid (puB xs c = true) := puB_yes (fun j hj => hall j (by omega))
      clear hc hall
      go_wp2_with fail
      go_ret
      exact ⟨by rw [HF.out]; rfl, hb⟩
theorem kno_snoc (ts : List Ta) (i : Int) (t : Ta) : kno (ts ++ [t]) i = kno ts i + if t.up = i ∧ ¬ t.way = 4 then 1 else 0 := by
  unfold kno
  rw [List.filter_append, List.length_append]
  by_cases h1 : t.up = i <;> by_cases h2 : t.way = 4 <;> simp [h1, h2]
theorem kno_le (ts : List Ta) (i : Int) : kno ts i ≤ ts.length := List.length_filter_le _ _
set_option maxHeartbeats 2000000 in
theorem kidsNotOff_any (s : Sy) (i : Int) (ac al : Option Addr) (cc cl : Nat) (tv : Value) (w : World) (h : TasAt w tv s.tasks) :
    Calls Try.prog 125 #[.agg #[.slice ac s.cells.length cc, tv, .int .i64 s.clock, .slice al s.log.length cl], .int .i64 i] w fun r w' => r = .returned (.int .i64 (kno s.tasks i)) ∧ Below w.heap.size w w' := by
  obtain ⟨a, cap, rfl, hm, hc⟩ := h
  go_enter Try.func125, Try.ntmps125
  go_wp2_with fail
  go_loopw [5, 11] (fun u q w' => ∃ (k n : Nat), k ≤ s.tasks.length ∧ q = .int .i64 k ∧ u = .int .i64 n ∧ n = kno (s.tasks.take k) i ∧ Below w.heap.size w w') (fun _ q _ => s.tasks.length - (intOf q).toNat)
  case atStart => exact ⟨0, 0, Nat.zero_le _, rfl, rfl, by simp [kno], (by repeat (first | with_reducible exact Below.refl _ _ | (with_reducible refine Below.setCell ?_ ?hs _; case hs => ((try simp); try omega)) | (with_reducible refine Below.alloc ?_ ?hs _; case hs => ((try simp); try omega)) | with_reducible refine Below.drew ?_))⟩
  case round =>
    obtain ⟨k, n, hk, rfl, rfl, hn, hb⟩ := hrel
    have hnk : n ≤ k := by rw [hn]; exact Nat.le_trans (kno_le _ _) (List.length_take_le _ _)
    have HN := (show Hid (n = _) from hn)
    have HB := (show Hid (Below _ _ _) from hb)
    have hsz := hb.size
    clear hn
    by_cases hlt : k < s.tasks.length
    · have hlt' : (k : Int) < (s.tasks.length : Int) := by omega
      obtain ⟨b, off, v3, v8, v9, v10, rfl, hbw, c0, c1, c2, c3, c4, c5, c6, c7, c8, c9, c10, c11, c12, h3, h8, h9, h10⟩ := hc k hlt
      rw [← hb.cell (p := ⟨b, _, none⟩) hbw] at c0 c1 c2 c3 c4 c5 c6 c7 c8 c9 c10 c11 c12
      obtain ⟨a3, e3, rfl, _⟩ := h3.shape
      obtain ⟨a8, e8, rfl, _⟩ := h8.shape
      obtain ⟨a9, e9, rfl, _⟩ := h9.shape
      obtain ⟨a10, e10, rfl, _⟩ := h10.shape
      have HS : Hid (kno (s.tasks.take (k + 1)) i = kno (s.tasks.take k) i + if (nth Ta.z s.tasks k).up = i ∧ ¬ (nth Ta.z s.tasks k).way = 4 then 1 else 0) := by unfold Hid; rw [take_nth Ta.z _ _ hlt]; exact kno_snoc _ _ _
      clear hc hb h3 h8 h9 h10
      by_cases q1 : (nth Ta.z s.tasks k).up = i
      · have q1' : ((nth Ta.z s.tasks k).up == i) = true := by simp [q1]
        by_cases q2 : (nth Ta.z s.tasks k).way = 4
        · have q2' : ((nth Ta.z s.tasks k).way != 4) = false := by simp [q2]
          have HS' : Hid (kno (s.tasks.take (k + 1)) i = n) := by unfold Hid; rw [HS.out, ← HN.out]; simp [q2]
          have Q1 := (show Hid (_ = i) from q1)
          clear q1
          go_wp2_with fail
          go_roundw
          case rel => exact ⟨k + 1, n, by omega, by go_num, rfl, HS'.out.symm, (by repeat (first | with_reducible exact HB.out | (with_reducible refine Below.setCell ?_ ?hs _; case hs => ((try simp); try omega)) | (with_reducible refine Below.alloc ?_ ?hs _; case hs => ((try simp); try omega)) | with_reducible refine Below.drew ?_))⟩
          case measure => simp [intOf]; omega
        · have q2' : ((nth Ta.z s.tasks k).way != 4) = true := by simp [q2]
          have HS' : Hid (kno (s.tasks.take (k + 1)) i = n + 1) := by unfold Hid; rw [HS.out, ← HN.out]; simp [q1, q2]
          have Q1 := (show Hid (_ = i) from q1)
          clear q1
          go_wp2_with fail
          go_roundw
          case rel => exact ⟨k + 1, n + 1, by omega, by go_num, by go_num, HS'.out.symm, (by repeat (first | with_reducible exact HB.out | (with_reducible refine Below.setCell ?_ ?hs _; case hs => ((try simp); try omega)) | (with_reducible refine Below.alloc ?_ ?hs _; case hs => ((try simp); try omega)) | with_reducible refine Below.drew ?_))⟩
          case measure => simp [intOf]; omega
      · have q1' : ((nth Ta.z s.tasks k).up == i) = false := by simp [q1]
        have HS' : Hid (kno (s.tasks.take (k + 1)) i = n) := by unfold Hid; rw [HS.out, ← HN.out]; simp [q1]
        go_wp2_with fail
        go_roundw
        case rel => exact ⟨k + 1, n, by omega, by go_num, rfl, HS'.out.symm, (by repeat (first | with_reducible exact HB.out | (with_reducible refine Below.setCell ?_ ?hs _; case hs => ((try simp); try omega)) | (with_reducible refine Below.alloc ?_ ?hs _; case hs => ((try simp); try omega)) | with_reducible refine Below.drew ?_))⟩
        case measure => simp [intOf]; omega
    · have HF : Hid (kno s.tasks i = n) := by
        have := HN.out; rw [List.take_of_length_le (by omega)] at this; exact this.symm
      clear hc
      go_wp2_with fail
      go_ret
      exact ⟨by rw [HF.out]; rfl, hb⟩
set_option maxHeartbeats 1000000 in
theorem atInForm_any (t : Ta) (a3 a8 a9 a10 : Option Addr) (c3 c8 c9 c10 : Nat) (n : Nat) (w : World) (hs : t.stage = 0 ∨ t.stage = 1 ∨ t.stage = 2 ∨ t.stage = 3 ∨ t.stage = 4 ∨ t.stage = 5) :
    Calls Try.prog 126 #[.agg #[.int .i64 t.body, .int .i64 t.pc, .int .i64 t.up, .slice a3 t.regs.length c3, .int .i64 t.way, .int .i64 t.stage, .int .i64 t.at_, .int .i64 t.since, .slice a8 t.old.length c8, .slice a9 t.reads.length c9, .slice a10 t.puts.length c10, .int .i64 t.when_, .int .i64 t.from_], .int .i64 (n : Int)] w fun r w' => r = .returned (.bool (atB t n)) ∧ Below w.heap.size w w' := by
  by_cases hp : t.puts.length = 0
  all_goals
    rcases hs with e | e | e | e | e | e
    all_goals
      have hp' : ((t.puts.length : Int) == 0) = decide (t.puts.length = 0) := by by_cases h : t.puts.length = 0 <;> simp [h]
      simp only [hp, decide_true, decide_false] at hp'
      (try have hp2 : ¬ ((t.puts.length : Int) = 0) := by omega)
      rw [e]
      go_enter Try.func126, Try.ntmps126
      go_wp2_with (first | (go_at_call 39; refine (isUpTo_any _ _ _).mono ?_; rintro e w' ⟨rfl, hw⟩; have hw := hw.symm; subst hw) | (go_at_call 45; refine (isPlace_any _ _ _).mono ?_; rintro e w' ⟨rfl, hw⟩; have hw := hw.symm; subst hw))
      go_ret
      exact ⟨by simp [atB, e, hp] <;> rfl, (by repeat (first | with_reducible exact Below.refl _ _ | (with_reducible refine Below.setCell ?_ ?hs _; case hs => ((try simp); try omega)) | (with_reducible refine Below.alloc ?_ ?hs _; case hs => ((try simp); try omega)) | with_reducible refine Below.drew ?_))⟩
set_option maxHeartbeats 1000000 in
theorem whenInForm_any (t : Ta) (a3 a8 a9 a10 : Option Addr) (c3 c8 c9 c10 : Nat) (clock : Int) (w : World) (hs : t.stage = 0 ∨ t.stage = 1 ∨ t.stage = 2 ∨ t.stage = 3 ∨ t.stage = 4 ∨ t.stage = 5) (h0 : 0 ≤ clock) (h1 : clock ≤ 200) :
    Calls Try.prog 127 #[.agg #[.int .i64 t.body, .int .i64 t.pc, .int .i64 t.up, .slice a3 t.regs.length c3, .int .i64 t.way, .int .i64 t.stage, .int .i64 t.at_, .int .i64 t.since, .slice a8 t.old.length c8, .slice a9 t.reads.length c9, .slice a10 t.puts.length c10, .int .i64 t.when_, .int .i64 t.from_], .int .i64 clock] w fun r w' => r = .returned (.bool (whB t clock)) ∧ Below w.heap.size w w' := by
  by_cases hp : t.since < t.when_
  all_goals
    rcases hs with e | e | e | e | e | e
    all_goals
      rw [e]
      go_enter Try.func127, Try.ntmps127
      go_wp2_with (first | (go_at_call 39; refine (isUpTo_any _ _ _).mono ?_; rintro e w' ⟨rfl, hw⟩; have hw := hw.symm; subst hw))
      go_ret
      exact ⟨by simp [whB, e, hp] <;> first | rfl | (intro h; omega), (by repeat (first | with_reducible exact Below.refl _ _ | (with_reducible refine Below.setCell ?_ ?hs _; case hs => ((try simp); try omega)) | (with_reducible refine Below.alloc ?_ ?hs _; case hs => ((try simp); try omega)) | with_reducible refine Below.drew ?_))⟩
end Go.Proofs.Ytgbgjljflgbcaaa

namespace Go.Proofs.Ytgbgjljflgbcaaa
open Go.RowKit
def PrAt (w : World) (cv bv : Value) (p : Pr) : Prop := IntsAt w cv p.cells ∧ BodiesAt w bv p.bodies
theorem PrAt.mono {w w' : World} {cv bv : Value} {p : Pr} (h : PrAt w cv bv p) (hb : Below w.heap.size w w') : PrAt w' cv bv p := ⟨h.1.mono hb, h.2.mono hb⟩
end Go.Proofs.Ytgbgjljflgbcaaa

namespace Go.Proofs.Ytgbgjljflgbcaaa
open Go.RowKit
set_option linter.unusedSimpArgs false
set_option linter.unusedVariables false
set_option maxRecDepth 20000
theorem isPlace_b {n e : Int} {b : Bool} (h : plB n e = b) (w : World) : Calls Try.prog 45 #[.int .i64 n, .int .i64 e] w fun r w' => r = .returned (.bool b) ∧ w' = w := by subst h; exact isPlace_any n e w
theorem isUpTo_b {n e : Int} {b : Bool} (h : inB n 0 e = b) (w : World) : Calls Try.prog 39 #[.int .i64 n, .int .i64 e] w fun r w' => r = .returned (.bool b) ∧ w' = w := by subst h; exact isUpTo_any n e w
theorem regs_b {v : Value} {xs : List Int} {b : Bool} (h : rgB xs = b) (w : World) (hi : IntsAt w v xs) : Calls Try.prog 123 #[v] w fun r w' => r = .returned (.bool b) ∧ w' = w := by subst h; exact regsInForm_rg v xs w hi
set_option maxHeartbeats 1000000 in
theorem actNext_g (p : Pr) (pa0 pa1 : Option Addr) (pc0 pc1 : Nat) (t : Ta) (x2 x4 x5 x6 x7 x11 x12 : Int) (n3 n8 n9 n10 : Nat) (a3 a8 a9 a10 : Option Addr) (c3 c8 c9 c10 : Nat) (bn pn : Nat) (w : World) (hp : PrAt w (.slice pa0 p.cells.length pc0) (.slice pa1 p.bodies.length pc1) p) (hb : t.body = (bn : Int)) (hbn : bn < p.bodies.length) (hpc : t.pc = (pn : Int)) (hpn : pn ≤ (nth [] p.bodies bn).length) :
    Calls Try.prog 124 #[.agg #[.slice pa0 p.cells.length pc0, .slice pa1 p.bodies.length pc1], .agg #[.int .i64 (bn : Int), .int .i64 (pn : Int), .int .i64 x2, .slice a3 n3 c3, .int .i64 x4, .int .i64 x5, .int .i64 x6, .int .i64 x7, .slice a8 n8 c8, .slice a9 n9 c9, .slice a10 n10 c10, .int .i64 x11, .int .i64 x12]] w fun r w' => ∃ ad cd ak ck, r = .returned (.agg #[.int .i64 (acN p t).k, .slice ad (acN p t).ds.length cd, .slice ak (acN p t).ks.length ck, .int .i64 (acN p t).r]) ∧ Below w.heap.size w w' := by
  obtain ⟨a, cap, e, hm, hc⟩ := hp.2
  injection e with e1 e2 e3
  subst e1 e3
  obtain ⟨b, off, av, rfl, hbw, c0, ha⟩ := hc bn hbn
  obtain ⟨aa, ac, hav, hma, hac⟩ := ha
  subst hav
  have hA : acts p t = nth [] p.bodies bn := by unfold acts; rw [hb]; rfl
  have hbw1 : b < w.heap.size + 1 := by omega
  have hbw2' : b < w.heap.size + 1 + 1 := by omega
  have hbl : (bn : Int) < (p.bodies.length : Int) := by omega
  have hal : (nth [] p.bodies bn).length ≤ 9223372036854775807 := hma
  clear hc hp
  by_cases he : pn = (nth [] p.bodies bn).length
  · have HN : Hid (acN p t = Ac.z) := by unfold Hid acN; rw [if_pos (by rw [hA, hpc, he])]
    have he' : ((pn : Int) == ((nth [] p.bodies bn).length : Int)) = true := by rw [he]; simp
    have he2 : (pn : Int) = ((nth [] p.bodies bn).length : Int) := by rw [he]
    clear hac hpc hA he
    rw [HN.out]
    go_enter Try.func124, Try.ntmps124
    go_wp2_with fail
    refine bodyPost_ret (v := .agg #[.int .i64 0, .slice none 0 0, .slice none 0 0, .int .i64 0]) (by simp [results, Try.results124, go_sem]) rfl ⟨⟨none, 0, none, 0, rfl⟩, (by repeat (first | with_reducible exact Below.refl _ _ | (with_reducible refine Below.setCell ?_ ?hs _; case hs => ((try simp); try omega)) | (with_reducible refine Below.alloc ?_ ?hs _; case hs => ((try simp); try omega)) | with_reducible refine Below.drew ?_))⟩
  · have hlt : pn < (nth [] p.bodies bn).length := by omega
    obtain ⟨b2, off2, dv, kv, rfl, hbw2, d0, d1, d2, d3, hd, hk⟩ := hac pn hlt
    obtain ⟨ad, cd, rfl, _⟩ := hd.shape
    obtain ⟨ak, ck, rfl, _⟩ := hk.shape
    have hbx1 : b2 < w.heap.size + 1 := by omega
    have hbx2 : b2 < w.heap.size + 1 + 1 := by omega
    have HN : Hid (acN p t = nth Ac.z (nth [] p.bodies bn) pn) := by unfold Hid acN; rw [if_neg (by rw [hA, hpc]; omega), hA, hpc]; rfl
    have he' : ((pn : Int) == ((nth [] p.bodies bn).length : Int)) = false := by simp; omega
    have he2 : ¬ (pn : Int) = ((nth [] p.bodies bn).length : Int) := by omega
    have hlt' : (pn : Int) < ((nth [] p.bodies bn).length : Int) := by omega
    clear hac hA hd hk he
    rw [HN.out]
    go_enter Try.func124, Try.ntmps124
    go_wp2_with fail
    refine bodyPost_ret (v := .agg #[.int .i64 (nth Ac.z (nth [] p.bodies bn) pn).k, .slice ad (nth Ac.z (nth [] p.bodies bn) pn).ds.length cd, .slice ak (nth Ac.z (nth [] p.bodies bn) pn).ks.length ck, .int .i64 (nth Ac.z (nth [] p.bodies bn) pn).r]) (by simp [results, Try.results124, go_sem]) rfl ⟨⟨ad, cd, ak, ck, rfl⟩, (by repeat (first | with_reducible exact Below.refl _ _ | (with_reducible refine Below.setCell ?_ ?hs _; case hs => ((try simp); try omega)) | (with_reducible refine Below.alloc ?_ ?hs _; case hs => ((try simp); try omega)) | with_reducible refine Below.drew ?_))⟩
theorem actNext_v (p : Pr) (pa0 pa1 : Option Addr) (pc0 pc1 : Nat) (t : Ta) (x0 x1 x2 x4 x5 x6 x7 x11 x12 : Int) (n3 n8 n9 n10 : Nat) (a3 a8 a9 a10 : Option Addr) (c3 c8 c9 c10 : Nat) (bn pn : Nat) (w : World) (hp : PrAt w (.slice pa0 p.cells.length pc0) (.slice pa1 p.bodies.length pc1) p) (hb : t.body = (bn : Int)) (hbn : bn < p.bodies.length) (hpc : t.pc = (pn : Int)) (hpn : pn ≤ (nth [] p.bodies bn).length) (h0 : x0 = (bn : Int)) (h1 : x1 = (pn : Int)) :
    Calls Try.prog 124 #[.agg #[.slice pa0 p.cells.length pc0, .slice pa1 p.bodies.length pc1], .agg #[.int .i64 x0, .int .i64 x1, .int .i64 x2, .slice a3 n3 c3, .int .i64 x4, .int .i64 x5, .int .i64 x6, .int .i64 x7, .slice a8 n8 c8, .slice a9 n9 c9, .slice a10 n10 c10, .int .i64 x11, .int .i64 x12]] w fun r w' => ∃ ad cd ak ck, r = .returned (.agg #[.int .i64 (acN p t).k, .slice ad (acN p t).ds.length cd, .slice ak (acN p t).ks.length ck, .int .i64 (acN p t).r]) ∧ Below w.heap.size w w' := by
  subst h0 h1
  exact actNext_g p pa0 pa1 pc0 pc1 t x2 x4 x5 x6 x7 x11 x12 n3 n8 n9 n10 a3 a8 a9 a10 c3 c8 c9 c10 bn pn w hp hb hbn hpc hpn
end Go.Proofs.Ytgbgjljflgbcaaa

namespace Go.Proofs.Ytgbgjljflgbcaaa
open Go.RowKit
set_option linter.unusedSimpArgs false
set_option linter.unusedVariables false
set_option maxRecDepth 20000
end Go.Proofs.Ytgbgjljflgbcaaa

namespace Go.Proofs.Ytgbgjljflgbcaaa
open Go.RowKit
set_option linter.unusedSimpArgs false
set_option linter.unusedVariables false
set_option maxRecDepth 20000
end Go.Proofs.Ytgbgjljflgbcaaa

namespace Go.Proofs.Ytgbgjljflgbcaaa
open Go.RowKit
set_option linter.unusedSimpArgs false
set_option linter.unusedVariables false
end Go.Proofs.Ytgbgjljflgbcaaa

namespace Go.Proofs.Ytgbgjljflgbcaaa
open Go.RowKit
set_option linter.unusedSimpArgs false
set_option linter.unusedVariables false
def Small (a : Ac) : Prop := a.ds.length ≤ 1048576 ∧ a.ks.length ≤ 1048576
def SmallB (acts : List Ac) : Prop := acts.length ≤ 1048576 ∧ ∀ j, j < acts.length → Small (nth Ac.z acts j)
def SmallP (p : Pr) : Prop := p.cells.length ≤ 1048576 ∧ p.bodies.length ≤ 1048576 ∧ ∀ j, j < p.bodies.length → SmallB (nth [] p.bodies j)
end Go.Proofs.Ytgbgjljflgbcaaa

namespace Go.Proofs.Ytgbgjljflgbcaaa
open Go.RowKit
set_option linter.unusedSimpArgs false
set_option linter.unusedVariables false
set_option maxRecDepth 20000
end Go.Proofs.Ytgbgjljflgbcaaa

namespace Go.Proofs.Ytgbgjljflgbcaaa
open Go.RowKit
set_option linter.unusedSimpArgs false
set_option linter.unusedVariables false
end Go.Proofs.Ytgbgjljflgbcaaa

namespace Go.Proofs.Ytgbgjljflgbcaaa
open Go.RowKit
set_option linter.unusedSimpArgs false
set_option linter.unusedVariables false
set_option maxRecDepth 20000
def SmSy (s : Sy) : Prop := s.cells.length ≤ 1048576 ∧ SmsTa s.tasks ∧ SmsEn s.log
end Go.Proofs.Ytgbgjljflgbcaaa

namespace Go.Proofs.Ytgbgjljflgbcaaa
open Go.RowKit
set_option linter.unusedSimpArgs false
set_option linter.unusedVariables false
end Go.Proofs.Ytgbgjljflgbcaaa

namespace Go.Proofs.Ytgbgjljflgbcaaa
open Go.RowKit
set_option linter.unusedSimpArgs false
set_option linter.unusedVariables false
set_option maxRecDepth 20000
end Go.Proofs.Ytgbgjljflgbcaaa

namespace Go.Proofs.Ytgbgjljflgbcaaa
open Go.RowKit
set_option linter.unusedSimpArgs false
set_option linter.unusedVariables false
def SyAt (w : World) (cv tv lv : Value) (s : Sy) : Prop := CesAt w cv s.cells ∧ TasAt w tv s.tasks ∧ EnsAt w lv s.log
def SyOn (S : Nat → Prop) (w : World) (cv tv lv : Value) (s : Sy) : Prop := CesOn S w cv s.cells ∧ TasOn S w tv s.tasks ∧ EnsOn S w lv s.log
theorem SyAt.mono {w w' : World} {cv tv lv : Value} {s : Sy} (h : SyAt w cv tv lv s) (hb : Below w.heap.size w w') : SyAt w' cv tv lv s := ⟨h.1.mono hb, h.2.1.mono hb, h.2.2.mono hb⟩
theorem SyOn.at {S : Nat → Prop} {w : World} {cv tv lv : Value} {s : Sy} (h : SyOn S w cv tv lv s) : SyAt w cv tv lv s := ⟨h.1.at, h.2.1.at, h.2.2.at⟩
end Go.Proofs.Ytgbgjljflgbcaaa

namespace Go.Proofs.Ytgbgjljflgbcaaa
open Go.RowKit
set_option linter.unusedSimpArgs false
set_option linter.unusedVariables false
end Go.Proofs.Ytgbgjljflgbcaaa
