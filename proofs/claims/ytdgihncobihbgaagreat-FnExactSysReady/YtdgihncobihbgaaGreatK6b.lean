/-
  Small functions that SysOk asks: the model, further (by mky.py).
-/
import Derived.Test.YtdgihncobihbgaaGreatK6
namespace Go.Proofs.YtdgihncobihbgaaGreat
open Go.RowKit
set_option linter.unusedSimpArgs false
set_option linter.unusedVariables false
set_option maxRecDepth 20000

set_option maxHeartbeats 8000000 in
theorem l12At_any (t : Ta) (a3 a8 a9 a10 : Option Addr) (c3 c8 c9 c10 : Nat) (n : Nat) (w : World) (hs : t.stage = 0 ∨ t.stage = 1 ∨ t.stage = 2 ∨ t.stage = 3 ∨ t.stage = 4 ∨ t.stage = 5) (nr : t.reads.length ≤ 1048576) (nu : t.puts.length ≤ 1048576) :
    Calls Tryz.prog 90 #[.agg #[.int .i64 t.body, .int .i64 t.pc, .int .i64 t.up, .slice a3 t.regs.length c3, .int .i64 t.way, .int .i64 t.stage, .int .i64 t.at_, .int .i64 t.since, .slice a8 t.old.length c8, .slice a9 t.reads.length c9, .slice a10 t.puts.length c10, .int .i64 t.when_, .int .i64 t.from_], .int .i64 (n : Int)] w fun r w' => r = .returned (.bool (mAtB t n)) ∧ Below w.heap.size w w' := by
  by_cases ha : t.at_ = 0
  · have ha' : (t.at_ == 0) = true := by simp [ha]
    have HA := (show Hid (_ = _) from ha)
    clear ha
    cases g4 : inB t.at_ 0 t.reads.length
    all_goals
      have g4z : Hid (inB 0 0 (t.reads.length : Int) = inB t.at_ 0 t.reads.length) := by unfold Hid; rw [HA.out]
      rw [g4] at g4z
      rcases hs with e | e | e | e | e | e
      all_goals
        rw [e]
        go_enter Tryz.func90, Tryz.ntmps90
        go_wp2_with (go_at_call 29; refine (l6In_any _ _ _ _).mono ?_; rintro e w' ⟨rfl, hw⟩; have hw := hw.symm; subst hw)
        go_ret
        exact ⟨by simp [mAtB, e, HA.out, g4z.out, in_pl] <;> first | rfl | omega | (rw [Bool.eq_iff_iff]; simp; omega) | (cases hr : t.reads <;> cases hu : t.puts <;> simp <;> omega), (by repeat (first | with_reducible exact Below.refl _ _ | (with_reducible refine Below.setCell ?_ ?hs _; case hs => ((try simp); try omega)) | (with_reducible refine Below.alloc ?_ ?hs _; case hs => ((try simp); try omega)) | with_reducible refine Below.drew ?_))⟩
  · have ha' : (t.at_ == 0) = false := by simp [ha]
    cases g4 : inB t.at_ 0 t.reads.length
    all_goals
      rcases hs with e | e | e | e | e | e
      all_goals
        rw [e]
        go_enter Tryz.func90, Tryz.ntmps90
        go_wp2_with (go_at_call 29; refine (l6In_any _ _ _ _).mono ?_; rintro e w' ⟨rfl, hw⟩; have hw := hw.symm; subst hw)
        go_ret
        exact ⟨by simp [mAtB, e, ha, g4, in_pl] <;> first | rfl | omega | (rw [Bool.eq_iff_iff]; simp; omega) | (cases hr : t.reads <;> cases hu : t.puts <;> simp <;> omega), (by repeat (first | with_reducible exact Below.refl _ _ | (with_reducible refine Below.setCell ?_ ?hs _; case hs => ((try simp); try omega)) | (with_reducible refine Below.alloc ?_ ?hs _; case hs => ((try simp); try omega)) | with_reducible refine Below.drew ?_))⟩

set_option maxHeartbeats 8000000 in
theorem l12Times_any (t : Ta) (a3 a8 a9 a10 : Option Addr) (c3 c8 c9 c10 : Nat) (s : Sy) (sa0 sa1 sa3 : Option Addr) (sc0 sc1 sc3 : Nat) (w : World) (hs : t.stage = 0 ∨ t.stage = 1 ∨ t.stage = 2 ∨ t.stage = 3 ∨ t.stage = 4 ∨ t.stage = 5) (h0 : 0 ≤ s.clock) (h200 : s.clock ≤ 200) (hll : s.log.length ≤ 1048576) :
    Calls Tryz.prog 61 #[.agg #[.int .i64 t.body, .int .i64 t.pc, .int .i64 t.up, .slice a3 t.regs.length c3, .int .i64 t.way, .int .i64 t.stage, .int .i64 t.at_, .int .i64 t.since, .slice a8 t.old.length c8, .slice a9 t.reads.length c9, .slice a10 t.puts.length c10, .int .i64 t.when_, .int .i64 t.from_], .agg #[.slice sa0 s.cells.length sc0, .slice sa1 s.tasks.length sc1, .int .i64 s.clock, .slice sa3 s.log.length sc3]] w fun r w' => r = .returned (.bool (mWhB t s)) ∧ Below w.heap.size w w' := by
  cases g1 : inB t.since 0 s.clock
  · have HF : Hid (mWhB t s = false) := by unfold Hid mWhB; simp [g1]
    clear hs
    go_enter Tryz.func61, Tryz.ntmps61
    go_wp2_with (go_at_call 29; refine (l6In_any _ _ _ _).mono ?_; rintro e w' ⟨rfl, hw⟩; have hw := hw.symm; subst hw)
    go_ret
    exact ⟨by rw [HF.out]; rfl, (by repeat (first | with_reducible exact Below.refl _ _ | (with_reducible refine Below.setCell ?_ ?hs _; case hs => ((try simp); try omega)) | (with_reducible refine Below.alloc ?_ ?hs _; case hs => ((try simp); try omega)) | with_reducible refine Below.drew ?_))⟩
  cases g2 : inB t.from_ 0 s.log.length
  · have HF : Hid (mWhB t s = false) := by unfold Hid mWhB; simp [g2]
    clear hs
    go_enter Tryz.func61, Tryz.ntmps61
    go_wp2_with (go_at_call 29; refine (l6In_any _ _ _ _).mono ?_; rintro e w' ⟨rfl, hw⟩; have hw := hw.symm; subst hw)
    go_ret
    exact ⟨by rw [HF.out]; rfl, (by repeat (first | with_reducible exact Below.refl _ _ | (with_reducible refine Below.setCell ?_ ?hs _; case hs => ((try simp); try omega)) | (with_reducible refine Below.alloc ?_ ?hs _; case hs => ((try simp); try omega)) | with_reducible refine Below.drew ?_))⟩
  have hs1 : 0 ≤ t.since := by rw [inB] at g1; simp at g1; omega
  have hs2 : t.since ≤ 200 := by rw [inB] at g1; simp at g1; omega
  rcases hs with e | e | e | e | e | e
  all_goals
    have E5 := (show Hid (t.stage = _) from e)
    rw [e]
    go_enter Tryz.func61, Tryz.ntmps61
    go_wp2_with (go_at_call 29; refine (l6In_any _ _ _ _).mono ?_; rintro e w' ⟨rfl, hw⟩; have hw := hw.symm; subst hw)
    go_ret
    exact ⟨by simp [mWhB, E5.out, g1, g2] <;> first | rfl | omega, (by repeat (first | with_reducible exact Below.refl _ _ | (with_reducible refine Below.setCell ?_ ?hs _; case hs => ((try simp); try omega)) | (with_reducible refine Below.alloc ?_ ?hs _; case hs => ((try simp); try omega)) | with_reducible refine Below.drew ?_))⟩

theorem kin_snoc (ts : List Ta) (i way : Int) (t : Ta) : kin (ts ++ [t]) i way = kin ts i way + if t.up = i ∧ t.way = way then 1 else 0 := by
  unfold kin
  rw [List.filter_append, List.length_append]
  by_cases h1 : t.up = i <;> by_cases h2 : t.way = way <;> simp [h1, h2]
theorem kin_le (ts : List Ta) (i way : Int) : kin ts i way ≤ ts.length := List.length_filter_le _ _
set_option maxHeartbeats 4000000 in
theorem kids_any (X : Nat) (ts : List Ta) (sa : Option Addr) (sc : Nat) (i way : Int) (w : World) (hX : w.cell? ⟨X, 3, none⟩ = some (.slice sa ts.length sc)) (hT : TasAt w (.slice sa ts.length sc) ts) :
    Calls Tryz.prog 83 #[.pointer (some ⟨X, 0, none⟩), .int .i64 i, .int .i64 way] w fun r w' => r = .returned (.int .i64 (kin ts i way)) ∧ w' = w := by
  obtain ⟨a, cap, e, hm, hc⟩ := hT
  injection e with e1 e2 e3
  subst e1 e3
  clear e2
  go_enter Tryz.func83, Tryz.ntmps83
  go_wp2_with fail
  go_loop [7, 8] (fun u q => ∃ (k n : Nat), k ≤ ts.length ∧ q = .int .i64 k ∧ u = .int .i64 n ∧ n = kin (ts.take k) i way) (fun _ q => ts.length - (intOf q).toNat)
  case atStart => exact ⟨0, 0, Nat.zero_le _, rfl, rfl, by simp [kin]⟩
  case round =>
    obtain ⟨k, n, hk, rfl, rfl, hn⟩ := hrel
    have hnk : n ≤ k := by rw [hn]; exact Nat.le_trans (kin_le _ _ _) (List.length_take_le _ _)
    have HN := (show Hid (n = _) from hn)
    clear hn
    by_cases hlt : k < ts.length
    · have hlt' : (k : Int) < (ts.length : Int) := by omega
      obtain ⟨b, off, v3, v8, v9, v10, rfl, hbw, c0, c1, c2, c3, c4, _⟩ := hc k hlt
      have HS : Hid (kin (ts.take (k + 1)) i way = kin (ts.take k) i way + if (nth Ta.z ts k).up = i ∧ (nth Ta.z ts k).way = way then 1 else 0) := by unfold Hid; rw [take_nth Ta.z _ _ hlt]; exact kin_snoc _ _ _ _
      clear hc
      by_cases q1 : (nth Ta.z ts k).up = i
      · have q1' : ((nth Ta.z ts k).up == i) = true := by simp [q1]
        by_cases q2 : (nth Ta.z ts k).way = way
        · have q2' : ((nth Ta.z ts k).way == way) = true := by simp [q2]
          have HS' : Hid (kin (ts.take (k + 1)) i way = n + 1) := by unfold Hid; rw [HS.out, ← HN.out]; simp [q1, q2]
          have Q1 := (show Hid (_ = i) from q1)
          have Q2 := (show Hid (_ = way) from q2)
          clear q1 q2
          go_wp2_with fail
          go_round
          case rel => exact ⟨k + 1, n + 1, by omega, by go_num, by go_num, HS'.out.symm⟩
          case measure => simp [intOf]; omega
        · have q2' : ((nth Ta.z ts k).way == way) = false := by simp [q2]
          have HS' : Hid (kin (ts.take (k + 1)) i way = n) := by unfold Hid; rw [HS.out, ← HN.out]; simp [q2]
          have Q1 := (show Hid (_ = i) from q1)
          clear q1
          go_wp2_with fail
          go_round
          case rel => exact ⟨k + 1, n, by omega, by go_num, rfl, HS'.out.symm⟩
          case measure => simp [intOf]; omega
      · have q1' : ((nth Ta.z ts k).up == i) = false := by simp [q1]
        have HS' : Hid (kin (ts.take (k + 1)) i way = n) := by unfold Hid; rw [HS.out, ← HN.out]; simp [q1]
        go_wp2_with fail
        go_round
        case rel => exact ⟨k + 1, n, by omega, by go_num, rfl, HS'.out.symm⟩
        case measure => simp [intOf]; omega
    · have HF : Hid (kin ts i way = n) := by
        have := HN.out; rw [List.take_of_length_le (by omega)] at this; exact this.symm
      clear hc
      go_wp2_with fail
      go_ret
      exact ⟨by rw [HF.out]; rfl, rfl⟩

set_option maxHeartbeats 4000000 in
theorem l12Up_any (s : Sy) (sa0 sa1 sa3 : Option Addr) (sc0 sc1 sc3 : Nat) (i : Nat) (w : World) (hT : TasAt w (.slice sa1 s.tasks.length sc1) s.tasks) (hi : i < s.tasks.length) :
    Calls Tryz.prog 62 #[.agg #[.slice sa0 s.cells.length sc0, .slice sa1 s.tasks.length sc1, .int .i64 s.clock, .slice sa3 s.log.length sc3], .int .i64 (i : Int)] w fun r w' => r = .returned (.bool (upfB s i)) ∧ Below w.heap.size w w' := by
  obtain ⟨a, cap, e, hm, hc⟩ := hT
  injection e with e1 e2 e3
  subst e1 e3
  have hi' : (i : Int) < (s.tasks.length : Int) := by omega
  obtain ⟨b, off, v3, v8, v9, v10, rfl, hbw, c0, c1, c2, c3, c4, c5, c6, c7, c8, c9, c10, c11, c12, h3, h8, h9, h10⟩ := hc i hi
  obtain ⟨a3, e3, rfl, _⟩ := h3.shape
  obtain ⟨a8, e8, rfl, _⟩ := h8.shape
  obtain ⟨a9, e9, rfl, _⟩ := h9.shape
  obtain ⟨a10, e10, rfl, _⟩ := h10.shape
  clear h3 h8 h9 h10
  have hbw1 : b < w.heap.size + 1 := by omega
  by_cases hz : i = 0
  · have HF : Hid (upfB s i = decide ((nth Ta.z s.tasks i).up = -1)) := by unfold Hid upfB; rw [if_pos hz]; rfl
    have hz' : ((i : Int) == 0) = true := by simp [hz]
    clear hz hc
    go_enter Tryz.func62, Tryz.ntmps62
    go_wp2_with fail
    go_ret
    exact ⟨by rw [HF.out]; rfl, (by repeat (first | with_reducible exact Below.refl _ _ | (with_reducible refine Below.setCell ?_ ?hs _; case hs => ((try simp); try omega)) | (with_reducible refine Below.alloc ?_ ?hs _; case hs => ((try simp); try omega)) | with_reducible refine Below.drew ?_))⟩
  have hz' : ((i : Int) == 0) = false := by simp [hz]
  have hz2 : ¬ (i : Int) = 0 := by omega
  cases g1 : inB (nth Ta.z s.tasks i).up 0 ((i : Int) - 1)
  · have HF : Hid (upfB s i = false) := by rw [in_pl] at g1; unfold Hid upfB tkN; rw [if_neg hz, g1]; rfl
    have G1 := (show Hid (_ = _) from g1)
    clear hz hc g1
    go_enter Tryz.func62, Tryz.ntmps62
    go_wp2_with (go_at_call 29; refine (l6In_b G1.out _).mono ?_; rintro e w' ⟨rfl, hw⟩; have hw := hw.symm; subst hw)
    go_ret
    exact ⟨by rw [HF.out]; rfl, (by repeat (first | with_reducible exact Below.refl _ _ | (with_reducible refine Below.setCell ?_ ?hs _; case hs => ((try simp); try omega)) | (with_reducible refine Below.alloc ?_ ?hs _; case hs => ((try simp); try omega)) | with_reducible refine Below.drew ?_))⟩
  have p1 := g1
  rw [in_pl] at p1
  obtain ⟨un, hun⟩ : ∃ un : Nat, (nth Ta.z s.tasks i).up = (un : Int) := ⟨(nth Ta.z s.tasks i).up.toNat, by rw [plB] at p1; simp at p1; omega⟩
  have hui : un < s.tasks.length := by rw [plB] at p1; simp at p1; omega
  have hui' : (un : Int) < (s.tasks.length : Int) := by omega
  have G1 : Hid (inB (un : Int) 0 ((i : Int) - 1) = true) := by unfold Hid; rw [← hun]; exact g1
  obtain ⟨b', off', u3, u8, u9, u10, e', hbw', d0, d1, d2, d3, d4, _⟩ := hc un hui
  injection e' with e2; injection e2 with e5 e6; subst e5 e6
  have HF : Hid (upfB s i = (!liB (nth Ta.z s.tasks i) || decide ((nth Ta.z s.tasks un).way = 1))) := by unfold Hid upfB tkN; rw [if_neg hz, p1, hun]; rfl
  clear hz hc g1 p1 d0 d1 d2 d3
  by_cases q1 : (nth Ta.z s.tasks i).way = 0
  · have q1' : ((nth Ta.z s.tasks i).way == 0) = true := by simp [q1]
    have HL : Hid (liB (nth Ta.z s.tasks i) = true) := by simp [Hid, liB, q1]
    have Q1 := (show Hid (_ = _) from q1)
    clear q1
    go_enter Tryz.func62, Tryz.ntmps62
    go_wp2_with (go_at_call 29; refine (l6In_b G1.out _).mono ?_; rintro e w' ⟨rfl, hw⟩; have hw := hw.symm; subst hw)
    go_ret
    exact ⟨by rw [HF.out, HL.out]; rfl, (by repeat (first | with_reducible exact Below.refl _ _ | (with_reducible refine Below.setCell ?_ ?hs _; case hs => ((try simp); try omega)) | (with_reducible refine Below.alloc ?_ ?hs _; case hs => ((try simp); try omega)) | with_reducible refine Below.drew ?_))⟩
  have q1' : ((nth Ta.z s.tasks i).way == 0) = false := by simp [q1]
  by_cases q2 : (nth Ta.z s.tasks i).way = 1
  · have q2' : ((nth Ta.z s.tasks i).way == 1) = true := by simp [q2]
    have HL : Hid (liB (nth Ta.z s.tasks i) = true) := by simp [Hid, liB, q2]
    have Q2 := (show Hid (_ = _) from q2)
    clear q2
    go_enter Tryz.func62, Tryz.ntmps62
    go_wp2_with (go_at_call 29; refine (l6In_b G1.out _).mono ?_; rintro e w' ⟨rfl, hw⟩; have hw := hw.symm; subst hw)
    go_ret
    exact ⟨by rw [HF.out, HL.out]; rfl, (by repeat (first | with_reducible exact Below.refl _ _ | (with_reducible refine Below.setCell ?_ ?hs _; case hs => ((try simp); try omega)) | (with_reducible refine Below.alloc ?_ ?hs _; case hs => ((try simp); try omega)) | with_reducible refine Below.drew ?_))⟩
  · have q2' : ((nth Ta.z s.tasks i).way == 1) = false := by simp [q2]
    have HL : Hid (liB (nth Ta.z s.tasks i) = false) := by simp [Hid, liB, q1, q2]
    go_enter Tryz.func62, Tryz.ntmps62
    go_wp2_with (go_at_call 29; refine (l6In_b G1.out _).mono ?_; rintro e w' ⟨rfl, hw⟩; have hw := hw.symm; subst hw)
    go_ret
    exact ⟨by rw [HF.out, HL.out]; rfl, (by repeat (first | with_reducible exact Below.refl _ _ | (with_reducible refine Below.setCell ?_ ?hs _; case hs => ((try simp); try omega)) | (with_reducible refine Below.alloc ?_ ?hs _; case hs => ((try simp); try omega)) | with_reducible refine Below.drew ?_))⟩

end Go.Proofs.YtdgihncobihbgaaGreat
