/-
  How great systems are (by mky.py).
-/
import Derived.Test.YteebdfifbmpmhaaY1
import Derived.Test.YteebdfifbmpmhaaX4
namespace Go.Proofs.Yteebdfifbmpmhaa
open Go.RowKit
set_option linter.unusedSimpArgs false
set_option linter.unusedVariables false
set_option maxRecDepth 20000
set_option maxHeartbeats 400000 in
theorem szPutS_th (a : Option Addr) (n cap : Nat) (l : Int) (w : World) (hn : n ≤ 9223372036854775807) (h0 : 0 ≤ l) (h1 : l ≤ 1048576) :
    Calls Try.prog 98 #[.slice a n cap, .int .i64 l] w fun r w' => ∃ q : Int, r = .returned (.int .i64 q) ∧ -1 ≤ q ∧ q ≤ 1048576 ∧ (0 ≤ q → n ≤ 1048576) ∧ w' = w := by
  by_cases h : l - n < 0
  · go_enter Try.func98, Try.ntmps98
    go_wp2_with fail
    go_ret
    exact ⟨_, rfl, by omega, by omega, by omega, rfl⟩
  · go_enter Try.func98, Try.ntmps98
    go_wp2_with fail
    go_ret
    exact ⟨_, rfl, by omega, by omega, by omega, rfl⟩

set_option maxHeartbeats 400000 in
theorem szCellS_th (a : Option Addr) (n cap : Nat) (l : Int) (w : World) (hn : n ≤ 9223372036854775807) (h0 : 0 ≤ l) (h1 : l ≤ 1048576) :
    Calls Try.prog 49 #[.slice a n cap, .int .i64 l] w fun r w' => ∃ q : Int, r = .returned (.int .i64 q) ∧ -1 ≤ q ∧ q ≤ 1048576 ∧ (0 ≤ q → n ≤ 1048576) ∧ w' = w := by
  by_cases h : l - n < 0
  · go_enter Try.func49, Try.ntmps49
    go_wp2_with fail
    go_ret
    exact ⟨_, rfl, by omega, by omega, by omega, rfl⟩
  · go_enter Try.func49, Try.ntmps49
    go_wp2_with fail
    go_ret
    exact ⟨_, rfl, by omega, by omega, by omega, rfl⟩

theorem szIntS_th (a : Option Addr) (n cap : Nat) (l : Int) (w : World) (hn : n ≤ 9223372036854775807) (h0 : 0 ≤ l) (h1 : l ≤ 1048576) :
    Calls Try.prog 30 #[.slice a n cap, .int .i64 l] w fun r w' => ∃ q : Int, r = .returned (.int .i64 q) ∧ -1 ≤ q ∧ q ≤ 1048576 ∧ (0 ≤ q → n ≤ 1048576) ∧ w' = w := szIntS_any a n cap l w hn h0 h1
set_option maxHeartbeats 400000 in
theorem szTask_th (x : Ta) (a3 : Option Addr) (c3 : Nat) (a8 : Option Addr) (c8 : Nat) (a9 : Option Addr) (c9 : Nat) (a10 : Option Addr) (c10 : Nat) (l : Int) (w : World) (m3 : x.regs.length ≤ 9223372036854775807) (m8 : x.old.length ≤ 9223372036854775807) (m9 : x.reads.length ≤ 9223372036854775807) (m10 : x.puts.length ≤ 9223372036854775807) (h0 : 0 ≤ l) (h1 : l ≤ 1048576) :
    Calls Try.prog 80 #[.agg #[.int .i64 x.body, .int .i64 x.pc, .int .i64 x.up, .slice a3 x.regs.length c3, .int .i64 x.way, .int .i64 x.stage, .int .i64 x.at_, .int .i64 x.since, .slice a8 x.old.length c8, .slice a9 x.reads.length c9, .slice a10 x.puts.length c10, .int .i64 x.when_, .int .i64 x.from_], .int .i64 l] w fun r w' => ∃ q : Int, r = .returned (.int .i64 q) ∧ -1 ≤ q ∧ q ≤ 1048576 ∧ (0 ≤ q → SmTa x) ∧ Below w.heap.size w w' := by
  go_enter Try.func80, Try.ntmps80
  go_wp2_with fail
  refine (szIntS_th _ _ _ l _ m3 h0 h1).mono ?_
  rintro e w1 ⟨q3, rfl, p3, r3, s3, rfl⟩
  by_cases g3 : q3 < 0
  · go_wp2_with fail
    go_ret
    exact ⟨_, rfl, by omega, by omega, by omega, (by repeat (first | exact Below.refl _ _ | refine Below.alloc ?_ (by simp; try omega) _ | refine Below.drew ?_ | refine Below.setCell ?_ (by simp; try omega) _))⟩
  have t3 := s3 (by omega)
  clear s3
  go_wp2_with fail
  refine (szIntS_th _ _ _ q3 _ m8 (by omega) r3).mono ?_
  rintro e w2 ⟨q8, rfl, p8, r8, s8, rfl⟩
  by_cases g8 : q8 < 0
  · go_wp2_with fail
    go_ret
    exact ⟨_, rfl, by omega, by omega, by omega, (by repeat (first | exact Below.refl _ _ | refine Below.alloc ?_ (by simp; try omega) _ | refine Below.drew ?_ | refine Below.setCell ?_ (by simp; try omega) _))⟩
  have t8 := s8 (by omega)
  clear s8
  go_wp2_with fail
  refine (szPutS_th _ _ _ q8 _ m9 (by omega) r8).mono ?_
  rintro e w3 ⟨q9, rfl, p9, r9, s9, rfl⟩
  by_cases g9 : q9 < 0
  · go_wp2_with fail
    go_ret
    exact ⟨_, rfl, by omega, by omega, by omega, (by repeat (first | exact Below.refl _ _ | refine Below.alloc ?_ (by simp; try omega) _ | refine Below.drew ?_ | refine Below.setCell ?_ (by simp; try omega) _))⟩
  have t9 := s9 (by omega)
  clear s9
  go_wp2_with fail
  refine (szPutS_th _ _ _ q9 _ m10 (by omega) r9).mono ?_
  rintro e w4 ⟨q10, rfl, p10, r10, s10, rfl⟩
  by_cases g10 : q10 < 0
  · go_wp2_with fail
    go_ret
    exact ⟨_, rfl, by omega, by omega, by omega, (by repeat (first | exact Below.refl _ _ | refine Below.alloc ?_ (by simp; try omega) _ | refine Below.drew ?_ | refine Below.setCell ?_ (by simp; try omega) _))⟩
  have t10 := s10 (by omega)
  clear s10
  go_wp2_with fail
  go_ret
  exact ⟨_, rfl, by omega, by omega, fun _ => ⟨t3, t8, t9, t10⟩, (by repeat (first | exact Below.refl _ _ | refine Below.alloc ?_ (by simp; try omega) _ | refine Below.drew ?_ | refine Below.setCell ?_ (by simp; try omega) _))⟩

set_option maxHeartbeats 1000000 in
theorem szTaskS_th (v : Value) (xs : List Ta) (l : Int) (w : World) (h : TasAt w v xs) (h0 : 0 ≤ l) (h1 : l ≤ 1048576) :
    Calls Try.prog 50 #[v, .int .i64 l] w fun r w' => ∃ q : Int, r = .returned (.int .i64 q) ∧ -1 ≤ q ∧ q ≤ 1048576 ∧ (0 ≤ q → SmsTa xs) ∧ Below w.heap.size w w' := by
  obtain ⟨a, cap, rfl, hm, hc⟩ := h
  by_cases hneg : l - xs.length < 0
  · clear hc
    go_enter Try.func50, Try.ntmps50
    go_wp2_with fail
    go_ret
    exact ⟨_, rfl, by omega, by omega, by omega, Below.refl _ _⟩
  go_enter Try.func50, Try.ntmps50
  go_wp2_with fail
  go_loopw [1, 5] (fun t q w' => ∃ (k : Nat) (m : Int), k ≤ xs.length ∧ q = .int .i64 k ∧ t = .int .i64 m ∧ 0 ≤ m ∧ m ≤ 1048576 ∧ Below w.heap.size w w' ∧ (∀ j, j < k → SmTa (nth Ta.z xs j))) (fun _ q _ => xs.length - (intOf q).toNat)
  case atStart => exact ⟨0, _, Nat.zero_le _, rfl, rfl, by omega, by omega, Below.refl _ _, fun j hj => absurd hj (Nat.not_lt_zero _)⟩
  case round =>
    obtain ⟨k, m, hk, rfl, rfl, m0, m1, hb, hall⟩ := hrel
    by_cases hlt : k < xs.length
    · obtain ⟨b, off, v3, v8, v9, v10, rfl, hbw, c0, c1, c2, c3, c4, c5, c6, c7, c8, c9, c10, c11, c12, h3, h8, h9, h10⟩ := hc k hlt
      rw [← hb.cell (p := ⟨b, _, none⟩) hbw] at c0 c1 c2 c3 c4 c5 c6 c7 c8 c9 c10 c11 c12
      obtain ⟨a3, e3, rfl, hm3⟩ := h3.shape
      obtain ⟨a8, e8, rfl, hm8⟩ := h8.shape
      obtain ⟨a9, e9, rfl, hm9⟩ := h9.shape
      obtain ⟨a10, e10, rfl, hm10⟩ := h10.shape
      clear hc h3 h8 h9 h10
      go_wp2_with fail
      refine (szTask_th (nth Ta.z xs k) _ _ _ _ _ _ _ _ m _ hm3 hm8 hm9 hm10 m0 m1).mono ?_
      rintro e w1 ⟨q, rfl, q1, q2, q3, hb1⟩
      have HW : Hid (Below w.heap.size w w1) := hb.trans (hb1.mono hb.size)
      have HQ : Hid (0 ≤ q → SmTa (nth Ta.z xs k)) := q3
      have HA : Hid (∀ j, j < k → SmTa (nth Ta.z xs j)) := hall
      clear hb hb1 c0 c1 c2 c3 c4 c5 c6 c7 c8 c9 c10 c11 c12 q3 hall
      by_cases hq : q < 0
      · go_wp2_with fail
        go_ret
        exact ⟨_, rfl, by omega, by omega, by omega, HW.out⟩
      · go_wp2_with fail
        go_roundw
        case rel => exact ⟨k + 1, q, by omega, by go_num, rfl, by omega, by omega, HW.out, so_far HA.out (HQ.out (by omega))⟩
        case measure => simp [intOf]; omega
    · have HS : Hid (SmsTa xs) := ⟨by omega, fun j hj => hall j (by omega)⟩
      clear hc hall
      go_wp2_with fail
      go_ret
      exact ⟨_, rfl, by omega, by omega, fun _ => HS.out, hb⟩

set_option maxHeartbeats 400000 in
theorem szEntry_th (x : En) (a3 : Option Addr) (c3 : Nat) (a4 : Option Addr) (c4 : Nat) (l : Int) (w : World) (m3 : x.reads.length ≤ 9223372036854775807) (m4 : x.puts.length ≤ 9223372036854775807) (h0 : 0 ≤ l) (h1 : l ≤ 1048576) :
    Calls Try.prog 81 #[.agg #[.int .i64 x.task, .int .i64 x.act, .int .i64 x.when_, .slice a3 x.reads.length c3, .slice a4 x.puts.length c4, .int .i64 x.from_], .int .i64 l] w fun r w' => ∃ q : Int, r = .returned (.int .i64 q) ∧ -1 ≤ q ∧ q ≤ 1048576 ∧ (0 ≤ q → SmEn x) ∧ Below w.heap.size w w' := by
  go_enter Try.func81, Try.ntmps81
  go_wp2_with fail
  refine (szPutS_th _ _ _ l _ m3 h0 h1).mono ?_
  rintro e w1 ⟨q3, rfl, p3, r3, s3, rfl⟩
  by_cases g3 : q3 < 0
  · go_wp2_with fail
    go_ret
    exact ⟨_, rfl, by omega, by omega, by omega, (by repeat (first | exact Below.refl _ _ | refine Below.alloc ?_ (by simp; try omega) _ | refine Below.drew ?_ | refine Below.setCell ?_ (by simp; try omega) _))⟩
  have t3 := s3 (by omega)
  clear s3
  go_wp2_with fail
  refine (szPutS_th _ _ _ q3 _ m4 (by omega) r3).mono ?_
  rintro e w2 ⟨q4, rfl, p4, r4, s4, rfl⟩
  by_cases g4 : q4 < 0
  · go_wp2_with fail
    go_ret
    exact ⟨_, rfl, by omega, by omega, by omega, (by repeat (first | exact Below.refl _ _ | refine Below.alloc ?_ (by simp; try omega) _ | refine Below.drew ?_ | refine Below.setCell ?_ (by simp; try omega) _))⟩
  have t4 := s4 (by omega)
  clear s4
  go_wp2_with fail
  go_ret
  exact ⟨_, rfl, by omega, by omega, fun _ => ⟨t3, t4⟩, (by repeat (first | exact Below.refl _ _ | refine Below.alloc ?_ (by simp; try omega) _ | refine Below.drew ?_ | refine Below.setCell ?_ (by simp; try omega) _))⟩

set_option maxHeartbeats 1000000 in
theorem szEntryS_th (v : Value) (xs : List En) (l : Int) (w : World) (h : EnsAt w v xs) (h0 : 0 ≤ l) (h1 : l ≤ 1048576) :
    Calls Try.prog 51 #[v, .int .i64 l] w fun r w' => ∃ q : Int, r = .returned (.int .i64 q) ∧ -1 ≤ q ∧ q ≤ 1048576 ∧ (0 ≤ q → SmsEn xs) ∧ Below w.heap.size w w' := by
  obtain ⟨a, cap, rfl, hm, hc⟩ := h
  by_cases hneg : l - xs.length < 0
  · clear hc
    go_enter Try.func51, Try.ntmps51
    go_wp2_with fail
    go_ret
    exact ⟨_, rfl, by omega, by omega, by omega, Below.refl _ _⟩
  go_enter Try.func51, Try.ntmps51
  go_wp2_with fail
  go_loopw [1, 5] (fun t q w' => ∃ (k : Nat) (m : Int), k ≤ xs.length ∧ q = .int .i64 k ∧ t = .int .i64 m ∧ 0 ≤ m ∧ m ≤ 1048576 ∧ Below w.heap.size w w' ∧ (∀ j, j < k → SmEn (nth En.z xs j))) (fun _ q _ => xs.length - (intOf q).toNat)
  case atStart => exact ⟨0, _, Nat.zero_le _, rfl, rfl, by omega, by omega, Below.refl _ _, fun j hj => absurd hj (Nat.not_lt_zero _)⟩
  case round =>
    obtain ⟨k, m, hk, rfl, rfl, m0, m1, hb, hall⟩ := hrel
    by_cases hlt : k < xs.length
    · obtain ⟨b, off, v3, v4, rfl, hbw, c0, c1, c2, c3, c4, c5, h3, h4⟩ := hc k hlt
      rw [← hb.cell (p := ⟨b, _, none⟩) hbw] at c0 c1 c2 c3 c4 c5
      obtain ⟨a3, e3, rfl, hm3⟩ := h3.shape
      obtain ⟨a4, e4, rfl, hm4⟩ := h4.shape
      clear hc h3 h4
      go_wp2_with fail
      refine (szEntry_th (nth En.z xs k) _ _ _ _ m _ hm3 hm4 m0 m1).mono ?_
      rintro e w1 ⟨q, rfl, q1, q2, q3, hb1⟩
      have HW : Hid (Below w.heap.size w w1) := hb.trans (hb1.mono hb.size)
      have HQ : Hid (0 ≤ q → SmEn (nth En.z xs k)) := q3
      have HA : Hid (∀ j, j < k → SmEn (nth En.z xs j)) := hall
      clear hb hb1 c0 c1 c2 c3 c4 c5 q3 hall
      by_cases hq : q < 0
      · go_wp2_with fail
        go_ret
        exact ⟨_, rfl, by omega, by omega, by omega, HW.out⟩
      · go_wp2_with fail
        go_roundw
        case rel => exact ⟨k + 1, q, by omega, by go_num, rfl, by omega, by omega, HW.out, so_far HA.out (HQ.out (by omega))⟩
        case measure => simp [intOf]; omega
    · have HS : Hid (SmsEn xs) := ⟨by omega, fun j hj => hall j (by omega)⟩
      clear hc hall
      go_wp2_with fail
      go_ret
      exact ⟨_, rfl, by omega, by omega, fun _ => HS.out, hb⟩

def SmSy (s : Sy) : Prop := s.cells.length ≤ 1048576 ∧ SmsTa s.tasks ∧ SmsEn s.log
set_option maxHeartbeats 1000000 in
theorem szSys_th (s : Sy) (cv tv lv : Value) (l : Int) (w : World) (hc : CesAt w cv s.cells) (ht : TasAt w tv s.tasks) (hl : EnsAt w lv s.log) (h0 : 0 ≤ l) (h1 : l ≤ 1048576) :
    Calls Try.prog 17 #[.agg #[cv, tv, .int .i64 s.clock, lv], .int .i64 l] w fun r w' => ∃ q : Int, r = .returned (.int .i64 q) ∧ -1 ≤ q ∧ q ≤ 1048576 ∧ (0 ≤ q → SmSy s) ∧ Below w.heap.size w w' := by
  obtain ⟨ac, cc, rfl, hmc⟩ := hc.shape
  obtain ⟨at', ct, rfl, hmt⟩ := ht.shape
  obtain ⟨al, cl, rfl, hml⟩ := hl.shape
  have HT := (show Hid (TasAt _ _ _) from ht)
  have HL := (show Hid (EnsAt _ _ _) from hl)
  clear hc ht hl
  go_enter Try.func17, Try.ntmps17
  go_wp2_with fail
  refine (szCellS_th _ _ _ l _ hmc h0 h1).mono ?_
  rintro e w1 ⟨q, rfl, q1, q2, q3, rfl⟩
  by_cases hq : q < 0
  · go_wp2_with fail
    go_ret
    exact ⟨_, rfl, by omega, by omega, by omega, (by repeat (first | exact Below.refl _ _ | refine Below.alloc ?_ (by simp; try omega) _ | refine Below.drew ?_ | refine Below.setCell ?_ (by simp; try omega) _))⟩
  have T0 := q3 (by omega)
  clear q3
  go_wp2_with fail
  refine (szTaskS_th _ s.tasks q _ (by exact TasAt.mono HT.out (by repeat (first | exact Below.refl _ _ | refine Below.alloc ?_ (by simp; try omega) _ | refine Below.drew ?_ | refine Below.setCell ?_ (by simp; try omega) _))) (by omega) q2).mono ?_
  rintro e w2 ⟨q', rfl, p1, p2, p3, hb2⟩
  have hz : w.heap.size < w2.heap.size := by have := hb2.size; (try simp at this); omega
  obtain ⟨hc2, hf2⟩ := bcell hb2
  have HB2 : Hid (Below w.heap.size w w2) := below_then (by repeat (first | exact Below.refl _ _ | refine Below.alloc ?_ (by simp; try omega) _ | refine Below.drew ?_ | refine Below.setCell ?_ (by simp; try omega) _)) (by simp) hb2
  have HP : Hid (0 ≤ q' → SmsTa s.tasks) := p3
  clear p3 hb2
  by_cases hq' : q' < 0
  · go_wp2_with fail
    go_ret
    exact ⟨_, rfl, by omega, by omega, by omega, HB2.out⟩
  go_wp2_with fail
  refine (szEntryS_th _ s.log q' _ (EnsAt.mono HL.out HB2.out) (by omega) p2).mono ?_
  rintro e w3 ⟨q'', rfl, r1, r2, r3, hb3⟩
  have HB3 : Hid (Below w.heap.size w w3) := below_then HB2.out HB2.out.size hb3
  have HR : Hid (0 ≤ q'' → SmSy s) := fun h => ⟨T0, HP.out (by omega), r3 h⟩
  clear r3 hb3 hc2 hf2
  by_cases hq'' : q'' < 0
  · go_wp2_with fail
    go_ret
    exact ⟨_, rfl, by omega, by omega, by omega, HB3.out⟩
  · go_wp2_with fail
    go_ret
    exact ⟨_, rfl, by omega, by omega, HR.out, HB3.out⟩

set_option maxHeartbeats 400000 in
theorem szProg_th (p : Pr) (cv bv : Value) (l : Int) (w : World) (hc : IntsAt w cv p.cells) (hB : BodiesAt w bv p.bodies) (h0 : 0 ≤ l) (h1 : l ≤ 1048576) :
    Calls Try.prog 8 #[.agg #[cv, bv], .int .i64 l] w fun r w' => ∃ q : Int, r = .returned (.int .i64 q) ∧ -1 ≤ q ∧ q ≤ 1048576 ∧ (0 ≤ q → SmallP p) ∧ Below w.heap.size w w' := by
  obtain ⟨ac, cc, rfl, hmc⟩ := hc.shape
  obtain ⟨ab, cb, rfl, hmb⟩ := hB.shape
  have HB : Hid (∀ o, BodiesAt (w.alloc o) _ _) := fun o => hB.mono ((Below.refl _ _).alloc (Nat.le_refl _) _)
  clear hc hB
  go_enter Try.func8, Try.ntmps8
  go_wp2_with fail
  refine (szIntS_any _ _ _ l _ hmc h0 h1).mono ?_
  rintro e w1 ⟨q, rfl, q1, q2, q3, rfl⟩
  by_cases hq : q < 0
  · go_wp2_with fail
    go_ret
    exact ⟨_, rfl, by omega, by omega, by omega, (by repeat (first | exact Below.refl _ _ | refine Below.alloc ?_ (by simp; try omega) _ | refine Below.drew ?_ | refine Below.setCell ?_ (by simp; try omega) _))⟩
  · go_wp2_with fail
    refine (szActSS_any _ p.bodies q _ (HB.out _) (by omega) q2).mono ?_
    rintro e w2 ⟨q', rfl, p1, p2, p3, hb2⟩
    have HS : Hid (0 ≤ q' → SmallP p) := fun h => ⟨q3 (by omega), p3 h⟩
    have HW : Hid (Below w.heap.size w w2) := below_after (Below.refl _ _) (Nat.le_refl _) hb2
    clear q3 p3 hb2
    by_cases hq' : q' < 0
    · go_wp2_with fail
      go_ret
      exact ⟨_, rfl, by omega, by omega, by omega, HW.out⟩
    · go_wp2_with fail
      go_ret
      exact ⟨_, rfl, by omega, by omega, HS.out, HW.out⟩

end Go.Proofs.Yteebdfifbmpmhaa
