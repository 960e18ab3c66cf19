import Derived.Test.YtgbgjljflgbcaaaXn16
namespace Go.Proofs.Ytgbgjljflgbcaaa
open Go.RowKit
set_option linter.unusedSimpArgs false
set_option linter.unusedVariables false
set_option maxHeartbeats 400000 in
theorem szIntS_any (a : Option Addr) (n cap : Nat) (l : Int) (w : World) (hn : n ≤ 9223372036854775807) (h0 : 0 ≤ l) (h1 : l ≤ 1048576) :
    Calls Try.prog 63 #[.slice a n cap, .int .i64 l] w fun r w' => ∃ q : Int, r = .returned (.int .i64 q) ∧ -1 ≤ q ∧ q ≤ 1048576 ∧ (0 ≤ q → n ≤ 1048576) ∧ w' = w := by
  by_cases h : l - n < 0
  · go_enter Try.func63, Try.ntmps63
    go_wp2_with fail
    go_ret
    exact ⟨_, rfl, by omega, by omega, by omega, rfl⟩
  · go_enter Try.func63, Try.ntmps63
    go_wp2_with fail
    go_ret
    exact ⟨_, rfl, by omega, by omega, by omega, rfl⟩
set_option maxHeartbeats 400000 in
theorem szDeedS_any (a : Option Addr) (n cap : Nat) (l : Int) (w : World) (hn : n ≤ 9223372036854775807) (h0 : 0 ≤ l) (h1 : l ≤ 1048576) :
    Calls Try.prog 152 #[.slice a n cap, .int .i64 l] w fun r w' => ∃ q : Int, r = .returned (.int .i64 q) ∧ -1 ≤ q ∧ q ≤ 1048576 ∧ (0 ≤ q → n ≤ 1048576) ∧ w' = w := by
  by_cases h : l - n < 0
  · go_enter Try.func152, Try.ntmps152
    go_wp2_with fail
    go_ret
    exact ⟨_, rfl, by omega, by omega, by omega, rfl⟩
  · go_enter Try.func152, Try.ntmps152
    go_wp2_with fail
    go_ret
    exact ⟨_, rfl, by omega, by omega, by omega, rfl⟩
set_option maxHeartbeats 400000 in
theorem szAct_any (x : Ac) (dv kv : Value) (l : Int) (w : World) (hd : DeedsAt w dv x.ds) (hk : IntsAt w kv x.ks) (h0 : 0 ≤ l) (h1 : l ≤ 1048576) :
    Calls Try.prog 137 #[.agg #[.int .i64 x.k, dv, kv, .int .i64 x.r], .int .i64 l] w fun r w' => ∃ q : Int, r = .returned (.int .i64 q) ∧ -1 ≤ q ∧ q ≤ 1048576 ∧ (0 ≤ q → Small x) ∧ Below w.heap.size w w' := by
  obtain ⟨ad, cd, rfl, hmd⟩ := hd.shape
  obtain ⟨ak, ck, rfl, hmk⟩ := hk.shape
  clear hd hk
  go_enter Try.func137, Try.ntmps137
  go_wp2_with fail
  refine (szDeedS_any _ _ _ l _ hmd h0 h1).mono ?_
  rintro e w1 ⟨q, rfl, q1, q2, q3, rfl⟩
  by_cases hq : q < 0
  · go_wp2_with fail
    go_ret
    exact ⟨_, rfl, by omega, by omega, by omega, (by repeat (first | exact Below.refl _ _ | refine Below.alloc ?_ (by simp; try omega) _ | refine Below.drew ?_ | refine Below.setCell ?_ (by simp; try omega) _))⟩
  · go_wp2_with fail
    refine (szIntS_any _ _ _ q _ hmk (by omega) q2).mono ?_
    rintro e w2 ⟨q', rfl, p1, p2, p3, rfl⟩
    have HS : Hid (0 ≤ q' → Small x) := fun h => ⟨q3 (by omega), p3 h⟩
    clear q3 p3
    by_cases hq' : q' < 0
    · go_wp2_with fail
      go_ret
      exact ⟨_, rfl, by omega, by omega, by omega, (by repeat (first | exact Below.refl _ _ | refine Below.alloc ?_ (by simp; try omega) _ | refine Below.drew ?_ | refine Below.setCell ?_ (by simp; try omega) _))⟩
    · go_wp2_with fail
      go_ret
      exact ⟨_, rfl, by omega, by omega, HS.out, (by repeat (first | exact Below.refl _ _ | refine Below.alloc ?_ (by simp; try omega) _ | refine Below.drew ?_ | refine Below.setCell ?_ (by simp; try omega) _))⟩
set_option maxHeartbeats 400000 in
theorem szActS_any (v : Value) (xs : List Ac) (l : Int) (w : World) (h : ActsAt w v xs) (h0 : 0 ≤ l) (h1 : l ≤ 1048576) :
    Calls Try.prog 109 #[v, .int .i64 l] w fun r w' => ∃ q : Int, r = .returned (.int .i64 q) ∧ -1 ≤ q ∧ q ≤ 1048576 ∧ (0 ≤ q → SmallB xs) ∧ Below w.heap.size w w' := by
  obtain ⟨a, cap, rfl, hm, hc⟩ := h
  by_cases hneg : l - xs.length < 0
  · clear hc
    go_enter Try.func109, Try.ntmps109
    go_wp2_with fail
    go_ret
    exact ⟨_, rfl, by omega, by omega, by omega, Below.refl _ _⟩
  go_enter Try.func109, Try.ntmps109
  go_wp2_with fail
  go_loopw [1, 5] (fun t q w' => ∃ (k : Nat) (m : Int), k ≤ xs.length ∧ q = .int .i64 k ∧ t = .int .i64 m ∧ 0 ≤ m ∧ m ≤ 1048576 ∧ Below w.heap.size w w' ∧ (∀ j, j < k → Small (nth Ac.z xs j))) (fun _ q _ => xs.length - (intOf q).toNat)
  case atStart => exact ⟨0, _, Nat.zero_le _, rfl, rfl, by omega, by omega, Below.refl _ _, fun j hj => absurd hj (Nat.not_lt_zero _)⟩
  case round =>
    obtain ⟨k, m, hk, rfl, rfl, m0, m1, hb, hall⟩ := hrel
    by_cases hlt : k < xs.length
    · obtain ⟨b, off, dv, kv, rfl, hbw, c0, c1, c2, c3, hd, hk'⟩ := hc k hlt
      rw [← hb.cell (p := ⟨b, _, none⟩) hbw] at c0 c1 c2 c3
      obtain ⟨ad, cd, rfl, hmd⟩ := hd.shape
      obtain ⟨ak, ck, rfl, hmk⟩ := hk'.shape
      have HD := (show Hid (DeedsAt _ _ _) from hd.mono hb)
      have HK := (show Hid (IntsAt _ _ _) from hk'.mono hb)
      clear hc hd hk'
      go_wp2_with fail
      refine (szAct_any (nth Ac.z xs k) _ _ m _ HD.out HK.out m0 m1).mono ?_
      rintro e w1 ⟨q, rfl, q1, q2, q3, hb1⟩
      have HW : Hid (Below w.heap.size w w1) := hb.trans (hb1.mono hb.size)
      have HQ : Hid (0 ≤ q → Small (nth Ac.z xs k)) := q3
      have HA : Hid (∀ j, j < k → Small (nth Ac.z xs j)) := hall
      clear hb hb1 c0 c1 c2 c3 HD HK q3 hall
      by_cases hq : q < 0
      · go_wp2_with fail
        go_ret
        exact ⟨_, rfl, by omega, by omega, by omega, HW.out⟩
      · go_wp2_with fail
        go_roundw
        case rel => exact ⟨k + 1, q, by omega, by go_num, rfl, by omega, by omega, HW.out, so_far HA.out (HQ.out (by omega))⟩
        case measure => simp [intOf]; omega
    · have HS : Hid (SmallB xs) := ⟨by omega, fun j hj => hall j (by omega)⟩
      clear hc hall
      go_wp2_with fail
      go_ret
      exact ⟨_, rfl, by omega, by omega, fun _ => HS.out, hb⟩
set_option maxHeartbeats 400000 in
theorem szActSS_any (v : Value) (xs : List (List Ac)) (l : Int) (w : World) (h : BodiesAt w v xs) (h0 : 0 ≤ l) (h1 : l ≤ 1048576) :
    Calls Try.prog 64 #[v, .int .i64 l] w fun r w' => ∃ q : Int, r = .returned (.int .i64 q) ∧ -1 ≤ q ∧ q ≤ 1048576 ∧ (0 ≤ q → xs.length ≤ 1048576 ∧ ∀ j, j < xs.length → SmallB (nth [] xs j)) ∧ Below w.heap.size w w' := by
  obtain ⟨a, cap, rfl, hm, hc⟩ := h
  by_cases hneg : l - xs.length < 0
  · clear hc
    go_enter Try.func64, Try.ntmps64
    go_wp2_with fail
    go_ret
    exact ⟨_, rfl, by omega, by omega, by omega, Below.refl _ _⟩
  go_enter Try.func64, Try.ntmps64
  go_wp2_with fail
  go_loopw [1, 5] (fun t q w' => ∃ (k : Nat) (m : Int), k ≤ xs.length ∧ q = .int .i64 k ∧ t = .int .i64 m ∧ 0 ≤ m ∧ m ≤ 1048576 ∧ Below w.heap.size w w' ∧ (∀ j, j < k → SmallB (nth [] xs j))) (fun _ q _ => xs.length - (intOf q).toNat)
  case atStart => exact ⟨0, _, Nat.zero_le _, rfl, rfl, by omega, by omega, Below.refl _ _, fun j hj => absurd hj (Nat.not_lt_zero _)⟩
  case round =>
    obtain ⟨k, m, hk, rfl, rfl, m0, m1, hb, hall⟩ := hrel
    by_cases hlt : k < xs.length
    · obtain ⟨b, off, av, rfl, hbw, c0, ha⟩ := hc k hlt
      rw [← hb.cell (p := ⟨b, _, none⟩) hbw] at c0
      obtain ⟨aa, ca, rfl, hma⟩ := ha.shape
      have HD := (show Hid (ActsAt _ _ _) from ha.mono hb)
      clear hc ha
      go_wp2_with fail
      refine (szActS_any _ (nth [] xs k) m _ HD.out m0 m1).mono ?_
      rintro e w1 ⟨q, rfl, q1, q2, q3, hb1⟩
      have HW : Hid (Below w.heap.size w w1) := hb.trans (hb1.mono hb.size)
      have HQ : Hid (0 ≤ q → SmallB (nth [] xs k)) := q3
      have HA : Hid (∀ j, j < k → SmallB (nth [] xs j)) := hall
      clear hb hb1 c0 HD q3 hall
      by_cases hq : q < 0
      · go_wp2_with fail
        go_ret
        exact ⟨_, rfl, by omega, by omega, by omega, HW.out⟩
      · go_wp2_with fail
        go_roundw
        case rel => exact ⟨k + 1, q, by omega, by go_num, rfl, by omega, by omega, HW.out, so_far HA.out (HQ.out (by omega))⟩
        case measure => simp [intOf]; omega
    · have HS : Hid (xs.length ≤ 1048576 ∧ ∀ j, j < xs.length → SmallB (nth [] xs j)) := ⟨by omega, fun j hj => hall j (by omega)⟩
      clear hc hall
      go_wp2_with fail
      go_ret
      exact ⟨_, rfl, by omega, by omega, fun _ => HS.out, hb⟩
set_option maxHeartbeats 400000 in
theorem szProg_any (p : Pr) (cv bv : Value) (l : Int) (w : World) (hc : IntsAt w cv p.cells) (hB : BodiesAt w bv p.bodies) (h0 : 0 ≤ l) (h1 : l ≤ 1048576) :
    Calls Try.prog 24 #[.agg #[cv, bv], .int .i64 l] w fun r w' => ∃ q : Int, r = .returned (.int .i64 q) ∧ (0 ≤ q → SmallP p) ∧ Below w.heap.size w w' := by
  obtain ⟨ac, cc, rfl, hmc⟩ := hc.shape
  obtain ⟨ab, cb, rfl, hmb⟩ := hB.shape
  have HB : Hid (∀ o, BodiesAt (w.alloc o) _ _) := fun o => hB.mono ((Below.refl _ _).alloc (Nat.le_refl _) _)
  clear hc hB
  go_enter Try.func24, Try.ntmps24
  go_wp2_with fail
  refine (szIntS_any _ _ _ l _ hmc h0 h1).mono ?_
  rintro e w1 ⟨q, rfl, q1, q2, q3, rfl⟩
  by_cases hq : q < 0
  · go_wp2_with fail
    go_ret
    exact ⟨_, rfl, by omega, (by repeat (first | exact Below.refl _ _ | refine Below.alloc ?_ (by simp; try omega) _ | refine Below.drew ?_ | refine Below.setCell ?_ (by simp; try omega) _))⟩
  · go_wp2_with fail
    refine (szActSS_any _ p.bodies q _ (HB.out _) (by omega) q2).mono ?_
    rintro e w2 ⟨q', rfl, p1, p2, p3, hb2⟩
    have HS : Hid (0 ≤ q' → SmallP p) := fun h => ⟨q3 (by omega), p3 h⟩
    have HW : Hid (Below w.heap.size w w2) := below_after (Below.refl _ _) (Nat.le_refl _) hb2
    clear q3 p3 hb2
    by_cases hq' : q' < 0
    · go_wp2_with fail
      go_ret
      exact ⟨_, rfl, by omega, HW.out⟩
    · go_wp2_with fail
      go_ret
      exact ⟨_, rfl, HS.out, HW.out⟩
end Go.Proofs.Ytgbgjljflgbcaaa
