import Derived.Test.YtgbgjljflgbcaaaXn18
import Derived.Test.YtgbgjljflgbcaaaXn14
namespace Go.Proofs.Ytgbgjljflgbcaaa
open Go.RowKit
set_option linter.unusedSimpArgs false
set_option linter.unusedVariables false
set_option maxHeartbeats 400000 in
theorem eqIntS_same (v v' : Value) (xs : List Int) (w : World) (h : IntsAt w v xs) (h' : IntsAt w v' xs) :
    Calls Try.prog 70 #[v, v'] w fun r w' => r = .returned (.bool true) ∧ Below w.heap.size w w' := by
  obtain ⟨a, cap, rfl, hm, hc⟩ := h
  obtain ⟨a', cap', rfl, hm', hc'⟩ := h'
  go_enter Try.func70, Try.ntmps70
  go_wp2_with fail
  go_loopw [5] (fun q w' => ∃ k : Nat, k ≤ xs.length ∧ q = .int .i64 k ∧ Below w.heap.size w w') (fun q _ => xs.length - (intOf q).toNat)
  case atStart => exact ⟨0, Nat.zero_le _, rfl, Below.refl _ _⟩
  case round =>
    obtain ⟨k, hk, rfl, hb⟩ := hrel
    by_cases hlt : k < xs.length
    · obtain ⟨b, off, rfl, hbw, c0⟩ := hc k hlt
      obtain ⟨b', off', rfl, hbw', c0'⟩ := hc' k hlt
      rw [← hb.cell (p := ⟨b, _, none⟩) hbw] at c0
      rw [← hb.cell (p := ⟨b', _, none⟩) hbw'] at c0'
      have hi : (k : Int) < (xs.length : Int) := by omega
      clear hc hc'
      go_wp2_with fail
      go_quiet (fail)
      go_wp2_with fail
      go_roundw
      case rel => exact ⟨k + 1, by omega, by go_num, below_drewN hb _⟩
      case measure => simp [intOf]; omega
    · clear hc hc'
      go_wp2_with fail
      go_ret
      exact ⟨rfl, hb⟩
set_option maxHeartbeats 400000 in
theorem eqDeed_same (d : De) (w : World) :
    Calls Try.prog 165 #[.agg #[.int .i64 d.k, .int .i64 d.a, .int .i64 d.b], .agg #[.int .i64 d.k, .int .i64 d.a, .int .i64 d.b]] w fun r w' => r = .returned (.bool true) ∧ Below w.heap.size w w' := by
  go_enter Try.func165, Try.ntmps165
  go_wp2_with fail
  go_ret
  exact ⟨rfl, (by repeat (first | exact Below.refl _ _ | refine Below.alloc ?_ (by simp; try omega) _ | refine Below.drew ?_ | refine Below.setCell ?_ (by simp; try omega) _))⟩
set_option maxHeartbeats 400000 in
theorem eqDeedS_same (v v' : Value) (xs : List De) (w : World) (h : DeedsAt w v xs) (h' : DeedsAt w v' xs) :
    Calls Try.prog 155 #[v, v'] w fun r w' => r = .returned (.bool true) ∧ Below w.heap.size w w' := by
  obtain ⟨a, cap, rfl, hm, hc⟩ := h
  obtain ⟨a', cap', rfl, hm', hc'⟩ := h'
  go_enter Try.func155, Try.ntmps155
  go_wp2_with fail
  go_loopw [5] (fun q w' => ∃ k : Nat, k ≤ xs.length ∧ q = .int .i64 k ∧ Below w.heap.size w w') (fun q _ => xs.length - (intOf q).toNat)
  case atStart => exact ⟨0, Nat.zero_le _, rfl, Below.refl _ _⟩
  case round =>
    obtain ⟨k, hk, rfl, hb⟩ := hrel
    by_cases hlt : k < xs.length
    · obtain ⟨b, off, rfl, hbw, c0, c1, c2⟩ := hc k hlt
      obtain ⟨b', off', rfl, hbw', c0', c1', c2'⟩ := hc' k hlt
      rw [← hb.cell (p := ⟨b, _, none⟩) hbw] at c0 c1 c2
      rw [← hb.cell (p := ⟨b', _, none⟩) hbw'] at c0' c1' c2'
      have hi : (k : Int) < (xs.length : Int) := by omega
      clear hc hc'
      go_wp2_with fail
      go_region_with (go_at_call 165; refine (eqDeed_same (nth De.z xs k) _).mono ?_; rintro e w1 ⟨rfl, hb1⟩)
      all_goals
        have HB : Hid (Below w.heap.size w w1) := below_drewed hb hb.size hb1
        clear hb1 hb c0 c1 c2 c0' c1' c2'
        go_wp2_with fail
        go_roundw
        case rel => exact ⟨k + 1, by omega, by go_num, HB.out⟩
        case measure => simp [intOf]; omega
    · clear hc hc'
      go_wp2_with fail
      go_ret
      exact ⟨rfl, hb⟩
set_option maxHeartbeats 400000 in
theorem eqAct_same (x : Ac) (dv kv dv' kv' : Value) (w : World) (hd : DeedsAt w dv x.ds) (hk : IntsAt w kv x.ks) (hd' : DeedsAt w dv' x.ds) (hk' : IntsAt w kv' x.ks) :
    Calls Try.prog 140 #[.agg #[.int .i64 x.k, dv, kv, .int .i64 x.r], .agg #[.int .i64 x.k, dv', kv', .int .i64 x.r]] w fun r w' => r = .returned (.bool true) ∧ Below w.heap.size w w' := by
  obtain ⟨ad, cd, rfl, hmd⟩ := hd.shape
  obtain ⟨ak, ck, rfl, hmk⟩ := hk.shape
  obtain ⟨ad', cd', rfl, hmd'⟩ := hd'.shape
  obtain ⟨ak', ck', rfl, hmk'⟩ := hk'.shape
  go_enter Try.func140, Try.ntmps140
  go_wp2_with fail
  refine (eqDeedS_same _ _ x.ds _ (by exact hd.mono (by repeat (first | exact Below.refl _ _ | refine Below.alloc ?_ (by simp; try omega) _ | refine Below.drew ?_ | refine Below.setCell ?_ (by simp; try omega) _))) (by exact hd'.mono (by repeat (first | exact Below.refl _ _ | refine Below.alloc ?_ (by simp; try omega) _ | refine Below.drew ?_ | refine Below.setCell ?_ (by simp; try omega) _)))).mono ?_
  rintro e w1 ⟨rfl, hb1⟩
  have hb : Below w.heap.size w w1 := below_after2 (Below.refl _ _) (Nat.le_refl _) hb1
  obtain ⟨hc1, hf1⟩ := bcell hb1
  have HK := (show Hid (IntsAt _ _ _) from hk.mono hb)
  have HK' := (show Hid (IntsAt _ _ _) from hk'.mono hb)
  clear hd hk hd' hk'
  have HB := (show Hid (Below _ _ _) from hb)
  have hz0 : w.heap.size < w1.heap.size := by have := hb1.size; simp at this; omega
  have hz1 : w.heap.size + 1 < w1.heap.size := by have := hb1.size; simp at this; omega
  clear hb hb1
  go_wp2_with fail
  refine (eqIntS_same _ _ x.ks _ HK.out HK'.out).mono ?_
  rintro e w2 ⟨rfl, hb2⟩
  obtain ⟨hc2, hf2⟩ := bcell hb2
  have HB2 : Hid (Below w.heap.size w w2) := HB.out.trans (hb2.mono HB.out.size)
  clear hb2 HB HK HK'
  go_wp2_with fail
  go_ret
  exact ⟨rfl, HB2.out⟩
set_option maxHeartbeats 400000 in
theorem eqActS_same (v v' : Value) (xs : List Ac) (w : World) (h : ActsAt w v xs) (h' : ActsAt w v' xs) :
    Calls Try.prog 114 #[v, v'] w fun r w' => r = .returned (.bool true) ∧ Below w.heap.size w w' := by
  obtain ⟨a, cap, rfl, hm, hc⟩ := h
  obtain ⟨a', cap', rfl, hm', hc'⟩ := h'
  go_enter Try.func114, Try.ntmps114
  go_wp2_with fail
  go_loopw [5] (fun q w' => ∃ k : Nat, k ≤ xs.length ∧ q = .int .i64 k ∧ Below w.heap.size w w') (fun q _ => xs.length - (intOf q).toNat)
  case atStart => exact ⟨0, Nat.zero_le _, rfl, Below.refl _ _⟩
  case round =>
    obtain ⟨k, hk, rfl, hb⟩ := hrel
    by_cases hlt : k < xs.length
    · obtain ⟨b, off, dv, kv, rfl, hbw, c0, c1, c2, c3, hd, hk1⟩ := hc k hlt
      obtain ⟨b', off', dv', kv', rfl, hbw', c0', c1', c2', c3', hd', hk'⟩ := hc' k hlt
      rw [← hb.cell (p := ⟨b, _, none⟩) hbw] at c0 c1 c2 c3
      rw [← hb.cell (p := ⟨b', _, none⟩) hbw'] at c0' c1' c2' c3'
      obtain ⟨ad, cd, rfl, hmd⟩ := hd.shape
      obtain ⟨ak, ck, rfl, hmk⟩ := hk1.shape
      obtain ⟨ad', cd', rfl, hmd'⟩ := hd'.shape
      obtain ⟨ak', ck', rfl, hmk'⟩ := hk'.shape
      have HP : Hid (Below w.heap.size w wr.drew) := hb.drew
      have H1 := (show Hid (DeedsAt _ _ _) from hd)
      have H2 := (show Hid (IntsAt _ _ _) from hk1)
      have H3 := (show Hid (DeedsAt _ _ _) from hd')
      have H4 := (show Hid (IntsAt _ _ _) from hk')
      have hi : (k : Int) < (xs.length : Int) := by omega
      clear hc hc' hd hk1 hd' hk'
      go_wp2_with fail
      go_region_with (go_at_call 140; refine (eqAct_same (nth Ac.z xs k) _ _ _ _ _ (DeedsAt.mono H1.out HP.out) (IntsAt.mono H2.out HP.out) (DeedsAt.mono H3.out HP.out) (IntsAt.mono H4.out HP.out)).mono ?_; rintro e w1 ⟨rfl, hb1⟩)
      all_goals
        have HB : Hid (Below w.heap.size w w1) := below_drewed hb hb.size hb1
        clear hb1 hb c0 c1 c2 c3 c0' c1' c2' c3' H1 H2 H3 H4
        go_wp2_with fail
        go_roundw
        case rel => exact ⟨k + 1, by omega, by go_num, HB.out⟩
        case measure => simp [intOf]; omega
    · clear hc hc'
      go_wp2_with fail
      go_ret
      exact ⟨rfl, hb⟩
set_option maxHeartbeats 400000 in
theorem eqActSS_same (v v' : Value) (xs : List (List Ac)) (w : World) (h : BodiesAt w v xs) (h' : BodiesAt w v' xs) :
    Calls Try.prog 71 #[v, v'] w fun r w' => r = .returned (.bool true) ∧ Below w.heap.size w w' := by
  obtain ⟨a, cap, rfl, hm, hc⟩ := h
  obtain ⟨a', cap', rfl, hm', hc'⟩ := h'
  go_enter Try.func71, Try.ntmps71
  go_wp2_with fail
  go_loopw [5] (fun q w' => ∃ k : Nat, k ≤ xs.length ∧ q = .int .i64 k ∧ Below w.heap.size w w') (fun q _ => xs.length - (intOf q).toNat)
  case atStart => exact ⟨0, Nat.zero_le _, rfl, Below.refl _ _⟩
  case round =>
    obtain ⟨k, hk, rfl, hb⟩ := hrel
    by_cases hlt : k < xs.length
    · obtain ⟨b, off, av, rfl, hbw, c0, ha⟩ := hc k hlt
      obtain ⟨b', off', av', rfl, hbw', c0', ha'⟩ := hc' k hlt
      rw [← hb.cell (p := ⟨b, _, none⟩) hbw] at c0
      rw [← hb.cell (p := ⟨b', _, none⟩) hbw'] at c0'
      obtain ⟨aa, ca, rfl, hma⟩ := ha.shape
      obtain ⟨aa', ca', rfl, hma'⟩ := ha'.shape
      have HP : Hid (Below w.heap.size w wr.drew) := hb.drew
      have H1 := (show Hid (ActsAt _ _ _) from ha)
      have H2 := (show Hid (ActsAt _ _ _) from ha')
      have hi : (k : Int) < (xs.length : Int) := by omega
      clear hc hc' ha ha'
      go_wp2_with fail
      go_region_with (go_at_call 114; refine (eqActS_same _ _ (nth [] xs k) _ (ActsAt.mono H1.out HP.out) (ActsAt.mono H2.out HP.out)).mono ?_; rintro e w1 ⟨rfl, hb1⟩)
      all_goals
        have HB : Hid (Below w.heap.size w w1) := below_drewed hb hb.size hb1
        clear hb1 hb c0 c0' H1 H2
        go_wp2_with fail
        go_roundw
        case rel => exact ⟨k + 1, by omega, by go_num, HB.out⟩
        case measure => simp [intOf]; omega
    · clear hc hc'
      go_wp2_with fail
      go_ret
      exact ⟨rfl, hb⟩
set_option maxHeartbeats 400000 in
theorem eqProg_same (p : Pr) (cv bv cv' bv' : Value) (w : World) (hc : IntsAt w cv p.cells) (hB : BodiesAt w bv p.bodies) (hc' : IntsAt w cv' p.cells) (hB' : BodiesAt w bv' p.bodies) :
    Calls Try.prog 27 #[.agg #[cv, bv], .agg #[cv', bv']] w fun r w' => r = .returned (.bool true) ∧ Below w.heap.size w w' := by
  obtain ⟨ac, cc, rfl, hmc⟩ := hc.shape
  obtain ⟨ab, cb, rfl, hmb⟩ := hB.shape
  obtain ⟨ac', cc', rfl, hmc'⟩ := hc'.shape
  obtain ⟨ab', cb', rfl, hmb'⟩ := hB'.shape
  go_enter Try.func27, Try.ntmps27
  go_wp2_with fail
  refine (eqIntS_same _ _ p.cells _ (by exact hc.mono (by repeat (first | exact Below.refl _ _ | refine Below.alloc ?_ (by simp; try omega) _ | refine Below.drew ?_ | refine Below.setCell ?_ (by simp; try omega) _))) (by exact hc'.mono (by repeat (first | exact Below.refl _ _ | refine Below.alloc ?_ (by simp; try omega) _ | refine Below.drew ?_ | refine Below.setCell ?_ (by simp; try omega) _)))).mono ?_
  rintro e w1 ⟨rfl, hb1⟩
  have hb : Below w.heap.size w w1 := below_after2 (Below.refl _ _) (Nat.le_refl _) hb1
  obtain ⟨hc1, hf1⟩ := bcell hb1
  have HK := (show Hid (BodiesAt _ _ _) from hB.mono hb)
  have HK' := (show Hid (BodiesAt _ _ _) from hB'.mono hb)
  clear hc hB hc' hB'
  have HB := (show Hid (Below _ _ _) from hb)
  clear hb hb1
  go_wp2_with fail
  refine (eqActSS_same _ _ p.bodies _ HK.out HK'.out).mono ?_
  rintro e w2 ⟨rfl, hb2⟩
  have HB2 : Hid (Below w.heap.size w w2) := HB.out.trans (hb2.mono HB.out.size)
  clear hb2 HB HK HK'
  go_wp2_with fail
  go_ret
  exact ⟨rfl, HB2.out⟩
end Go.Proofs.Ytgbgjljflgbcaaa
