import Derived.Test.YtgbgjljflgbcaaaXn10
import Derived.Deep.RegionWith
namespace Go.Proofs.Ytgbgjljflgbcaaa
open Go.RowKit
set_option maxHeartbeats 1000000 in
theorem l1Act_1 (x : Ac) (dv kv cv bv : Value) (cs : List Int) (bs : List (List Ac)) (body : Int) (w : World) (hd : DeedsAt w dv x.ds) (hk : IntsAt w kv x.ks) (hc : IntsAt w cv cs) (hB : BodiesAt w bv bs)
    (h1 : x.k = 1) (h2 : x.ks.length = 0) (h3 : x.r = 0) :
    Calls Try.prog 119 #[.agg #[cv, bv], .int .i64 body, .agg #[.int .i64 x.k, dv, kv, .int .i64 x.r]] w fun r w' => r = .returned (.bool (dsB x.ds cs.length)) ∧ Below w.heap.size w w' := by
  obtain ⟨ac, cc, rfl, hmc⟩ := hc.shape
  obtain ⟨ab, cb, rfl, hmb⟩ := hB.shape
  obtain ⟨ad, cd, rfl, hmd, hds⟩ := id hd
  obtain ⟨ak, ck, rfl, hmk⟩ := hk.shape
  rw [h1, h2, h3]
  clear hc hB hk h1 h2 h3
  generalize x.ds = ds at *
  go_enter Try.func119, Try.ntmps119
  go_wp2_with fail
  go_loopw [7] (fun q w' => ∃ k : Nat, k ≤ ds.length ∧ q = .int .i64 k ∧ Below ((w.alloc (.cells #[.slice ac cs.length cc, .slice ab bs.length cb] 26)).alloc (.cells #[.int .i64 1, .slice ad ds.length cd, .slice ak 0 ck, .int .i64 0] 122)).heap.size ((w.alloc (.cells #[.slice ac cs.length cc, .slice ab bs.length cb] 26)).alloc (.cells #[.int .i64 1, .slice ad ds.length cd, .slice ak 0 ck, .int .i64 0] 122)) w' ∧ (∀ j, j < k → deB (nth De.z ds j) cs.length = true)) (fun q _ => ds.length - (intOf q).toNat)
  case atStart => exact ⟨0, Nat.zero_le _, rfl, Below.refl _ _, fun j hj => absurd hj (Nat.not_lt_zero _)⟩
  case round =>
    obtain ⟨k, hk, rfl, hb, hall⟩ := hrel
    have hbw' : Below w.heap.size w _ := below_after2 (Below.refl _ _) (Nat.le_refl _) hb
    have e0 : wr.cell? ⟨w.heap.size, 0, none⟩ = some (.slice ac cs.length cc) := by rw [hb.cell (p := ⟨w.heap.size, 0, none⟩) (by simp; omega)]; simp [go_sem]
    have e1 : wr.cell? ⟨w.heap.size + 1, 1, none⟩ = some (.slice ad ds.length cd) := by rw [hb.cell (p := ⟨w.heap.size + 1, 1, none⟩) (by simp)]; simp [go_sem]
    by_cases hlt : k < ds.length
    · obtain ⟨b2, off2, rfl, hb2, d0, d1, d2⟩ := hds k hlt
      rw [← hbw'.cell (p := ⟨b2, _, none⟩) hb2] at d0 d1 d2
      clear hds
      cases hde : deB (nth De.z ds k) cs.length
      · have HF : Hid (dsB ds cs.length = false) := by simp [Hid, dsB, not_all_nth De.z (deB · cs.length) ds k hlt hde]
        have HE := (show Hid _ from hde)
        clear hde hall
        go_wp2_with fail
        go_region_with (go_at_call 142; refine (l1Deed_any (nth De.z ds k) _ _ (by omega) (by omega)).mono ?_; rintro e w1 ⟨rfl, hb1⟩)
        all_goals
          have HB : Hid (Below w.heap.size w w1) := below_drewed hbw' hbw'.size hb1
          rw [HE.out]
          clear hb1 hb hbw' e0 e1 d0 d1 d2
          go_wp2_with fail
          go_ret
          exact ⟨by rw [HF.out]; rfl, HB.out⟩
      · have HA : Hid (∀ j, j < k + 1 → deB (nth De.z ds j) cs.length = true) := so_far hall hde
        have HE := (show Hid _ from hde)
        clear hde hall
        go_wp2_with fail
        go_region_with (go_at_call 142; refine (l1Deed_any (nth De.z ds k) _ _ (by omega) (by omega)).mono ?_; rintro e w1 ⟨rfl, hb1⟩)
        all_goals
          have HB : Hid (Below ((w.alloc (.cells #[.slice ac cs.length cc, .slice ab bs.length cb] 26)).alloc (.cells #[.int .i64 1, .slice (some ⟨b2, off2, none⟩) ds.length cd, .slice ak 0 ck, .int .i64 0] 122)).heap.size ((w.alloc (.cells #[.slice ac cs.length cc, .slice ab bs.length cb] 26)).alloc (.cells #[.int .i64 1, .slice (some ⟨b2, off2, none⟩) ds.length cd, .slice ak 0 ck, .int .i64 0] 122)) w1) := below_drewed hb hb.size hb1
          rw [HE.out]
          clear hb1 hb hbw' e0 e1 d0 d1 d2
          go_wp2_with fail
          go_roundw
          case rel => exact ⟨k + 1, by omega, by go_num, HB.out, HA.out⟩
          case measure => simp [intOf]; omega
    · have HA : Hid (dsB ds cs.length = decide (ds.length ≤ 5)) := by
        have := all_nth De.z (deB · cs.length) ds (fun j hj => hall j (by omega))
        simp [Hid, dsB, this]
      clear hall hds hb
      go_wp2_with fail
      go_ret
      exact ⟨by rw [HA.out]; simp; try omega, hbw'⟩
def restB (k r : Int) (nd nk : Nat) : Bool :=
  if k = 3 then decide (nd = 0) && decide (nk = 0) && decide (r = 0)
  else if k = 4 then decide (nd = 0) && decide (nk = 0) && plB r 3
  else false
set_option maxHeartbeats 1000000 in
theorem l1Act_rest (k r : Int) (nd nk nc nb : Nat) (ad ak ac ab : Option Addr) (cd ck cc cb : Nat) (body : Int) (w : World)
    (h1 : ¬ (k = 1 ∧ nk = 0 ∧ r = 0)) (h2 : ¬ (k = 2 ∧ nd = 0 ∧ r = 0)) :
    Calls Try.prog 119 #[.agg #[.slice ac nc cc, .slice ab nb cb], .int .i64 body, .agg #[.int .i64 k, .slice ad nd cd, .slice ak nk ck, .int .i64 r]] w fun q w' => q = .returned (.bool (restB k r nd nk)) ∧ Below w.heap.size w w' := by
  have fd : decide ((0 : Int) < (nd : Int)) = !decide (nd = 0) := by by_cases h : nd = 0 <;> simp [h]; omega
  have fk : decide ((0 : Int) < (nk : Int)) = !decide (nk = 0) := by by_cases h : nk = 0 <;> simp [h]; omega
  have fr : (r != 0) = !decide (r = 0) := by by_cases h : r = 0 <;> simp [h]
  by_cases g1 : k = 1
  · subst g1
    have HF : Hid (restB 1 r nd nk = false) := by simp [Hid, restB]
    by_cases gk : nk = 0
    · have gr : r ≠ 0 := by omega
      simp only [gr, decide_false, Bool.not_false] at fr
      clear h1 h2 fd fk gr
      subst gk
      go_enter Try.func119, Try.ntmps119
      go_wp2_with fail
      go_ret
      exact ⟨by rw [HF.out]; rfl, (by repeat (first | exact Below.refl _ _ | refine Below.alloc ?_ (by simp; try omega) _ | refine Below.drew ?_ | refine Below.setCell ?_ (by simp; try omega) _))⟩
    · have fk' : (0 : Int) < (nk : Int) := by omega
      clear h1 h2 fd fr fk gk
      go_enter Try.func119, Try.ntmps119
      go_wp2_with fail
      go_ret
      exact ⟨by rw [HF.out]; rfl, (by repeat (first | exact Below.refl _ _ | refine Below.alloc ?_ (by simp; try omega) _ | refine Below.drew ?_ | refine Below.setCell ?_ (by simp; try omega) _))⟩
  by_cases g2 : k = 2
  · subst g2
    have HF : Hid (restB 2 r nd nk = false) := by simp [Hid, restB]
    by_cases gk : nd = 0
    · have gr : r ≠ 0 := by omega
      simp only [gr, decide_false, Bool.not_false] at fr
      clear h1 h2 fd fk gr
      subst gk
      go_enter Try.func119, Try.ntmps119
      go_wp2_with fail
      go_ret
      exact ⟨by rw [HF.out]; rfl, (by repeat (first | exact Below.refl _ _ | refine Below.alloc ?_ (by simp; try omega) _ | refine Below.drew ?_ | refine Below.setCell ?_ (by simp; try omega) _))⟩
    · have fd' : (0 : Int) < (nd : Int) := by omega
      clear h1 h2 fk fr fd gk
      go_enter Try.func119, Try.ntmps119
      go_wp2_with fail
      go_ret
      exact ⟨by rw [HF.out]; rfl, (by repeat (first | exact Below.refl _ _ | refine Below.alloc ?_ (by simp; try omega) _ | refine Below.drew ?_ | refine Below.setCell ?_ (by simp; try omega) _))⟩
  clear h1 h2
  by_cases gd : nd = 0
  case neg =>
    have HF : Hid (restB k r nd nk = false) := by simp [Hid, restB, gd]
    have fd' : (0 : Int) < (nd : Int) := by omega
    have n1 : (k != 1) = true := by simp [g1]
    clear fk fr fd gd g1 g2
    go_enter Try.func119, Try.ntmps119
    go_wp2_with fail
    go_ret
    exact ⟨by rw [HF.out]; rfl, (by repeat (first | exact Below.refl _ _ | refine Below.alloc ?_ (by simp; try omega) _ | refine Below.drew ?_ | refine Below.setCell ?_ (by simp; try omega) _))⟩
  subst gd
  clear fd
  by_cases gk : nk = 0
  case neg =>
    have HF : Hid (restB k r 0 nk = false) := by simp [Hid, restB, gk]
    have fk' : (0 : Int) < (nk : Int) := by omega
    have n1 : (k != 1) = true := by simp [g1]
    have n2 : (k != 2) = true := by simp [g2]
    clear fr fk gk g1 g2
    go_enter Try.func119, Try.ntmps119
    go_wp2_with fail
    go_ret
    exact ⟨by rw [HF.out]; rfl, (by repeat (first | exact Below.refl _ _ | refine Below.alloc ?_ (by simp; try omega) _ | refine Below.drew ?_ | refine Below.setCell ?_ (by simp; try omega) _))⟩
  subst gk
  clear fk
  by_cases g4 : k = 4
  · subst g4
    have HF : Hid (restB 4 r 0 0 = inB r 0 2) := by simp [Hid, restB, in_pl3]
    clear fr g1 g2
    go_enter Try.func119, Try.ntmps119
    go_wp2_with (go_at_call 52; refine (l6In_any _ _ _ _).mono ?_; rintro e w' ⟨rfl, rfl⟩)
    go_ret
    exact ⟨by rw [HF.out]; rfl, (by repeat (first | exact Below.refl _ _ | refine Below.alloc ?_ (by simp; try omega) _ | refine Below.drew ?_ | refine Below.setCell ?_ (by simp; try omega) _))⟩
  by_cases gr : r = 0
  · subst gr
    clear fr
    by_cases g3 : k = 3
    · subst g3
      go_enter Try.func119, Try.ntmps119
      go_wp2_with fail
      go_ret
      exact ⟨by simp [restB], (by repeat (first | exact Below.refl _ _ | refine Below.alloc ?_ (by simp; try omega) _ | refine Below.drew ?_ | refine Below.setCell ?_ (by simp; try omega) _))⟩
    · have HF : Hid (restB k 0 0 0 = false) := by simp [Hid, restB, g3, g4]
      have n1 : (k != 1) = true := by simp [g1]
      have n2 : (k != 2) = true := by simp [g2]
      have n4 : (k != 4) = true := by simp [g4]
      have q1 : (k == 1) = false := by simp [g1]
      have q2 : (k == 2) = false := by simp [g2]
      have q3 : (k == 3) = false := by simp [g3]
      have q4 : (k == 4) = false := by simp [g4]
      clear g1 g2 g3 g4
      go_enter Try.func119, Try.ntmps119
      go_wp2_with fail
      go_ret
      exact ⟨by rw [HF.out]; rfl, (by repeat (first | exact Below.refl _ _ | refine Below.alloc ?_ (by simp; try omega) _ | refine Below.drew ?_ | refine Below.setCell ?_ (by simp; try omega) _))⟩
  · have HF : Hid (restB k r 0 0 = false) := by simp [Hid, restB, gr, g4]
    simp only [gr, decide_false, Bool.not_false] at fr
    have n1 : (k != 1) = true := by simp [g1]
    have n2 : (k != 2) = true := by simp [g2]
    have n4 : (k != 4) = true := by simp [g4]
    clear g1 g2 g4 gr
    go_enter Try.func119, Try.ntmps119
    go_wp2_with fail
    go_ret
    exact ⟨by rw [HF.out]; rfl, (by repeat (first | exact Below.refl _ _ | refine Below.alloc ?_ (by simp; try omega) _ | refine Below.drew ?_ | refine Below.setCell ?_ (by simp; try omega) _))⟩
end Go.Proofs.Ytgbgjljflgbcaaa
