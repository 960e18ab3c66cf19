import Derived.Test.YtgbgjljflgbcaaaNe01
import Derived.Deep.QuietTactic
import Derived.BigQuiet
import Derived.Deep.Light
namespace Go.Proofs.Ytgbgjljflgbcaaa
open Go.RowKit
set_option maxHeartbeats 400000 in
theorem l1Deed_any (d : De) (c : Int) (w : World) (hc0 : 0 ≤ c) (hc1 : c ≤ 9223372036854775807) :
    Calls Try.prog 142 #[.agg #[.int .i64 d.k, .int .i64 d.a, .int .i64 d.b], .int .i64 c] w fun r w' => r = .returned (.bool (deB d c)) ∧ Below w.heap.size w w' := by
  obtain ⟨k, a, b⟩ := d
  dsimp only
  by_cases h1 : k = 1
  · subst h1
    cases hp : inB a 0 2
    all_goals
      have HP : Hid (plB a 3 = _) := (in_pl3 a).symm.trans hp
      go_enter Try.func142, Try.ntmps142
      go_wp2_with (go_at_call 52; refine (l6In_any _ _ _ _).mono ?_; rintro e w' ⟨rfl, rfl⟩)
      go_ret
      exact ⟨by simp [deB, HP.out, in_pl], (by repeat (first | exact Below.refl _ _ | refine Below.alloc ?_ (by simp; try omega) _ | refine Below.drew ?_ | refine Below.setCell ?_ (by simp; try omega) _))⟩
  by_cases h2 : k = 2
  · subst h2
    cases hp : inB a 0 (c - 1)
    all_goals
      have HP : Hid (plB a c = _) := (in_pl a c).symm.trans hp
      go_enter Try.func142, Try.ntmps142
      go_wp2_with (go_at_call 52; refine (l6In_any _ _ _ _).mono ?_; rintro e w' ⟨rfl, rfl⟩)
      go_ret
      exact ⟨by simp [deB, HP.out, in_pl3], (by repeat (first | exact Below.refl _ _ | refine Below.alloc ?_ (by simp; try omega) _ | refine Below.drew ?_ | refine Below.setCell ?_ (by simp; try omega) _))⟩
  by_cases h3 : k = 3
  · subst h3
    cases hp : inB a 0 2
    all_goals
      have HP : Hid (plB a 3 = _) := (in_pl3 a).symm.trans hp
      go_enter Try.func142, Try.ntmps142
      go_wp2_with (go_at_call 52; refine (l6In_any _ _ _ _).mono ?_; rintro e w' ⟨rfl, rfl⟩)
      go_ret
      exact ⟨by simp [deB, HP.out, in_pl100], (by repeat (first | exact Below.refl _ _ | refine Below.alloc ?_ (by simp; try omega) _ | refine Below.drew ?_ | refine Below.setCell ?_ (by simp; try omega) _))⟩
  by_cases h4 : k = 4
  · subst h4
    cases hp : inB a 0 2
    all_goals
      have HP : Hid (plB a 3 = _) := (in_pl3 a).symm.trans hp
      go_enter Try.func142, Try.ntmps142
      go_wp2_with (go_at_call 52; refine (l6In_any _ _ _ _).mono ?_; rintro e w' ⟨rfl, rfl⟩)
      go_ret
      exact ⟨by simp [deB, HP.out, in_pl3], (by repeat (first | exact Below.refl _ _ | refine Below.alloc ?_ (by simp; try omega) _ | refine Below.drew ?_ | refine Below.setCell ?_ (by simp; try omega) _))⟩
  have g1 : (k == 1) = false := by simp [h1]
  have g2 : (k == 2) = false := by simp [h2]
  have g3 : (k == 3) = false := by simp [h3]
  have g4 : (k == 4) = false := by simp [h4]
  by_cases h5 : k = 5
  · subst h5
    cases hp : inB a 0 2
    all_goals
      have HP : Hid (plB a 3 = _) := (in_pl3 a).symm.trans hp
      go_enter Try.func142, Try.ntmps142
      go_wp2_with (go_at_call 52; refine (l6In_any _ _ _ _).mono ?_; rintro e w' ⟨rfl, rfl⟩)
      go_ret
      exact ⟨by simp [deB, HP.out]; try rfl, (by repeat (first | exact Below.refl _ _ | refine Below.alloc ?_ (by simp; try omega) _ | refine Below.drew ?_ | refine Below.setCell ?_ (by simp; try omega) _))⟩
  · have g5 : (k == 5) = false := by simp [h5]
    have HF : Hid (deB ⟨k, a, b⟩ c = false) := by simp [Hid, deB, h1, h2, h3, h4, h5]
    clear h1 h2 h3 h4 h5
    go_enter Try.func142, Try.ntmps142
    go_wp2_with (go_at_call 52; refine (l6In_any _ _ _ _).mono ?_; rintro e w' ⟨rfl, rfl⟩)
    go_ret
    exact ⟨by rw [HF.out]; rfl, (by repeat (first | exact Below.refl _ _ | refine Below.alloc ?_ (by simp; try omega) _ | refine Below.drew ?_ | refine Below.setCell ?_ (by simp; try omega) _))⟩
set_option maxHeartbeats 400000 in
theorem l1Kids_any (v : Value) (xs : List Int) (body nb : Int) (w : World) (h : IntsAt w v xs) (hb0 : 0 ≤ body) (hb1 : body ≤ 4611686018427387904) (hn0 : 0 ≤ nb) (hn1 : nb ≤ 9223372036854775807) :
    Calls Try.prog 143 #[v, .int .i64 body, .int .i64 nb] w fun r w' => r = .returned (.bool (ksB xs body nb)) ∧ w' = w := by
  obtain ⟨a, cap, rfl, hm, hc⟩ := h
  go_enter Try.func143, Try.ntmps143
  go_wp2_with fail
  go_loop [7] (fun i => ∃ k : Nat, k ≤ xs.length ∧ i = .int .i64 k ∧ (∀ j, j < k → kidB body nb (nth 0 xs j) = true)) (fun i => xs.length - (intOf i).toNat)
  case atStart => exact ⟨0, Nat.zero_le _, rfl, fun j hj => absurd hj (Nat.not_lt_zero _)⟩
  case round =>
    obtain ⟨k, hk, rfl, hall⟩ := hrel
    by_cases hlt : k < xs.length
    · obtain ⟨b, off, rfl, hbw, c0⟩ := hc k hlt
      cases hd : inB (nth 0 xs k) (body + 1) (nb - 1)
      · have HF : Hid (ksB xs body nb = false) := by simp [Hid, ksB, not_all_nth 0 (kidB body nb) xs k hlt hd]
        clear hc hall
        go_wp2_with (go_at_call 52; refine (l6In_any _ _ _ _).mono ?_; rintro e w' ⟨rfl, rfl⟩)
        go_ret
        exact ⟨by rw [HF.out]; rfl, rfl⟩
      · have HA : Hid (∀ j, j < k + 1 → kidB body nb (nth 0 xs j) = true) := so_far hall hd
        clear hc hall
        go_wp2_with (go_at_call 52; refine (l6In_any _ _ _ _).mono ?_; rintro e w' ⟨rfl, rfl⟩)
        go_round
        case rel => exact ⟨k + 1, by omega, by go_num, HA.out⟩
        case measure => simp [intOf]; omega
    · have HF : Hid (ksB xs body nb = inB xs.length 1 2) := by
        have := all_nth 0 (kidB body nb) xs (fun j hj => hall j (by omega))
        simp [Hid, ksB, this]
      clear hall hc
      go_wp2_with (go_at_call 52; refine (l6In_any _ _ _ _).mono ?_; rintro e w' ⟨rfl, rfl⟩)
      go_ret
      exact ⟨by rw [HF.out]; rfl, rfl⟩
end Go.Proofs.Ytgbgjljflgbcaaa

namespace Go.Proofs.Ytgbgjljflgbcaaa
open Go.RowKit
def acV (a : Ac) (dv kv : Value) : Value :=
  if a.k = 1 ∧ a.ks.length = 0 ∧ a.r = 0 then .iface 165 (.agg #[dv])
  else if a.k = 2 ∧ a.ds.length = 0 ∧ a.r = 0 then .iface 168 (.agg #[kv])
  else if a.k = 3 ∧ a.ds.length = 0 ∧ a.ks.length = 0 ∧ a.r = 0 then .iface 170 (.agg #[])
  else if a.k = 4 ∧ a.ds.length = 0 ∧ a.ks.length = 0 then .iface 172 (.agg #[.int .i64 a.r])
  else .iface 181 (.agg #[])
set_option maxHeartbeats 400000 in
theorem actPart_any (x : Ac) (dv kv : Value) (w : World) (hd : DeedsAt w dv x.ds) (hk : IntsAt w kv x.ks) :
    Calls Try.prog 144 #[.agg #[.int .i64 x.k, dv, kv, .int .i64 x.r]] w fun r w' => r = .returned (acV x dv kv) ∧ Below w.heap.size w w' := by
  obtain ⟨a, cap, rfl, hm, -⟩ := hd
  obtain ⟨a', cap', rfl, hm', -⟩ := hk
  obtain ⟨k, ds, ks, r⟩ := x
  dsimp only at *
  go_enter Try.func144, Try.ntmps144
  go_wp2
  go_quiet (fail)
  go_wp2
  all_goals
    go_ret
    refine ⟨?_, below_drewN ((Below.refl _ _).alloc (Nat.le_refl _) _) _⟩
    go_light
    simp [acV, *] <;> simp_all
end Go.Proofs.Ytgbgjljflgbcaaa

namespace Go.Proofs.Ytgbgjljflgbcaaa
open Go.RowKit
set_option maxHeartbeats 400000 in
theorem actInForm_any (x : Ac) (dv kv cv bv : Value) (cs : List Int) (bs : List (List Ac)) (body : Int) (w : World) (hd : DeedsAt w dv x.ds) (hk : IntsAt w kv x.ks) (hc : IntsAt w cv cs) (hB : BodiesAt w bv bs) :
    Calls Try.prog 121 #[.agg #[.int .i64 x.k, dv, kv, .int .i64 x.r], .agg #[cv, bv], .int .i64 body] w fun r w' => r = .returned (.bool (acB x cs.length body bs.length)) ∧ Below w.heap.size w w' := by
  obtain ⟨ac, cc, rfl, hmc⟩ := hc.shape
  obtain ⟨ab, cb, rfl, hmb⟩ := hB.shape
  clear hc hB
  obtain ⟨ad, cd, hdv, hmd⟩ := hd.shape
  obtain ⟨ak, ck, hkv, hmk⟩ := hk.shape
  subst hdv hkv
  by_cases h1 : x.k = 1 ∧ x.ks.length = 0 ∧ x.r = 0
  · have HV : Hid (acV x (.slice ad x.ds.length cd) (.slice ak x.ks.length ck) = .iface 165 (.agg #[.slice ad x.ds.length cd])) := by simp only [Hid, acV, if_pos h1]
    have HF : Hid (acB x cs.length body bs.length = dsB x.ds cs.length) := by simp [Hid, acB, h1]
    clear h1
    go_enter Try.func121, Try.ntmps121
    go_wp2_with fail
    refine (actPart_any x _ _ _ (by exact hd.mono (by repeat (first | exact Below.refl _ _ | refine Below.alloc ?_ (by simp; try omega) _ | refine Below.drew ?_ | refine Below.setCell ?_ (by simp; try omega) _))) (by exact hk.mono (by repeat (first | exact Below.refl _ _ | refine Below.alloc ?_ (by simp; try omega) _ | refine Below.drew ?_ | refine Below.setCell ?_ (by simp; try omega) _)))).mono ?_
    rintro e w1 ⟨rfl, hb1⟩
    rw [HV.out]
    have e0 : w1.cell? ⟨w.heap.size + 1, 0, none⟩ = some (.slice ac cs.length cc) := by rw [hb1.cell (p := ⟨w.heap.size + 1, 0, none⟩) (by simp)]; simp [go_sem]
    have e1 : w1.cell? ⟨w.heap.size + 1, 1, none⟩ = some (.slice ab bs.length cb) := by rw [hb1.cell (p := ⟨w.heap.size + 1, 1, none⟩) (by simp)]; simp [go_sem]
    have hz : w.heap.size + 1 < w1.heap.size := by have := hb1.size; simp at this; omega
    have hb : Below w.heap.size w w1 := below_after2 (Below.refl _ _) (Nat.le_refl _) hb1
    have HX : Hid (∀ o, DeedsAt (w1.alloc o) (.slice ad x.ds.length cd) x.ds) := fun o => hd.mono (hb.alloc (by omega) _)
    go_wp2_with fail
    refine (deedsInForm_any _ x.ds _ _ (HX.out _)).mono ?_
    rintro e w2 ⟨rfl, hb2⟩
    have HB : Hid (Below w.heap.size w w2) := below_after hb (by omega) hb2
    clear hb1 hb2 e0 e1
    go_wp2
    go_ret
    exact ⟨by rw [HF.out]; rfl, HB.out⟩
  by_cases h2 : x.k = 2 ∧ x.ds.length = 0 ∧ x.r = 0
  · have HV : Hid (acV x (.slice ad x.ds.length cd) (.slice ak x.ks.length ck) = .iface 168 (.agg #[.slice ak x.ks.length ck])) := by simp only [Hid, acV, if_neg h1, if_pos h2]
    have HF : Hid (acB x cs.length body bs.length = ksB x.ks body bs.length) := by simp [Hid, acB, h2]
    clear h1 h2
    go_enter Try.func121, Try.ntmps121
    go_wp2_with fail
    refine (actPart_any x _ _ _ (by exact hd.mono (by repeat (first | exact Below.refl _ _ | refine Below.alloc ?_ (by simp; try omega) _ | refine Below.drew ?_ | refine Below.setCell ?_ (by simp; try omega) _))) (by exact hk.mono (by repeat (first | exact Below.refl _ _ | refine Below.alloc ?_ (by simp; try omega) _ | refine Below.drew ?_ | refine Below.setCell ?_ (by simp; try omega) _)))).mono ?_
    rintro e w1 ⟨rfl, hb1⟩
    rw [HV.out]
    have e0 : w1.cell? ⟨w.heap.size + 1, 0, none⟩ = some (.slice ac cs.length cc) := by rw [hb1.cell (p := ⟨w.heap.size + 1, 0, none⟩) (by simp)]; simp [go_sem]
    have e1 : w1.cell? ⟨w.heap.size + 1, 1, none⟩ = some (.slice ab bs.length cb) := by rw [hb1.cell (p := ⟨w.heap.size + 1, 1, none⟩) (by simp)]; simp [go_sem]
    have hz : w.heap.size + 1 < w1.heap.size := by have := hb1.size; simp at this; omega
    have hb : Below w.heap.size w w1 := below_after2 (Below.refl _ _) (Nat.le_refl _) hb1
    have HX : Hid (∀ o, IntsAt (w1.alloc o) (.slice ak x.ks.length ck) x.ks) := fun o => hk.mono (hb.alloc (by omega) _)
    go_wp2_with fail
    refine (kidsInForm_any _ x.ks _ _ _ (HX.out _)).mono ?_
    rintro e w2 ⟨rfl, rfl⟩
    have HB : Hid (∀ o, Below w.heap.size w (w1.alloc o)) := fun o => hb.alloc (by omega) _
    clear hb1 e0 e1
    go_wp2
    go_ret
    exact ⟨by rw [HF.out]; rfl, HB.out _⟩
  by_cases h3 : x.k = 3 ∧ x.ds.length = 0 ∧ x.ks.length = 0 ∧ x.r = 0
  · have HV : Hid (acV x (.slice ad x.ds.length cd) (.slice ak x.ks.length ck) = .iface 170 (.agg #[])) := by simp only [Hid, acV, if_neg h1, if_neg h2, if_pos h3]
    have HF : Hid (acB x cs.length body bs.length = true) := by simp [Hid, acB, h3]
    clear h1 h2 h3
    go_enter Try.func121, Try.ntmps121
    go_wp2_with fail
    refine (actPart_any x _ _ _ (by exact hd.mono (by repeat (first | exact Below.refl _ _ | refine Below.alloc ?_ (by simp; try omega) _ | refine Below.drew ?_ | refine Below.setCell ?_ (by simp; try omega) _))) (by exact hk.mono (by repeat (first | exact Below.refl _ _ | refine Below.alloc ?_ (by simp; try omega) _ | refine Below.drew ?_ | refine Below.setCell ?_ (by simp; try omega) _)))).mono ?_
    rintro e w1 ⟨rfl, hb1⟩
    rw [HV.out]
    have hz : w.heap.size + 1 < w1.heap.size := by have := hb1.size; simp at this; omega
    have HB : Hid (∀ o, Below w.heap.size w (w1.alloc o)) := fun o => (below_after2 (Below.refl _ _) (Nat.le_refl _) hb1).alloc (by omega) _
    clear hb1
    go_wp2
    go_ret
    exact ⟨by rw [HF.out]; rfl, HB.out _⟩
  by_cases h4 : x.k = 4 ∧ x.ds.length = 0 ∧ x.ks.length = 0
  · have HV : Hid (acV x (.slice ad x.ds.length cd) (.slice ak x.ks.length ck) = .iface 172 (.agg #[.int .i64 x.r])) := by simp only [Hid, acV, if_neg h1, if_neg h2, if_neg h3, if_pos h4]
    have HF : Hid (acB x cs.length body bs.length = plB x.r 3) := by simp [Hid, acB, h4]
    clear h1 h2 h3 h4
    go_enter Try.func121, Try.ntmps121
    go_wp2_with fail
    refine (actPart_any x _ _ _ (by exact hd.mono (by repeat (first | exact Below.refl _ _ | refine Below.alloc ?_ (by simp; try omega) _ | refine Below.drew ?_ | refine Below.setCell ?_ (by simp; try omega) _))) (by exact hk.mono (by repeat (first | exact Below.refl _ _ | refine Below.alloc ?_ (by simp; try omega) _ | refine Below.drew ?_ | refine Below.setCell ?_ (by simp; try omega) _)))).mono ?_
    rintro e w1 ⟨rfl, hb1⟩
    rw [HV.out]
    have hz : w.heap.size + 1 < w1.heap.size := by have := hb1.size; simp at this; omega
    have HB : Hid (∀ o, Below w.heap.size w (w1.alloc o)) := fun o => (below_after2 (Below.refl _ _) (Nat.le_refl _) hb1).alloc (by omega) _
    clear hb1
    go_wp2_with (go_at_call 45; refine (isPlace_any _ _ _).mono ?_; rintro e w' ⟨rfl, rfl⟩)
    go_ret
    exact ⟨by rw [HF.out]; rfl, HB.out _⟩
  · have HV : Hid (acV x (.slice ad x.ds.length cd) (.slice ak x.ks.length ck) = .iface 181 (.agg #[])) := by simp only [Hid, acV, if_neg h1, if_neg h2, if_neg h3, if_neg h4]
    have HF : Hid (acB x cs.length body bs.length = false) := by
      unfold Hid acB
      split
      · simp; intro a b; exact absurd ⟨‹_›, by simp [a], b⟩ h1
      split
      · simp; intro a b; exact absurd ⟨‹_›, by simp [a], b⟩ h2
      split
      · simp; intro a b c; exact absurd ⟨‹_›, by simp [a], by simp [b], c⟩ h3
      split
      · simp; intro a b; exact absurd ⟨‹_›, by simp [a], by simp [b]⟩ h4
      rfl
    clear h1 h2 h3 h4
    go_enter Try.func121, Try.ntmps121
    go_wp2_with fail
    refine (actPart_any x _ _ _ (by exact hd.mono (by repeat (first | exact Below.refl _ _ | refine Below.alloc ?_ (by simp; try omega) _ | refine Below.drew ?_ | refine Below.setCell ?_ (by simp; try omega) _))) (by exact hk.mono (by repeat (first | exact Below.refl _ _ | refine Below.alloc ?_ (by simp; try omega) _ | refine Below.drew ?_ | refine Below.setCell ?_ (by simp; try omega) _)))).mono ?_
    rintro e w1 ⟨rfl, hb1⟩
    rw [HV.out]
    have HB : Hid (Below w.heap.size w w1) := (below_after2 (Below.refl _ _) (Nat.le_refl _) hb1)
    clear hb1
    go_wp2
    go_ret
    exact ⟨by rw [HF.out]; rfl, HB.out⟩
end Go.Proofs.Ytgbgjljflgbcaaa

namespace Go.Proofs.Ytgbgjljflgbcaaa
open Go.RowKit
set_option maxHeartbeats 400000 in
theorem bodyInForm_any (p : Pr) (cv bv : Value) (i : Nat) (w : World) (hc : IntsAt w cv p.cells) (hB : BodiesAt w bv p.bodies) (hi : i < p.bodies.length) :
    Calls Try.prog 84 #[.agg #[cv, bv], .int .i64 i] w fun r w' => r = .returned (.bool (boB p i)) ∧ Below w.heap.size w w' := by
  obtain ⟨ac, cc, hcv, hmc⟩ := hc.shape
  obtain ⟨ab, cb, hbv, hmb, hbs⟩ := id hB
  obtain ⟨b, off, av, rfl, hbw, c0, ha⟩ := hbs i hi
  clear hbs
  obtain ⟨aa, ca, rfl, hma, has⟩ := id ha
  subst hcv hbv
  generalize HA : nth [] p.bodies i = acts at *
  have HA' := HA
  clear HA
  have HX : Hid (nth [] p.bodies i = acts) := HA'
  clear HA'
  by_cases h5 : acts.length ≤ 4
  · have h5' : ¬ (4 : Int) < (acts.length : Int) := by omega
    go_enter Try.func84, Try.ntmps84
    go_wp2_with fail
    go_loopw [20] (fun q w' => ∃ k : Nat, k ≤ acts.length ∧ q = .int .i64 k ∧ Below (w.alloc (.cells #[.slice ac p.cells.length cc, .slice (some ⟨b, off, none⟩) p.bodies.length cb] 26)).heap.size (w.alloc (.cells #[.slice ac p.cells.length cc, .slice (some ⟨b, off, none⟩) p.bodies.length cb] 26)) w' ∧ (∀ j, j < k → acB (nth Ac.z acts j) p.cells.length i p.bodies.length = true)) (fun q _ => acts.length - (intOf q).toNat)
    case atStart => exact ⟨0, Nat.zero_le _, rfl, Below.refl _ _, fun j hj => absurd hj (Nat.not_lt_zero _)⟩
    case round =>
      obtain ⟨k, hk, rfl, hb, hall⟩ := hrel
      have hbw' : Below w.heap.size w _ := below_after (Below.refl _ _) (Nat.le_refl _) hb
      by_cases hlt : k < acts.length
      · obtain ⟨b2, off2, dv, kv, rfl, hb2, d0, d1, d2, d3, hd, hk'⟩ := has k hlt
        rw [← hbw'.cell (p := ⟨b2, _, none⟩) hb2] at d0 d1 d2 d3
        obtain ⟨ad, cd, rfl, hmd⟩ := hd.shape
        obtain ⟨ak, ck, rfl, hmk⟩ := hk'.shape
        have e0 : wr.cell? ⟨w.heap.size, 0, none⟩ = some (.slice ac p.cells.length cc) := by rw [hb.cell (p := ⟨w.heap.size, 0, none⟩) (by simp)]; simp [go_sem]
        have e1 : wr.cell? ⟨w.heap.size, 1, none⟩ = some (.slice (some ⟨b, off, none⟩) p.bodies.length cb) := by rw [hb.cell (p := ⟨w.heap.size, 1, none⟩) (by simp)]; simp [go_sem]
        have hz : w.heap.size < wr.heap.size := by have := hb.size; simp at this; omega
        have hz2 : b2 < wr.heap.size := by omega
        go_wp2_with fail
        have HP : Hid (∀ o, Below w.heap.size w (wr.alloc o)) := fun o => hbw'.alloc (by omega) o
        refine (actInForm_any (nth Ac.z acts k) _ _ _ _ p.cells p.bodies _ _ (hd.mono (HP.out _)) (hk'.mono (HP.out _)) (hc.mono (HP.out _)) (hB.mono (HP.out _))).mono ?_
        rintro e w1 ⟨rfl, hb1⟩
        have HB : Hid (Below (w.alloc (.cells #[.slice ac p.cells.length cc, .slice (some ⟨b, off, none⟩) p.bodies.length cb] 26)).heap.size (w.alloc (.cells #[.slice ac p.cells.length cc, .slice (some ⟨b, off, none⟩) p.bodies.length cb] 26)) w1) := below_after hb hb.size hb1
        clear hb1 d0 d1 d2 d3 e0 e1 HP hd hk' hc hB ha has c0 hbw'
        cases hd : acB (nth Ac.z acts k) p.cells.length i p.bodies.length
        · have HF : Hid (boB p i = false) := by
            simp only [Hid, boB, HX.out, not_all_nth Ac.z (acB · p.cells.length i p.bodies.length) acts k hlt hd, Bool.and_false]
          clear hd hall hb
          go_wp2
          go_ret
          exact ⟨by rw [HF.out]; rfl, below_after (Below.refl _ _) (Nat.le_refl _) HB.out⟩
        · have HA : Hid (∀ j, j < k + 1 → acB (nth Ac.z acts j) p.cells.length i p.bodies.length = true) := so_far hall hd
          clear hd hall hb
          go_wp2
          go_roundw
          case rel => exact ⟨k + 1, by omega, by go_num, HB.out, HA.out⟩
          case measure => simp [intOf]; omega
      · have HF : Hid (boB p i = true) := by
          have := all_nth Ac.z (acB · p.cells.length i p.bodies.length) acts (fun j hj => hall j (by omega))
          simp only [Hid, boB, HX.out, this, h5]; rfl
        clear hall has hb
        go_wp2
        go_ret
        exact ⟨by rw [HF.out]; rfl, hbw'⟩
  · have h5' : (4 : Int) < (acts.length : Int) := by omega
    have HF : Hid (boB p i = false) := by simp [Hid, boB, HX.out, h5]
    clear has
    go_enter Try.func84, Try.ntmps84
    go_wp2
    go_ret
    exact ⟨by rw [HF.out]; rfl, (by repeat (first | exact Below.refl _ _ | refine Below.alloc ?_ (by simp; try omega) _ | refine Below.drew ?_ | refine Below.setCell ?_ (by simp; try omega) _))⟩
end Go.Proofs.Ytgbgjljflgbcaaa

namespace Go.Proofs.Ytgbgjljflgbcaaa
open Go.RowKit
def Form (p : Pr) : Prop := p.bodies.length ≤ 4 ∧ ∀ i, i < p.bodies.length → boB p i = true
theorem acB_ks {a : Ac} {nc body nb : Int} (h : acB a nc body nb = true) : a.ks.length ≤ 2 ∧ ∀ k, k ∈ a.ks → body < k ∧ k < nb := by
  unfold acB at h
  split at h
  · simp at h; simp [h]
  split at h
  · simp [ksB, inB, kidB] at h
    exact ⟨by omega, fun k hk => by have := h.2.2 k hk; omega⟩
  split at h
  · simp at h; simp [h]
  split at h
  · simp at h; simp [h]
  · simp at h
theorem boB_acts {p : Pr} {i : Nat} (h : boB p i = true) : (nth [] p.bodies i).length ≤ 4 ∧ ∀ a, a ∈ nth [] p.bodies i → acB a p.cells.length i p.bodies.length = true := by
  simp [boB] at h
  exact ⟨h.1, h.2⟩
theorem trKs_le {g : Nat → Nat} {M : Nat} (hg : ∀ n, g n ≤ M) (ks : List Int) : trKs g ks ≤ ks.length * M := by
  induction ks with
  | nil => simp [trKs]
  | cons k ks ih => simp only [trKs, List.map_cons, List.sum_cons, List.length_cons] at *; have := hg k.toNat; rw [Nat.succ_mul]; omega
theorem trAs_le {g : Nat → Nat} {M : Nat} (hg : ∀ n, g n ≤ M) (acts : List Ac) (h : ∀ a, a ∈ acts → a.ks.length ≤ 2) : trAs g acts ≤ acts.length * (2 * M) := by
  induction acts with
  | nil => simp [trAs]
  | cons a acts ih =>
    have h1 := trKs_le hg a.ks
    have h2 := h a (by simp)
    have h3 := ih (fun b hb => h b (by simp [hb]))
    have h4 : a.ks.length * M ≤ 2 * M := Nat.mul_le_mul_right _ h2
    simp only [trAs, List.map_cons, List.sum_cons, List.length_cons] at *
    rw [Nat.succ_mul]; omega
theorem trKs_snoc (g : Nat → Nat) (ks : List Int) (k : Int) : trKs g (ks ++ [k]) = trKs g ks + g k.toNat := by simp [trKs]
theorem trAs_snoc (g : Nat → Nat) (acts : List Ac) (a : Ac) : trAs g (acts ++ [a]) = trAs g acts + trKs g a.ks := by simp [trAs]
theorem tr_le {p : Pr} (h : Form p) (f : Nat) : ∀ i, tr p f i ≤ 9 ^ f := by
  induction f with
  | zero => intro i; simp [tr]
  | succ f ih =>
    intro i
    by_cases hi : i < p.bodies.length
    · obtain ⟨h1, h2⟩ := boB_acts (h.2 i hi)
      have h3 := trAs_le ih (nth [] p.bodies i) (fun a ha => (acB_ks (h2 a ha)).1)
      have h4 : (nth [] p.bodies i).length * (2 * 9 ^ f) ≤ 4 * (2 * 9 ^ f) := Nat.mul_le_mul_right _ h1
      have h5 : 0 < 9 ^ f := Nat.pow_pos (by omega)
      simp only [tr, Nat.pow_succ]; omega
    · have : nth [] p.bodies i = [] := by simp [nth, List.getElem?_eq_none (by omega : p.bodies.length ≤ i)]
      have h5 : 0 < 9 ^ f := Nat.pow_pos (by omega)
      simp only [tr, this, trAs, List.map_nil, List.sum_nil, Nat.pow_succ]; omega
theorem pow_le4 {f : Nat} (h : f ≤ 4) : 9 ^ f ≤ 6561 := by
  have : 9 ^ f ≤ 9 ^ 4 := Nat.pow_le_pow_right (by omega) h
  simpa using this
theorem trKs_congr {g g' : Nat → Nat} {ks : List Int} (h : ∀ k, k ∈ ks → g k.toNat = g' k.toNat) : trKs g ks = trKs g' ks := by
  unfold trKs; rw [List.map_congr_left h]
theorem trAs_congr {g g' : Nat → Nat} {acts : List Ac} (h : ∀ a, a ∈ acts → ∀ k, k ∈ a.ks → g k.toNat = g' k.toNat) : trAs g acts = trAs g' acts := by
  unfold trAs; rw [List.map_congr_left fun a ha => trKs_congr (h a ha)]
theorem tr_more {p : Pr} (h : Form p) (f : Nat) : ∀ i, p.bodies.length ≤ f + i → i < p.bodies.length → tr p (f + 1) i = tr p f i := by
  induction f with
  | zero => intro i h1 h2; omega
  | succ f ih =>
    intro i h1 h2
    obtain ⟨h3, h4⟩ := boB_acts (h.2 i h2)
    rw [tr, tr]
    rw [trAs_congr fun a ha k hk => ?_]
    have := (acB_ks (h4 a ha)).2 k hk
    exact ih k.toNat (by omega) (by omega)
theorem tr_four {p : Pr} (h : Form p) (i : Nat) (hi : i < p.bodies.length) : tr p 4 i = 1 + trAs (tr p 4) (nth [] p.bodies i) := by
  rw [← tr_more h 4 i (by have := h.1; omega) hi, tr]
theorem IntsAt.nil (w : World) (a : Option Addr) (cap : Nat) : IntsAt w (.slice a 0 cap) [] := ⟨a, cap, rfl, by simp, fun i hi => absurd hi (by simp)⟩
set_option maxHeartbeats 400000 in
theorem actKids_any (x : Ac) (dv kv : Value) (nc body nb : Int) (w : World) (hd : DeedsAt w dv x.ds) (hk : IntsAt w kv x.ks) (hok : acB x nc body nb = true) :
    Calls Try.prog 122 #[.agg #[.int .i64 x.k, dv, kv, .int .i64 x.r]] w fun r w' => ∃ v, r = .returned v ∧ IntsAt w' v x.ks ∧ Below w.heap.size w w' := by
  obtain ⟨ad, cd, hdv, hmd⟩ := hd.shape
  obtain ⟨ak, ck, hkv, hmk⟩ := hk.shape
  subst hdv hkv
  by_cases h2 : x.k = 2 ∧ x.ds.length = 0 ∧ x.r = 0
  · have h1 : ¬ (x.k = 1 ∧ x.ks.length = 0 ∧ x.r = 0) := by omega
    have HV : Hid (acV x (.slice ad x.ds.length cd) (.slice ak x.ks.length ck) = .iface 168 (.agg #[.slice ak x.ks.length ck])) := by simp only [Hid, acV, if_neg h1, if_pos h2]
    clear h1 h2 hok
    go_enter Try.func122, Try.ntmps122
    go_wp2_with fail
    refine (actPart_any x _ _ _ (by exact hd.mono (by repeat (first | exact Below.refl _ _ | refine Below.alloc ?_ (by simp; try omega) _ | refine Below.drew ?_ | refine Below.setCell ?_ (by simp; try omega) _))) (by exact hk.mono (by repeat (first | exact Below.refl _ _ | refine Below.alloc ?_ (by simp; try omega) _ | refine Below.drew ?_ | refine Below.setCell ?_ (by simp; try omega) _)))).mono ?_
    rintro e w1 ⟨rfl, hb1⟩
    rw [HV.out]
    have hz : w.heap.size < w1.heap.size := by have := hb1.size; simp at this; omega
    have hb : Below w.heap.size w w1 := below_after (Below.refl _ _) (Nat.le_refl _) hb1
    have HB : Hid (∀ o, Below w.heap.size w (w1.alloc o)) := fun o => hb.alloc (by omega) _
    clear hb1 hb
    go_wp2
    go_ret
    exact ⟨_, rfl, hk.mono (HB.out _), HB.out _⟩
  · have hks : x.ks = [] := by
      unfold acB at hok
      split at hok
      · simp at hok; exact hok.1.1
      split at hok
      · simp at hok; exact absurd ⟨‹_›, by simp [hok.1.1], hok.1.2⟩ h2
      split at hok
      · simp at hok; exact hok.1.2
      split at hok
      · simp at hok; exact hok.1.2
      · simp at hok
    have HK : Hid (x.ks = []) := hks
    have hV : ∃ t u, acV x (.slice ad x.ds.length cd) (.slice ak x.ks.length ck) = .iface t u ∧ (t = 165 ∨ t = 170 ∨ t = 172 ∨ t = 181) := by
      unfold acV
      split
      · exact ⟨_, _, rfl, by simp⟩
      split
      · exact ⟨_, _, rfl, by simp⟩
      split
      · exact ⟨_, _, rfl, by simp⟩
      · exact ⟨_, _, rfl, by simp⟩
    obtain ⟨t, u, HV0, ht⟩ := hV
    have HV := (show Hid _ from HV0)
    clear HV0 hok h2 hks
    rcases ht with rfl | rfl | rfl | rfl
    all_goals
      go_enter Try.func122, Try.ntmps122
      go_wp2_with fail
      refine (actPart_any x _ _ _ (by exact hd.mono (by repeat (first | exact Below.refl _ _ | refine Below.alloc ?_ (by simp; try omega) _ | refine Below.drew ?_ | refine Below.setCell ?_ (by simp; try omega) _))) (by exact hk.mono (by repeat (first | exact Below.refl _ _ | refine Below.alloc ?_ (by simp; try omega) _ | refine Below.drew ?_ | refine Below.setCell ?_ (by simp; try omega) _)))).mono ?_
      rintro e w1 ⟨rfl, hb1⟩
      rw [HV.out]
      have HB : Hid (Below w.heap.size w w1) := below_after (Below.refl _ _) (Nat.le_refl _) hb1
      clear hb1
      go_wp2
      go_ret
      exact ⟨_, rfl, by rw [HK.out]; exact IntsAt.nil _ _ _, HB.out⟩
end Go.Proofs.Ytgbgjljflgbcaaa
