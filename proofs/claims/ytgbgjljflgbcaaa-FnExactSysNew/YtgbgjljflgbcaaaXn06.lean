import Derived.Test.YtgbgjljflgbcaaaXn05
namespace Go.Proofs.Ytgbgjljflgbcaaa
open Go.RowKit
set_option maxHeartbeats 400000 in
theorem actInForm_any (x : Ac) (dv kv cv bv : Value) (cs : List Int) (bs : List (List Ac)) (body : Int) (w : World) (hd : DeedsAt w dv x.ds) (hk : IntsAt w kv x.ks) (hc : IntsAt w cv cs) (hB : BodiesAt w bv bs) :
    Calls Try.prog 121 #[.agg #[.int .i64 x.k, dv, kv, .int .i64 x.r], .agg #[cv, bv], .int .i64 body] w fun r w' => r = .returned (.bool (acB x cs.length body bs.length)) ∧ Below w.heap.size w w' := by
  obtain ⟨ac, cc, rfl, hmc⟩ := hc.shape
  obtain ⟨ab, cb, rfl, hmb⟩ := hB.shape
  clear hc hB
  obtain ⟨ad, cd, hdv, hmd⟩ := hd.shape
  obtain ⟨ak, ck, hkv, hmk⟩ := hk.shape
  subst hdv hkv
  by_cases h1 : x.k = 1 ∧ x.ks.length = 0 ∧ x.r = 0
  · have HV : Hid (acV x (.slice ad x.ds.length cd) (.slice ak x.ks.length ck) = .iface 165 (.agg #[.slice ad x.ds.length cd])) := by simp only [Hid, acV, if_pos h1]
    have HF : Hid (acB x cs.length body bs.length = dsB x.ds cs.length) := by simp [Hid, acB, h1]
    clear h1
    go_enter Try.func121, Try.ntmps121
    go_wp2_with fail
    refine (actPart_any x _ _ _ (by exact hd.mono (by repeat (first | exact Below.refl _ _ | refine Below.alloc ?_ (by simp; try omega) _ | refine Below.drew ?_ | refine Below.setCell ?_ (by simp; try omega) _))) (by exact hk.mono (by repeat (first | exact Below.refl _ _ | refine Below.alloc ?_ (by simp; try omega) _ | refine Below.drew ?_ | refine Below.setCell ?_ (by simp; try omega) _)))).mono ?_
    rintro e w1 ⟨rfl, hb1⟩
    rw [HV.out]
    have e0 : w1.cell? ⟨w.heap.size + 1, 0, none⟩ = some (.slice ac cs.length cc) := by rw [hb1.cell (p := ⟨w.heap.size + 1, 0, none⟩) (by simp)]; simp [go_sem]
    have e1 : w1.cell? ⟨w.heap.size + 1, 1, none⟩ = some (.slice ab bs.length cb) := by rw [hb1.cell (p := ⟨w.heap.size + 1, 1, none⟩) (by simp)]; simp [go_sem]
    have hz : w.heap.size + 1 < w1.heap.size := by have := hb1.size; simp at this; omega
    have hb : Below w.heap.size w w1 := below_after2 (Below.refl _ _) (Nat.le_refl _) hb1
    have HX : Hid (∀ o, DeedsAt (w1.alloc o) (.slice ad x.ds.length cd) x.ds) := fun o => hd.mono (hb.alloc (by omega) _)
    go_wp2_with fail
    refine (deedsInForm_any _ x.ds _ _ (HX.out _)).mono ?_
    rintro e w2 ⟨rfl, hb2⟩
    have HB : Hid (Below w.heap.size w w2) := below_after hb (by omega) hb2
    clear hb1 hb2 e0 e1
    go_wp2
    go_ret
    exact ⟨by rw [HF.out]; rfl, HB.out⟩
  by_cases h2 : x.k = 2 ∧ x.ds.length = 0 ∧ x.r = 0
  · have HV : Hid (acV x (.slice ad x.ds.length cd) (.slice ak x.ks.length ck) = .iface 168 (.agg #[.slice ak x.ks.length ck])) := by simp only [Hid, acV, if_neg h1, if_pos h2]
    have HF : Hid (acB x cs.length body bs.length = ksB x.ks body bs.length) := by simp [Hid, acB, h2]
    clear h1 h2
    go_enter Try.func121, Try.ntmps121
    go_wp2_with fail
    refine (actPart_any x _ _ _ (by exact hd.mono (by repeat (first | exact Below.refl _ _ | refine Below.alloc ?_ (by simp; try omega) _ | refine Below.drew ?_ | refine Below.setCell ?_ (by simp; try omega) _))) (by exact hk.mono (by repeat (first | exact Below.refl _ _ | refine Below.alloc ?_ (by simp; try omega) _ | refine Below.drew ?_ | refine Below.setCell ?_ (by simp; try omega) _)))).mono ?_
    rintro e w1 ⟨rfl, hb1⟩
    rw [HV.out]
    have e0 : w1.cell? ⟨w.heap.size + 1, 0, none⟩ = some (.slice ac cs.length cc) := by rw [hb1.cell (p := ⟨w.heap.size + 1, 0, none⟩) (by simp)]; simp [go_sem]
    have e1 : w1.cell? ⟨w.heap.size + 1, 1, none⟩ = some (.slice ab bs.length cb) := by rw [hb1.cell (p := ⟨w.heap.size + 1, 1, none⟩) (by simp)]; simp [go_sem]
    have hz : w.heap.size + 1 < w1.heap.size := by have := hb1.size; simp at this; omega
    have hb : Below w.heap.size w w1 := below_after2 (Below.refl _ _) (Nat.le_refl _) hb1
    have HX : Hid (∀ o, IntsAt (w1.alloc o) (.slice ak x.ks.length ck) x.ks) := fun o => hk.mono (hb.alloc (by omega) _)
    go_wp2_with fail
    refine (kidsInForm_any _ x.ks _ _ _ (HX.out _)).mono ?_
    rintro e w2 ⟨rfl, rfl⟩
    have HB : Hid (∀ o, Below w.heap.size w (w1.alloc o)) := fun o => hb.alloc (by omega) _
    clear hb1 e0 e1
    go_wp2
    go_ret
    exact ⟨by rw [HF.out]; rfl, HB.out _⟩
  by_cases h3 : x.k = 3 ∧ x.ds.length = 0 ∧ x.ks.length = 0 ∧ x.r = 0
  · have HV : Hid (acV x (.slice ad x.ds.length cd) (.slice ak x.ks.length ck) = .iface 170 (.agg #[])) := by simp only [Hid, acV, if_neg h1, if_neg h2, if_pos h3]
    have HF : Hid (acB x cs.length body bs.length = true) := by simp [Hid, acB, h3]
    clear h1 h2 h3
    go_enter Try.func121, Try.ntmps121
    go_wp2_with fail
    refine (actPart_any x _ _ _ (by exact hd.mono (by repeat (first | exact Below.refl _ _ | refine Below.alloc ?_ (by simp; try omega) _ | refine Below.drew ?_ | refine Below.setCell ?_ (by simp; try omega) _))) (by exact hk.mono (by repeat (first | exact Below.refl _ _ | refine Below.alloc ?_ (by simp; try omega) _ | refine Below.drew ?_ | refine Below.setCell ?_ (by simp; try omega) _)))).mono ?_
    rintro e w1 ⟨rfl, hb1⟩
    rw [HV.out]
    have hz : w.heap.size + 1 < w1.heap.size := by have := hb1.size; simp at this; omega
    have HB : Hid (∀ o, Below w.heap.size w (w1.alloc o)) := fun o => (below_after2 (Below.refl _ _) (Nat.le_refl _) hb1).alloc (by omega) _
    clear hb1
    go_wp2
    go_ret
    exact ⟨by rw [HF.out]; rfl, HB.out _⟩
  by_cases h4 : x.k = 4 ∧ x.ds.length = 0 ∧ x.ks.length = 0
  · have HV : Hid (acV x (.slice ad x.ds.length cd) (.slice ak x.ks.length ck) = .iface 172 (.agg #[.int .i64 x.r])) := by simp only [Hid, acV, if_neg h1, if_neg h2, if_neg h3, if_pos h4]
    have HF : Hid (acB x cs.length body bs.length = plB x.r 3) := by simp [Hid, acB, h4]
    clear h1 h2 h3 h4
    go_enter Try.func121, Try.ntmps121
    go_wp2_with fail
    refine (actPart_any x _ _ _ (by exact hd.mono (by repeat (first | exact Below.refl _ _ | refine Below.alloc ?_ (by simp; try omega) _ | refine Below.drew ?_ | refine Below.setCell ?_ (by simp; try omega) _))) (by exact hk.mono (by repeat (first | exact Below.refl _ _ | refine Below.alloc ?_ (by simp; try omega) _ | refine Below.drew ?_ | refine Below.setCell ?_ (by simp; try omega) _)))).mono ?_
    rintro e w1 ⟨rfl, hb1⟩
    rw [HV.out]
    have hz : w.heap.size + 1 < w1.heap.size := by have := hb1.size; simp at this; omega
    have HB : Hid (∀ o, Below w.heap.size w (w1.alloc o)) := fun o => (below_after2 (Below.refl _ _) (Nat.le_refl _) hb1).alloc (by omega) _
    clear hb1
    go_wp2_with (go_at_call 45; refine (isPlace_any _ _ _).mono ?_; rintro e w' ⟨rfl, rfl⟩)
    go_ret
    exact ⟨by rw [HF.out]; rfl, HB.out _⟩
  · have HV : Hid (acV x (.slice ad x.ds.length cd) (.slice ak x.ks.length ck) = .iface 181 (.agg #[])) := by simp only [Hid, acV, if_neg h1, if_neg h2, if_neg h3, if_neg h4]
    have HF : Hid (acB x cs.length body bs.length = false) := by
      unfold Hid acB
      split
      · simp; intro a b; exact absurd ⟨‹_›, by simp [a], b⟩ h1
      split
      · simp; intro a b; exact absurd ⟨‹_›, by simp [a], b⟩ h2
      split
      · simp; intro a b c; exact absurd ⟨‹_›, by simp [a], by simp [b], c⟩ h3
      split
      · simp; intro a b; exact absurd ⟨‹_›, by simp [a], by simp [b]⟩ h4
      rfl
    clear h1 h2 h3 h4
    go_enter Try.func121, Try.ntmps121
    go_wp2_with fail
    refine (actPart_any x _ _ _ (by exact hd.mono (by repeat (first | exact Below.refl _ _ | refine Below.alloc ?_ (by simp; try omega) _ | refine Below.drew ?_ | refine Below.setCell ?_ (by simp; try omega) _))) (by exact hk.mono (by repeat (first | exact Below.refl _ _ | refine Below.alloc ?_ (by simp; try omega) _ | refine Below.drew ?_ | refine Below.setCell ?_ (by simp; try omega) _)))).mono ?_
    rintro e w1 ⟨rfl, hb1⟩
    rw [HV.out]
    have HB : Hid (Below w.heap.size w w1) := (below_after2 (Below.refl _ _) (Nat.le_refl _) hb1)
    clear hb1
    go_wp2
    go_ret
    exact ⟨by rw [HF.out]; rfl, HB.out⟩
end Go.Proofs.Ytgbgjljflgbcaaa
