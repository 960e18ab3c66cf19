import Derived.Test.YtgbgjljflgbcaaaXn07
namespace Go.Proofs.Ytgbgjljflgbcaaa
open Go.RowKit
def Form (p : Pr) : Prop := p.bodies.length ≤ 4 ∧ ∀ i, i < p.bodies.length → boB p i = true
theorem acB_ks {a : Ac} {nc body nb : Int} (h : acB a nc body nb = true) : a.ks.length ≤ 2 ∧ ∀ k, k ∈ a.ks → body < k ∧ k < nb := by
  unfold acB at h
  split at h
  · simp at h; simp [h]
  split at h
  · simp [ksB, inB, kidB] at h
    exact ⟨by omega, fun k hk => by have := h.2.2 k hk; omega⟩
  split at h
  · simp at h; simp [h]
  split at h
  · simp at h; simp [h]
  · simp at h
theorem boB_acts {p : Pr} {i : Nat} (h : boB p i = true) : (nth [] p.bodies i).length ≤ 4 ∧ ∀ a, a ∈ nth [] p.bodies i → acB a p.cells.length i p.bodies.length = true := by
  simp [boB] at h
  exact ⟨h.1, h.2⟩
theorem trKs_le {g : Nat → Nat} {M : Nat} (hg : ∀ n, g n ≤ M) (ks : List Int) : trKs g ks ≤ ks.length * M := by
  induction ks with
  | nil => simp [trKs]
  | cons k ks ih => simp only [trKs, List.map_cons, List.sum_cons, List.length_cons] at *; have := hg k.toNat; rw [Nat.succ_mul]; omega
theorem trAs_le {g : Nat → Nat} {M : Nat} (hg : ∀ n, g n ≤ M) (acts : List Ac) (h : ∀ a, a ∈ acts → a.ks.length ≤ 2) : trAs g acts ≤ acts.length * (2 * M) := by
  induction acts with
  | nil => simp [trAs]
  | cons a acts ih =>
    have h1 := trKs_le hg a.ks
    have h2 := h a (by simp)
    have h3 := ih (fun b hb => h b (by simp [hb]))
    have h4 : a.ks.length * M ≤ 2 * M := Nat.mul_le_mul_right _ h2
    simp only [trAs, List.map_cons, List.sum_cons, List.length_cons] at *
    rw [Nat.succ_mul]; omega
theorem trKs_snoc (g : Nat → Nat) (ks : List Int) (k : Int) : trKs g (ks ++ [k]) = trKs g ks + g k.toNat := by simp [trKs]
theorem trAs_snoc (g : Nat → Nat) (acts : List Ac) (a : Ac) : trAs g (acts ++ [a]) = trAs g acts + trKs g a.ks := by simp [trAs]
theorem tr_le {p : Pr} (h : Form p) (f : Nat) : ∀ i, tr p f i ≤ 9 ^ f := by
  induction f with
  | zero => intro i; simp [tr]
  | succ f ih =>
    intro i
    by_cases hi : i < p.bodies.length
    · obtain ⟨h1, h2⟩ := boB_acts (h.2 i hi)
      have h3 := trAs_le ih (nth [] p.bodies i) (fun a ha => (acB_ks (h2 a ha)).1)
      have h4 : (nth [] p.bodies i).length * (2 * 9 ^ f) ≤ 4 * (2 * 9 ^ f) := Nat.mul_le_mul_right _ h1
      have h5 : 0 < 9 ^ f := Nat.pow_pos (by omega)
      simp only [tr, Nat.pow_succ]; omega
    · have : nth [] p.bodies i = [] := by simp [nth, List.getElem?_eq_none (by omega : p.bodies.length ≤ i)]
      have h5 : 0 < 9 ^ f := Nat.pow_pos (by omega)
      simp only [tr, this, trAs, List.map_nil, List.sum_nil, Nat.pow_succ]; omega
theorem pow_le4 {f : Nat} (h : f ≤ 4) : 9 ^ f ≤ 6561 := by
  have : 9 ^ f ≤ 9 ^ 4 := Nat.pow_le_pow_right (by omega) h
  simpa using this
theorem IntsAt.nil (w : World) (a : Option Addr) (cap : Nat) : IntsAt w (.slice a 0 cap) [] := ⟨a, cap, rfl, by simp, fun i hi => absurd hi (by simp)⟩
set_option maxHeartbeats 400000 in
theorem actKids_any (x : Ac) (dv kv : Value) (nc body nb : Int) (w : World) (hd : DeedsAt w dv x.ds) (hk : IntsAt w kv x.ks) (hok : acB x nc body nb = true) :
    Calls Try.prog 122 #[.agg #[.int .i64 x.k, dv, kv, .int .i64 x.r]] w fun r w' => ∃ v, r = .returned v ∧ IntsAt w' v x.ks ∧ Below w.heap.size w w' := by
  obtain ⟨ad, cd, hdv, hmd⟩ := hd.shape
  obtain ⟨ak, ck, hkv, hmk⟩ := hk.shape
  subst hdv hkv
  by_cases h2 : x.k = 2 ∧ x.ds.length = 0 ∧ x.r = 0
  · have h1 : ¬ (x.k = 1 ∧ x.ks.length = 0 ∧ x.r = 0) := by omega
    have HV : Hid (acV x (.slice ad x.ds.length cd) (.slice ak x.ks.length ck) = .iface 168 (.agg #[.slice ak x.ks.length ck])) := by simp only [Hid, acV, if_neg h1, if_pos h2]
    clear h1 h2 hok
    go_enter Try.func122, Try.ntmps122
    go_wp2_with fail
    refine (actPart_any x _ _ _ (by exact hd.mono (by repeat (first | exact Below.refl _ _ | refine Below.alloc ?_ (by simp; try omega) _ | refine Below.drew ?_ | refine Below.setCell ?_ (by simp; try omega) _))) (by exact hk.mono (by repeat (first | exact Below.refl _ _ | refine Below.alloc ?_ (by simp; try omega) _ | refine Below.drew ?_ | refine Below.setCell ?_ (by simp; try omega) _)))).mono ?_
    rintro e w1 ⟨rfl, hb1⟩
    rw [HV.out]
    have hz : w.heap.size < w1.heap.size := by have := hb1.size; simp at this; omega
    have hb : Below w.heap.size w w1 := below_after (Below.refl _ _) (Nat.le_refl _) hb1
    have HB : Hid (∀ o, Below w.heap.size w (w1.alloc o)) := fun o => hb.alloc (by omega) _
    clear hb1 hb
    go_wp2
    go_ret
    exact ⟨_, rfl, hk.mono (HB.out _), HB.out _⟩
  · have hks : x.ks = [] := by
      unfold acB at hok
      split at hok
      · simp at hok; exact hok.1.1
      split at hok
      · simp at hok; exact absurd ⟨‹_›, by simp [hok.1.1], hok.1.2⟩ h2
      split at hok
      · simp at hok; exact hok.1.2
      split at hok
      · simp at hok; exact hok.1.2
      · simp at hok
    have HK : Hid (x.ks = []) := hks
    have hV : ∃ t u, acV x (.slice ad x.ds.length cd) (.slice ak x.ks.length ck) = .iface t u ∧ (t = 165 ∨ t = 170 ∨ t = 172 ∨ t = 181) := by
      unfold acV
      split
      · exact ⟨_, _, rfl, by simp⟩
      split
      · exact ⟨_, _, rfl, by simp⟩
      split
      · exact ⟨_, _, rfl, by simp⟩
      · exact ⟨_, _, rfl, by simp⟩
    obtain ⟨t, u, HV0, ht⟩ := hV
    have HV := (show Hid _ from HV0)
    clear HV0 hok h2 hks
    rcases ht with rfl | rfl | rfl | rfl
    all_goals
      go_enter Try.func122, Try.ntmps122
      go_wp2_with fail
      refine (actPart_any x _ _ _ (by exact hd.mono (by repeat (first | exact Below.refl _ _ | refine Below.alloc ?_ (by simp; try omega) _ | refine Below.drew ?_ | refine Below.setCell ?_ (by simp; try omega) _))) (by exact hk.mono (by repeat (first | exact Below.refl _ _ | refine Below.alloc ?_ (by simp; try omega) _ | refine Below.drew ?_ | refine Below.setCell ?_ (by simp; try omega) _)))).mono ?_
      rintro e w1 ⟨rfl, hb1⟩
      rw [HV.out]
      have HB : Hid (Below w.heap.size w w1) := below_after (Below.refl _ _) (Nat.le_refl _) hb1
      clear hb1
      go_wp2
      go_ret
      exact ⟨_, rfl, by rw [HK.out]; exact IntsAt.nil _ _ _, HB.out⟩
end Go.Proofs.Ytgbgjljflgbcaaa
