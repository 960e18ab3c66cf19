import Derived.Test.YtpehlekjfnkhoaaDoorT2
namespace Go.Proofs.YtpehlekjfnkhoaaDoor
open Go.RowKit

set_option maxHeartbeats 400000 in
theorem deedsInForm_any (v : Value) (ds : List De) (c : Int) (w : World) (h : DeedsAt w v ds) :
    Calls Tryd.prog 66 #[v, .int .i64 c] w fun r w' => r = .returned (.bool (dsB ds c)) ∧ Below w.heap.size w w' := by
  obtain ⟨a, cap, rfl, hm, hc⟩ := h
  by_cases h5 : ds.length ≤ 5
  · have h5' : ¬ (5 : Int) < (ds.length : Int) := by omega
    go_enter Tryd.func66, Tryd.ntmps66
    go_wp2_with fail
    go_loopw [12] (fun i w' => ∃ k : Nat, k ≤ ds.length ∧ i = .int .i64 k ∧ Below w.heap.size w w' ∧ (∀ j, j < k → deB (nth De.z ds j) c = true)) (fun i _ => ds.length - (intOf i).toNat)
    case atStart => exact ⟨0, Nat.zero_le _, rfl, Below.refl _ _, fun j hj => absurd hj (Nat.not_lt_zero _)⟩
    case round =>
      obtain ⟨k, hk, rfl, hb, hall⟩ := hrel
      by_cases hlt : k < ds.length
      · obtain ⟨b, off, rfl, hbw, c0, c1, c2⟩ := hc k hlt
        rw [← hb.cell (p := ⟨b, _, none⟩) hbw] at c0 c1 c2
        go_wp2_with fail
        refine (deedInForm_any (nth De.z ds k) c _).mono ?_
        rintro e w1 ⟨rfl, hb1⟩
        have HB : Hid (Below w.heap.size w w1) := below_after hb hb.size hb1
        clear hb hb1 c0 c1 c2 hc
        cases hd : deB (nth De.z ds k) c
        · have HF : Hid (dsB ds c = false) := by simp [Hid, dsB, not_all_nth De.z (deB · c) ds k hlt hd]
          clear hd hall
          go_wp2
          go_ret
          exact ⟨by rw [HF.out]; rfl, HB.out⟩
        · have HA : Hid (∀ j, j < k + 1 → deB (nth De.z ds j) c = true) := fun j hj => by
            rcases Nat.lt_succ_iff_lt_or_eq.1 hj with h | rfl
            · exact hall j h
            · exact hd
          clear hd hall
          go_wp2
          go_roundw
          case rel => exact ⟨k + 1, by omega, by go_num, HB.out, HA.out⟩
          case measure => simp [intOf]; omega
      · have HF : Hid (dsB ds c = true) := by
          have := all_nth De.z (deB · c) ds (fun j hj => hall j (by omega))
          simp [Hid, dsB, this, h5]
        clear hall hc
        go_wp2
        go_ret
        exact ⟨by rw [HF.out]; rfl, hb⟩
  · have h5' : (5 : Int) < (ds.length : Int) := by omega
    have HF : Hid (dsB ds c = false) := by simp [Hid, dsB, h5]
    clear hc
    go_enter Tryd.func66, Tryd.ntmps66
    go_wp2
    go_ret
    exact ⟨by rw [HF.out]; rfl, Below.refl _ _⟩

end Go.Proofs.YtpehlekjfnkhoaaDoor
