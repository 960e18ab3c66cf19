import Derived.Test.YtpehlekjfnkhoaaDoorT1
import Derived.Deep.QuietTactic
import Derived.BigQuiet
namespace Go.Proofs.YtpehlekjfnkhoaaDoor
open Go.RowKit
set_option linter.unusedSimpArgs false
set_option linter.unusedVariables false

theorem eq_of_nth {α : Type} (z : α) {l m : List α} (hl : l.length = m.length) (h : ∀ i, i < l.length → nth z l i = nth z m i) : l = m := by
  apply List.ext_getElem hl
  intro i h1 h2
  have := h i h1
  rw [nth_eq z l i h1, nth_eq z m i h2] at this
  exact this
theorem ne_of_nth {α : Type} (z : α) {l m : List α} {i : Nat} (h : nth z l i ≠ nth z m i) : l ≠ m := fun e => h (by rw [e])

/-- is it so? -/
noncomputable def isT (p : Prop) : Bool := @decide p (Classical.propDecidable p)
theorem isT_yes {p : Prop} (h : p) : isT p = true := @decide_eq_true p (Classical.propDecidable p) h
theorem isT_no {p : Prop} (h : ¬ p) : isT p = false := @decide_eq_false p (Classical.propDecidable p) h

set_option maxHeartbeats 1000000 in
theorem lqInts_any (xs ys : List Int) (v v' : Value) (w : World) (h : IntsAt w v xs) (h' : IntsAt w v' ys) :
    Calls Tryd.prog 8 #[v, v'] w fun r w' => r = .returned (.bool (decide (xs = ys))) ∧ Below w.heap.size w w' := by
  obtain ⟨a, cap, rfl, hm, hc⟩ := h
  obtain ⟨a', cap', rfl, hm', hc'⟩ := h'
  by_cases hlen : xs.length = ys.length
  · have HC := (show Hid (∀ i, i < xs.length → _) from hc)
    have HC' := (show Hid (∀ i, i < ys.length → _) from hc')
    have HL := (show Hid (xs.length = ys.length) from hlen)
    rw [← hlen] at hm' ⊢
    clear hc hc' hlen
    go_enter Tryd.func8, Tryd.ntmps8
    go_wp2_with fail
    go_loopw [5] (fun q w' => ∃ k : Nat, k ≤ xs.length ∧ q = .int .i64 k ∧ (∀ j, j < k → nth 0 xs j = nth 0 ys j) ∧ Below w.heap.size w w') (fun q _ => xs.length - (intOf q).toNat)
    case atStart => exact ⟨0, Nat.zero_le _, rfl, fun j hj => absurd hj (Nat.not_lt_zero _), Below.refl _ _⟩
    case round =>
      obtain ⟨k, hk, rfl, hall, hb⟩ := hrel
      have HA := (show Hid (∀ j, j < k → nth 0 xs j = nth 0 ys j) from hall)
      clear hall
      by_cases hlt : k < xs.length
      · obtain ⟨b, off, rfl, hbw, c0⟩ := HC.out k hlt
        obtain ⟨b', off', rfl, hbw', c0'⟩ := HC'.out k (by have := HL.out; omega)
        rw [← hb.cell (p := ⟨b, _, none⟩) hbw] at c0
        rw [← hb.cell (p := ⟨b', _, none⟩) hbw'] at c0'
        have hi : (k : Int) < (xs.length : Int) := by omega
        have HB := (show Hid (Below w.heap.size w wr) from hb)
        by_cases he : nth 0 xs k = nth 0 ys k
        · have HE : Hid (∀ j, j < k + 1 → nth 0 xs j = nth 0 ys j) := fun j hj => by
            rcases Nat.lt_succ_iff_lt_or_eq.1 hj with h1 | rfl
            · exact HA.out j h1
            · exact he
          rw [← he] at c0'
          clear he hb
          generalize nth 0 xs k = z at *
          go_wp2_with fail
          go_quiet (fail)
          go_wp2_with fail
          go_roundw
          case rel => exact ⟨k + 1, by omega, by go_num, HE.out, below_drewN HB.out _⟩
          case measure => simp [intOf]; omega
        · have HN : Hid (decide (xs = ys) = false) := by
            have := ne_of_nth 0 he
            simp [Hid, this]
          have he' : (nth 0 xs k == nth 0 ys k) = false := by simp [he]
          clear hb
          generalize nth 0 xs k = z at *
          generalize nth 0 ys k = z' at *
          go_wp2_with fail
          go_quiet (fail)
          go_wp2_with fail
          go_ret
          exact ⟨by rw [HN.out]; rfl, below_drewN HB.out _⟩
      · have HY : Hid (decide (xs = ys) = true) := by
          have := eq_of_nth 0 HL.out (fun i hi => HA.out i (by omega))
          simp [Hid, this]
        go_wp2_with fail
        go_ret
        exact ⟨by rw [HY.out]; rfl, hb⟩
  · have HN : Hid (decide (xs = ys) = false) := by
      have : xs ≠ ys := fun e => hlen (by rw [e])
      simp [Hid, this]
    have h1 : ¬ (xs.length : Int) = (ys.length : Int) := by omega
    clear hc hc' hlen
    go_enter Tryd.func8, Tryd.ntmps8
    go_wp2_with fail
    go_ret
    exact ⟨by rw [HN.out]; rfl, Below.refl _ _⟩

end Go.Proofs.YtpehlekjfnkhoaaDoor
