import Derived.Test.YtgbgjljflgbcaaaNe16
import Derived.Test.YtgbgjljflgbcaaaNe22
import Derived.Deep.DeepCutAuto
import Derived.Deep.RegionWith
import Derived.Test.YtgbgjljflgbcaaaNe21
import Derived.Test.YtgbgjljflgbcaaaNe13
import Derived.Test.YtgbgjljflgbcaaaNe05
import Derived.Handy
import Derived.Test.YtgbgjljflgbcaaaNe01
import Derived.Deep.QuietTactic
import Derived.BigQuiet
import Derived.Test.YtgbgjljflgbcaaaNe15
namespace Go.Proofs.Ytgbgjljflgbcaaa
open Go.RowKit
set_option linter.unusedSimpArgs false
set_option linter.unusedVariables false
set_option maxRecDepth 20000
theorem ac_small {a : Ac} {nc body nb : Int} (h : acB a nc body nb = true) : Small a := by
  unfold acB at h
  unfold Small
  split at h
  · simp [dsB, -List.length_eq_zero_iff] at h
    omega
  split at h
  · simp [ksB, inB, -List.length_eq_zero_iff] at h
    omega
  split at h
  · simp at h
    simp [h]
  split at h
  · simp at h
    simp [h]
  · cases h
theorem small_ok {p : Pr} (h : okB p = true) : SmallP p := by
  obtain ⟨h1, h2, h3, h4⟩ := ok_sizes h
  have hf := okB_form h
  refine ⟨by omega, by omega, fun j hj => ⟨by have := h4 j hj; omega, fun i hi => ?_⟩⟩
  have := hf.2 j hj
  simp only [boB, Bool.and_eq_true, List.all_eq_true] at this
  exact ac_small (this.2 _ (nth_mem Ac.z _ i hi))
def SBox (w : World) (Y : Nat) (c t l : Value) (k : Int) : Prop := w.heap[Y]? = some (.cells #[c, t, .int .i64 k, l] 32 (0, 0))
theorem SBox.heap {w w' : World} {Y : Nat} {c t l : Value} {k : Int} (h : SBox w Y c t l k) (hk : w'.heap[Y]? = w.heap[Y]?) : SBox w' Y c t l k := hk.trans h
theorem SBox.lt {w : World} {Y : Nat} {c t l : Value} {k : Int} (h : SBox w Y c t l k) : Y < w.heap.size := bx_lt h
theorem SBox.cells {w : World} {Y : Nat} {c t l : Value} {k : Int} (h : SBox w Y c t l k) : (w.cell? ⟨Y, 0, none⟩ = some c ∧ w.cell? ⟨Y, 1, none⟩ = some t ∧ w.cell? ⟨Y, 2, none⟩ = some (.int .i64 k) ∧ w.cell? ⟨Y, 3, none⟩ = some l) ∧ (w.frozen? ⟨Y, 0, none⟩ = false ∧ w.frozen? ⟨Y, 1, none⟩ = false ∧ w.frozen? ⟨Y, 2, none⟩ = false ∧ w.frozen? ⟨Y, 3, none⟩ = false) ∧ Y < w.heap.size := box4c h
end Go.Proofs.Ytgbgjljflgbcaaa

namespace Go.Proofs.Ytgbgjljflgbcaaa
open Go.RowKit
set_option linter.unusedSimpArgs false
set_option linter.unusedVariables false
set_option maxRecDepth 20000
end Go.Proofs.Ytgbgjljflgbcaaa

namespace Go.Proofs.Ytgbgjljflgbcaaa
open Go.RowKit
set_option linter.unusedSimpArgs false
set_option linter.unusedVariables false
set_option maxRecDepth 20000
end Go.Proofs.Ytgbgjljflgbcaaa

namespace Go.Proofs.Ytgbgjljflgbcaaa
open Go.RowKit
set_option linter.unusedSimpArgs false
set_option linter.unusedVariables false
set_option maxRecDepth 20000
end Go.Proofs.Ytgbgjljflgbcaaa

namespace Go.Proofs.Ytgbgjljflgbcaaa
open Go.RowKit
set_option linter.unusedSimpArgs false
set_option linter.unusedVariables false
set_option maxRecDepth 20000
end Go.Proofs.Ytgbgjljflgbcaaa

namespace Go.Proofs.Ytgbgjljflgbcaaa
open Go.RowKit
set_option linter.unusedSimpArgs false
set_option linter.unusedVariables false
set_option maxRecDepth 20000
theorem isPlace_is {n e : Int} {b : Bool} (h : plB n e = b) (w : World) : Calls Try.prog 45 #[.int .i64 n, .int .i64 e] w fun r w' => r = .returned (.bool b) ∧ w' = w := by subst h; exact isPlace_any n e w
end Go.Proofs.Ytgbgjljflgbcaaa

namespace Go.Proofs.Ytgbgjljflgbcaaa
open Go.RowKit
set_option linter.unusedSimpArgs false
set_option linter.unusedVariables false
theorem eq_of_nth {α : Type} (z : α) {l m : List α} (hl : l.length = m.length) (h : ∀ i, i < l.length → nth z l i = nth z m i) : l = m := by
  apply List.ext_getElem hl
  intro i h1 h2
  have := h i h1
  rw [nth_eq z l i h1, nth_eq z m i h2] at this
  exact this
theorem ne_of_nth {α : Type} (z : α) {l m : List α} {i : Nat} (h : nth z l i ≠ nth z m i) : l ≠ m := fun e => h (by rw [e])
set_option maxHeartbeats 1000000 in
theorem lqInts_any (xs ys : List Int) (v v' : Value) (w : World) (h : IntsAt w v xs) (h' : IntsAt w v' ys) :
    Calls Try.prog 14 #[v, v'] w fun r w' => r = .returned (.bool (decide (xs = ys))) ∧ Below w.heap.size w w' := by
  obtain ⟨a, cap, rfl, hm, hc⟩ := h
  obtain ⟨a', cap', rfl, hm', hc'⟩ := h'
  by_cases hlen : xs.length = ys.length
  · have HC := (show Hid (∀ i, i < xs.length → _) from hc)
    have HC' := (show Hid (∀ i, i < ys.length → _) from hc')
    have HL := (show Hid (xs.length = ys.length) from hlen)
    rw [← hlen] at hm' ⊢
    clear hc hc' hlen
    go_enter Try.func14, Try.ntmps14
    go_wp2_with fail
    go_loopw [5] (fun q w' => ∃ k : Nat, k ≤ xs.length ∧ q = .int .i64 k ∧ (∀ j, j < k → nth 0 xs j = nth 0 ys j) ∧ Below w.heap.size w w') (fun q _ => xs.length - (intOf q).toNat)
    case atStart => exact ⟨0, Nat.zero_le _, rfl, fun j hj => absurd hj (Nat.not_lt_zero _), Below.refl _ _⟩
    case round =>
      obtain ⟨k, hk, rfl, hall, hb⟩ := hrel
      have HA := (show Hid (∀ j, j < k → nth 0 xs j = nth 0 ys j) from hall)
      clear hall
      by_cases hlt : k < xs.length
      · obtain ⟨b, off, rfl, hbw, c0⟩ := HC.out k hlt
        obtain ⟨b', off', rfl, hbw', c0'⟩ := HC'.out k (by have := HL.out; omega)
        rw [← hb.cell (p := ⟨b, _, none⟩) hbw] at c0
        rw [← hb.cell (p := ⟨b', _, none⟩) hbw'] at c0'
        have hi : (k : Int) < (xs.length : Int) := by omega
        have HB := (show Hid (Below w.heap.size w wr) from hb)
        by_cases he : nth 0 xs k = nth 0 ys k
        · have HE : Hid (∀ j, j < k + 1 → nth 0 xs j = nth 0 ys j) := fun j hj => by
            rcases Nat.lt_succ_iff_lt_or_eq.1 hj with h1 | rfl
            · exact HA.out j h1
            · exact he
          rw [← he] at c0'
          clear he hb
          generalize nth 0 xs k = z at *
          go_wp2_with fail
          go_quiet (fail)
          go_wp2_with fail
          go_roundw
          case rel => exact ⟨k + 1, by omega, by go_num, HE.out, below_drewN HB.out _⟩
          case measure => simp [intOf]; omega
        · have HN : Hid (decide (xs = ys) = false) := by
            have := ne_of_nth 0 he
            simp [Hid, this]
          have he' : (nth 0 xs k == nth 0 ys k) = false := by simp [he]
          clear hb
          generalize nth 0 xs k = z at *
          generalize nth 0 ys k = z' at *
          go_wp2_with fail
          go_quiet (fail)
          go_wp2_with fail
          go_ret
          exact ⟨by rw [HN.out]; rfl, below_drewN HB.out _⟩
      · have HY : Hid (decide (xs = ys) = true) := by
          have := eq_of_nth 0 HL.out (fun i hi => HA.out i (by omega))
          simp [Hid, this]
        go_wp2_with fail
        go_ret
        exact ⟨by rw [HY.out]; rfl, hb⟩
  · have HN : Hid (decide (xs = ys) = false) := by
      have : xs ≠ ys := fun e => hlen (by rw [e])
      simp [Hid, this]
    have h1 : ¬ (xs.length : Int) = (ys.length : Int) := by omega
    clear hc hc' hlen
    go_enter Try.func14, Try.ntmps14
    go_wp2_with fail
    go_ret
    exact ⟨by rw [HN.out]; rfl, Below.refl _ _⟩
end Go.Proofs.Ytgbgjljflgbcaaa

namespace Go.Proofs.Ytgbgjljflgbcaaa
open Go.RowKit
set_option linter.unusedSimpArgs false
set_option linter.unusedVariables false
set_option maxRecDepth 20000
theorem lqI_same (xs : List Int) (v v' : Value) (w : World) (h : IntsAt w v xs) (h' : IntsAt w v' xs) :
    Calls Try.prog 14 #[v, v'] w fun r w' => r = .returned (.bool true) ∧ Below w.heap.size w w' := by
  have := lqInts_any xs xs v v' w h h'
  rwa [show decide (xs = xs) = true from by simp] at this
end Go.Proofs.Ytgbgjljflgbcaaa

namespace Go.Proofs.Ytgbgjljflgbcaaa
open Go.RowKit
set_option linter.unusedSimpArgs false
set_option linter.unusedVariables false
set_option maxRecDepth 20000
set_option maxHeartbeats 1000000 in
theorem lqPuts_same (xs : List Pu) (v v' : Value) (w : World) (h : PusAt w v xs) (h' : PusAt w v' xs) :
    Calls Try.prog 87 #[v, v'] w fun r w' => r = .returned (.bool true) ∧ Below w.heap.size w w' := by
  obtain ⟨a, c, rfl, _⟩ := h.shape
  obtain ⟨a', c', rfl, _⟩ := h'.shape
  have H := (show Hid (PusAt _ _ _) from h)
  have H' := (show Hid (PusAt _ _ _) from h')
  clear h h'
  go_enter Try.func87, Try.ntmps87
  go_wp2_with fail
  go_loopw [5] (fun q w' => ∃ k : Nat, k ≤ xs.length ∧ q = .int .i64 k ∧ Below w.heap.size w w') (fun q _ => xs.length - (intOf q).toNat)
  case atStart => exact ⟨0, Nat.zero_le _, rfl, Below.refl _ _⟩
  case round =>
    obtain ⟨k, hk, rfl, hb⟩ := hrel
    have HB := (show Hid (Below _ _ _) from hb)
    by_cases hlt : k < xs.length
    · have hlt' : (k : Int) < (xs.length : Int) := by omega
      obtain ⟨_, _, e, _, hc⟩ := H.out.mono hb
      injection e with e1 e2 e3
      subst e1 e3
      obtain ⟨b, off, rfl, hbl, c0, c1⟩ := hc k hlt
      obtain ⟨_, _, e', _, hc'⟩ := H'.out.mono hb
      injection e' with e1' e2' e3'
      subst e1' e3'
      obtain ⟨b', off', rfl, hbl', d0, d1⟩ := hc' k hlt
      clear hc hc' e2 e2' hb
      go_wp2_with fail
      go_quiet (fail)
      go_wp2_with fail
      go_roundw
      case rel => exact ⟨k + 1, by omega, by go_num, below_drewN HB.out _⟩
      case measure => simp [intOf]; omega
    · have hlt' : ¬ (k : Int) < (xs.length : Int) := by omega
      clear hb
      go_wp2_with fail
      go_ret
      exact ⟨rfl, HB.out⟩
set_option maxHeartbeats 1000000 in
theorem lqEntry_same (e : En) (a3 a4 b3 b4 : Option Addr) (k3 k4 m3 m4 : Nat) (w : World) (h3 : PusAt w (.slice a3 e.reads.length k3) e.reads) (h4 : PusAt w (.slice a4 e.puts.length k4) e.puts) (g3 : PusAt w (.slice b3 e.reads.length m3) e.reads) (g4 : PusAt w (.slice b4 e.puts.length m4) e.puts) :
    Calls Try.prog 86 #[.agg #[.int .i64 e.task, .int .i64 e.act, .int .i64 e.when_, .slice a3 e.reads.length k3, .slice a4 e.puts.length k4, .int .i64 e.from_], .agg #[.int .i64 e.task, .int .i64 e.act, .int .i64 e.when_, .slice b3 e.reads.length m3, .slice b4 e.puts.length m4, .int .i64 e.from_]] w fun r w' => r = .returned (.bool true) ∧ Below w.heap.size w w' := by
  have HV : Hid (∃ V, V = (w.alloc (.cells #[.int .i64 e.task, .int .i64 e.act, .int .i64 e.when_, .slice a3 e.reads.length k3, .slice a4 e.puts.length k4, .int .i64 e.from_] 55)).alloc (.cells #[.int .i64 e.task, .int .i64 e.act, .int .i64 e.when_, .slice b3 e.reads.length m3, .slice b4 e.puts.length m4, .int .i64 e.from_] 55) ∧ EBx V w.heap.size e (.slice a3 e.reads.length k3) (.slice a4 e.puts.length k4) ∧ EBx V (w.heap.size + 1) e (.slice b3 e.reads.length m3) (.slice b4 e.puts.length m4) ∧ Below w.heap.size w V) := by
    refine ⟨_, rfl, ?_, ?_, ((Below.refl _ _).alloc (Nat.le_refl _) _).alloc (by simp) _⟩
    · unfold EBx
      rw [Below.heap_alloc _ _ _ (by simp)]; exact heap_alloc_new w _
    · simpa [EBx] using heap_alloc_new (w.alloc (.cells #[.int .i64 e.task, .int .i64 e.act, .int .i64 e.when_, .slice a3 e.reads.length k3, .slice a4 e.puts.length k4, .int .i64 e.from_] 55)) (.cells #[.int .i64 e.task, .int .i64 e.act, .int .i64 e.when_, .slice b3 e.reads.length m3, .slice b4 e.puts.length m4, .int .i64 e.from_] 55)
  have H3 := (show Hid (PusAt _ _ _) from h3)
  have H4 := (show Hid (PusAt _ _ _) from h4)
  have G3 := (show Hid (PusAt _ _ _) from g3)
  have G4 := (show Hid (PusAt _ _ _) from g4)
  clear h3 h4 g3 g4
  go_enter Try.func86, Try.ntmps86
  go_wp2_with fail
  obtain ⟨V, hV, hA, hB, hb⟩ := HV.out
  rw [← hV]
  clear hV HV
  have HA := (show Hid (EBx _ _ _ _ _) from hA)
  have HB := (show Hid (EBx _ _ _ _ _) from hB)
  have HW := (show Hid (Below _ _ _) from hb)
  clear hA hB hb
  obtain ⟨⟨c0, c1, c2, c3, c4, c5⟩, _, cl⟩ := HA.out.cells
  obtain ⟨⟨d0, d1, d2, d3, d4, d5⟩, _, dl⟩ := HB.out.cells
  go_wp2_with fail
  refine (lqPuts_same e.reads _ _ V (H3.out.mono HW.out) (G3.out.mono HW.out)).mono ?_
  rintro r w1 ⟨rfl, hb1⟩
  replace HA : Hid (EBx w1 _ _ _ _) := HA.out.heap (hb1.block _ cl)
  replace HB : Hid (EBx w1 _ _ _ _) := HB.out.heap (hb1.block _ dl)
  replace HW : Hid (Below w.heap.size w w1) := HW.out.trans (hb1.mono HW.out.size)
  clear hb1 c0 c1 c2 c3 c4 c5 cl d0 d1 d2 d3 d4 d5 dl
  obtain ⟨⟨c0, c1, c2, c3, c4, c5⟩, _, cl⟩ := HA.out.cells
  obtain ⟨⟨d0, d1, d2, d3, d4, d5⟩, _, dl⟩ := HB.out.cells
  go_wp2_with fail
  refine (lqPuts_same e.puts _ _ w1 (H4.out.mono HW.out) (G4.out.mono HW.out)).mono ?_
  rintro r w2 ⟨rfl, hb2⟩
  replace HW : Hid (Below w.heap.size w w2) := HW.out.trans (hb2.mono HW.out.size)
  clear hb2 c0 c1 c2 c3 c4 c5 cl d0 d1 d2 d3 d4 d5 dl HA HB
  go_wp2_with fail
  go_ret
  exact ⟨rfl, HW.out⟩
set_option maxHeartbeats 2000000 in
theorem lqTask_same (t : Ta) (a3 a8 a9 a10 b3 b8 b9 b10 : Option Addr) (k3 k8 k9 k10 m3 m8 m9 m10 : Nat) (w : World) (h3 : IntsAt w (.slice a3 t.regs.length k3) t.regs) (h8 : IntsAt w (.slice a8 t.old.length k8) t.old) (h9 : PusAt w (.slice a9 t.reads.length k9) t.reads) (h10 : PusAt w (.slice a10 t.puts.length k10) t.puts)
    (g3 : IntsAt w (.slice b3 t.regs.length m3) t.regs) (g8 : IntsAt w (.slice b8 t.old.length m8) t.old) (g9 : PusAt w (.slice b9 t.reads.length m9) t.reads) (g10 : PusAt w (.slice b10 t.puts.length m10) t.puts) :
    Calls Try.prog 38 #[.agg #[.int .i64 t.body, .int .i64 t.pc, .int .i64 t.up, .slice a3 t.regs.length k3, .int .i64 t.way, .int .i64 t.stage, .int .i64 t.at_, .int .i64 t.since, .slice a8 t.old.length k8, .slice a9 t.reads.length k9, .slice a10 t.puts.length k10, .int .i64 t.when_, .int .i64 t.from_], .agg #[.int .i64 t.body, .int .i64 t.pc, .int .i64 t.up, .slice b3 t.regs.length m3, .int .i64 t.way, .int .i64 t.stage, .int .i64 t.at_, .int .i64 t.since, .slice b8 t.old.length m8, .slice b9 t.reads.length m9, .slice b10 t.puts.length m10, .int .i64 t.when_, .int .i64 t.from_]] w fun r w' => r = .returned (.bool true) ∧ Below w.heap.size w w' := by
  have HV : Hid (∃ V, V = (w.alloc (.cells #[.int .i64 t.body, .int .i64 t.pc, .int .i64 t.up, .slice a3 t.regs.length k3, .int .i64 t.way, .int .i64 t.stage, .int .i64 t.at_, .int .i64 t.since, .slice a8 t.old.length k8, .slice a9 t.reads.length k9, .slice a10 t.puts.length k10, .int .i64 t.when_, .int .i64 t.from_] 70)).alloc (.cells #[.int .i64 t.body, .int .i64 t.pc, .int .i64 t.up, .slice b3 t.regs.length m3, .int .i64 t.way, .int .i64 t.stage, .int .i64 t.at_, .int .i64 t.since, .slice b8 t.old.length m8, .slice b9 t.reads.length m9, .slice b10 t.puts.length m10, .int .i64 t.when_, .int .i64 t.from_] 70) ∧ TBx V w.heap.size t (.slice a3 t.regs.length k3) (.slice a8 t.old.length k8) (.slice a9 t.reads.length k9) (.slice a10 t.puts.length k10) ∧ TBx V (w.heap.size + 1) t (.slice b3 t.regs.length m3) (.slice b8 t.old.length m8) (.slice b9 t.reads.length m9) (.slice b10 t.puts.length m10) ∧ Below w.heap.size w V) := by
    refine ⟨_, rfl, ?_, ?_, ((Below.refl _ _).alloc (Nat.le_refl _) _).alloc (by simp) _⟩
    · unfold TBx
      rw [Below.heap_alloc _ _ _ (by simp)]; exact heap_alloc_new w _
    · simpa [TBx] using heap_alloc_new (w.alloc (.cells #[.int .i64 t.body, .int .i64 t.pc, .int .i64 t.up, .slice a3 t.regs.length k3, .int .i64 t.way, .int .i64 t.stage, .int .i64 t.at_, .int .i64 t.since, .slice a8 t.old.length k8, .slice a9 t.reads.length k9, .slice a10 t.puts.length k10, .int .i64 t.when_, .int .i64 t.from_] 70)) (.cells #[.int .i64 t.body, .int .i64 t.pc, .int .i64 t.up, .slice b3 t.regs.length m3, .int .i64 t.way, .int .i64 t.stage, .int .i64 t.at_, .int .i64 t.since, .slice b8 t.old.length m8, .slice b9 t.reads.length m9, .slice b10 t.puts.length m10, .int .i64 t.when_, .int .i64 t.from_] 70)
  have H := (show Hid (_ ∧ _ ∧ _ ∧ _) from ⟨h3, h8, h9, h10⟩)
  have G := (show Hid (_ ∧ _ ∧ _ ∧ _) from ⟨g3, g8, g9, g10⟩)
  clear h3 h8 h9 h10 g3 g8 g9 g10
  go_enter Try.func38, Try.ntmps38
  go_wp2_with fail
  obtain ⟨V, hV, hA, hB, hb⟩ := HV.out
  rw [← hV]
  clear hV HV
  have HA := (show Hid (TBx _ _ _ _ _ _ _) from hA)
  have HB := (show Hid (TBx _ _ _ _ _ _ _) from hB)
  have HW := (show Hid (Below _ _ _) from hb)
  clear hA hB hb
  obtain ⟨⟨c0, c1, c2, c3, c4, c5, c6, c7, c8, c9, c10, c11, c12⟩, _, cl⟩ := HA.out.cells
  obtain ⟨⟨d0, d1, d2, d3, d4, d5, d6, d7, d8, d9, d10, d11, d12⟩, _, dl⟩ := HB.out.cells
  go_wp2_with fail
  refine (lqI_same t.regs _ _ V (H.out.1.mono HW.out) (G.out.1.mono HW.out)).mono ?_
  rintro r w1 ⟨rfl, hb1⟩
  replace HA : Hid (TBx w1 _ _ _ _ _ _) := HA.out.heap (hb1.block _ cl)
  replace HB : Hid (TBx w1 _ _ _ _ _ _) := HB.out.heap (hb1.block _ dl)
  replace HW : Hid (Below w.heap.size w w1) := HW.out.trans (hb1.mono HW.out.size)
  clear hb1 c0 c1 c2 c3 c4 c5 c6 c7 c8 c9 c10 c11 c12 cl d0 d1 d2 d3 d4 d5 d6 d7 d8 d9 d10 d11 d12 dl
  obtain ⟨⟨c0, c1, c2, c3, c4, c5, c6, c7, c8, c9, c10, c11, c12⟩, _, cl⟩ := HA.out.cells
  obtain ⟨⟨d0, d1, d2, d3, d4, d5, d6, d7, d8, d9, d10, d11, d12⟩, _, dl⟩ := HB.out.cells
  go_wp2_with fail
  refine (lqI_same t.old _ _ w1 (H.out.2.1.mono HW.out) (G.out.2.1.mono HW.out)).mono ?_
  rintro r w2 ⟨rfl, hb2⟩
  replace HA : Hid (TBx w2 _ _ _ _ _ _) := HA.out.heap (hb2.block _ cl)
  replace HB : Hid (TBx w2 _ _ _ _ _ _) := HB.out.heap (hb2.block _ dl)
  replace HW : Hid (Below w.heap.size w w2) := HW.out.trans (hb2.mono HW.out.size)
  clear hb2 c0 c1 c2 c3 c4 c5 c6 c7 c8 c9 c10 c11 c12 cl d0 d1 d2 d3 d4 d5 d6 d7 d8 d9 d10 d11 d12 dl
  obtain ⟨⟨c0, c1, c2, c3, c4, c5, c6, c7, c8, c9, c10, c11, c12⟩, _, cl⟩ := HA.out.cells
  obtain ⟨⟨d0, d1, d2, d3, d4, d5, d6, d7, d8, d9, d10, d11, d12⟩, _, dl⟩ := HB.out.cells
  go_wp2_with fail
  refine (lqPuts_same t.reads _ _ w2 (H.out.2.2.1.mono HW.out) (G.out.2.2.1.mono HW.out)).mono ?_
  rintro r w3 ⟨rfl, hb3⟩
  replace HA : Hid (TBx w3 _ _ _ _ _ _) := HA.out.heap (hb3.block _ cl)
  replace HB : Hid (TBx w3 _ _ _ _ _ _) := HB.out.heap (hb3.block _ dl)
  replace HW : Hid (Below w.heap.size w w3) := HW.out.trans (hb3.mono HW.out.size)
  clear hb3 c0 c1 c2 c3 c4 c5 c6 c7 c8 c9 c10 c11 c12 cl d0 d1 d2 d3 d4 d5 d6 d7 d8 d9 d10 d11 d12 dl
  obtain ⟨⟨c0, c1, c2, c3, c4, c5, c6, c7, c8, c9, c10, c11, c12⟩, _, cl⟩ := HA.out.cells
  obtain ⟨⟨d0, d1, d2, d3, d4, d5, d6, d7, d8, d9, d10, d11, d12⟩, _, dl⟩ := HB.out.cells
  go_wp2_with fail
  refine (lqPuts_same t.puts _ _ w3 (H.out.2.2.2.mono HW.out) (G.out.2.2.2.mono HW.out)).mono ?_
  rintro r w4 ⟨rfl, hb4⟩
  replace HW : Hid (Below w.heap.size w w4) := HW.out.trans (hb4.mono HW.out.size)
  clear hb4 c0 c1 c2 c3 c4 c5 c6 c7 c8 c9 c10 c11 c12 cl d0 d1 d2 d3 d4 d5 d6 d7 d8 d9 d10 d11 d12 dl HA HB
  go_wp2_with fail
  go_ret
  exact ⟨rfl, HW.out⟩
set_option maxHeartbeats 1000000 in
theorem lqLog_same (xs : List En) (v v' : Value) (w : World) (h : EnsAt w v xs) (h' : EnsAt w v' xs) :
    Calls Try.prog 37 #[v, v'] w fun r w' => r = .returned (.bool true) ∧ Below w.heap.size w w' := by
  obtain ⟨a, c, rfl, _⟩ := h.shape
  obtain ⟨a', c', rfl, _⟩ := h'.shape
  have H := (show Hid (EnsAt _ _ _) from h)
  have H' := (show Hid (EnsAt _ _ _) from h')
  clear h h'
  go_enter Try.func37, Try.ntmps37
  go_wp2_with fail
  go_loopw [5] (fun q w' => ∃ k : Nat, k ≤ xs.length ∧ q = .int .i64 k ∧ Below w.heap.size w w') (fun q _ => xs.length - (intOf q).toNat)
  case atStart => exact ⟨0, Nat.zero_le _, rfl, Below.refl _ _⟩
  case round =>
    obtain ⟨k, hk, rfl, hb⟩ := hrel
    have HB := (show Hid (Below _ _ _) from hb)
    have hsz := hb.size
    by_cases hlt : k < xs.length
    · have hlt' : (k : Int) < (xs.length : Int) := by omega
      obtain ⟨_, _, e, _, hc⟩ := H.out.mono hb
      injection e with e1 e2 e3
      subst e1 e3
      obtain ⟨b, off, v3, v4, rfl, hbl, c0, c1, c2, c3, c4, c5, h3, h4⟩ := hc k hlt
      obtain ⟨_, _, e', _, hc'⟩ := H'.out.mono hb
      injection e' with e1' e2' e3'
      subst e1' e3'
      obtain ⟨b', off', u3, u4, rfl, hbl', d0, d1, d2, d3, d4, d5, g3, g4⟩ := hc' k hlt
      obtain ⟨p3, q3, rfl, _⟩ := h3.shape
      obtain ⟨p4, q4, rfl, _⟩ := h4.shape
      obtain ⟨r3, s3, rfl, _⟩ := g3.shape
      obtain ⟨r4, s4, rfl, _⟩ := g4.shape
      have HX := (show Hid (_ ∧ _ ∧ _ ∧ _) from ⟨h3, h4, g3, g4⟩)
      clear hc hc' e2 e2' hb h3 h4 g3 g4
      go_wp2_with fail
      go_region_with (go_at_call 86; refine (lqEntry_same (nth En.z xs k) _ _ _ _ _ _ _ _ _ (HX.out.1.mono (Below.refl _ _).drew) (HX.out.2.1.mono (Below.refl _ _).drew) (HX.out.2.2.1.mono (Below.refl _ _).drew) (HX.out.2.2.2.mono (Below.refl _ _).drew)).mono ?_; rintro r w1 ⟨rfl, hb1⟩)
      all_goals
        have HB1 : Hid (Below w.heap.size w w1) := HB.out.trans (((Below.refl wr.heap.size wr).drew.trans hb1).mono hsz)
        clear hb1 c0 c1 c2 c3 c4 c5 d0 d1 d2 d3 d4 d5 HX
        go_wp2_with fail
        go_roundw
        case rel => exact ⟨k + 1, by omega, by go_num, HB1.out⟩
        case measure => simp [intOf]; omega
    · have hlt' : ¬ (k : Int) < (xs.length : Int) := by omega
      clear hb
      go_wp2_with fail
      go_ret
      exact ⟨rfl, HB.out⟩
set_option maxHeartbeats 4000000 in
theorem lqSys_same (s : Sy) (a0 a1 a3 b0 b1 b3 : Option Addr) (k0 k1 k3 m0 m1 m3 : Nat) (w : World) (h : SyAt w (.slice a0 s.cells.length k0) (.slice a1 s.tasks.length k1) (.slice a3 s.log.length k3) s) (g : SyAt w (.slice b0 s.cells.length m0) (.slice b1 s.tasks.length m1) (.slice b3 s.log.length m3) s) :
    Calls Try.prog 12 #[.agg #[.slice a0 s.cells.length k0, .slice a1 s.tasks.length k1, .int .i64 s.clock, .slice a3 s.log.length k3], .agg #[.slice b0 s.cells.length m0, .slice b1 s.tasks.length m1, .int .i64 s.clock, .slice b3 s.log.length m3]] w fun r w' => r = .returned (.bool true) ∧ Below w.heap.size w w' := by
  have HV : Hid (∃ V, V = (w.alloc (.cells #[.slice a0 s.cells.length k0, .slice a1 s.tasks.length k1, .int .i64 s.clock, .slice a3 s.log.length k3] 32)).alloc (.cells #[.slice b0 s.cells.length m0, .slice b1 s.tasks.length m1, .int .i64 s.clock, .slice b3 s.log.length m3] 32) ∧ SBox V w.heap.size (.slice a0 s.cells.length k0) (.slice a1 s.tasks.length k1) (.slice a3 s.log.length k3) s.clock ∧ SBox V (w.heap.size + 1) (.slice b0 s.cells.length m0) (.slice b1 s.tasks.length m1) (.slice b3 s.log.length m3) s.clock ∧ Below w.heap.size w V) := by
    refine ⟨_, rfl, ?_, ?_, ((Below.refl _ _).alloc (Nat.le_refl _) _).alloc (by simp) _⟩
    · unfold SBox
      rw [Below.heap_alloc _ _ _ (by simp)]; exact heap_alloc_new w _
    · simpa [SBox] using heap_alloc_new (w.alloc (.cells #[.slice a0 s.cells.length k0, .slice a1 s.tasks.length k1, .int .i64 s.clock, .slice a3 s.log.length k3] 32)) (.cells #[.slice b0 s.cells.length m0, .slice b1 s.tasks.length m1, .int .i64 s.clock, .slice b3 s.log.length m3] 32)
  have H := (show Hid (SyAt _ _ _ _ _) from h)
  have G := (show Hid (SyAt _ _ _ _ _) from g)
  clear h g
  go_enter Try.func12, Try.ntmps12
  go_wp2_with fail
  obtain ⟨V, hV, hA, hB, hb⟩ := HV.out
  rw [← hV]
  clear hV HV
  have HA := (show Hid (SBox _ _ _ _ _ _) from hA)
  have HB := (show Hid (SBox _ _ _ _ _ _) from hB)
  have HW := (show Hid (Below _ _ _) from hb)
  clear hA hB hb
  obtain ⟨⟨x0, x1, x2, x3⟩, _, xl⟩ := HA.out.cells
  obtain ⟨⟨y0, y1, y2, y3⟩, _, yl⟩ := HB.out.cells
  go_wp2_with fail
  refine (lqLog_same s.log _ _ V (H.out.2.2.mono HW.out) (G.out.2.2.mono HW.out)).mono ?_
  rintro r w1 ⟨rfl, hb1⟩
  replace HA : Hid (SBox w1 _ _ _ _ _) := HA.out.heap (hb1.block _ xl)
  replace HB : Hid (SBox w1 _ _ _ _ _) := HB.out.heap (hb1.block _ yl)
  replace HW : Hid (Below w.heap.size w w1) := HW.out.trans (hb1.mono HW.out.size)
  clear hb1 x0 x1 x2 x3 xl y0 y1 y2 y3 yl
  go_wp2_with fail
  go_loopw [5] (fun q w' => ∃ k : Nat, k ≤ s.cells.length ∧ q = .int .i64 k ∧ Below w1.heap.size w1 w') (fun q _ => s.cells.length - (intOf q).toNat)
  case atStart => exact ⟨0, Nat.zero_le _, rfl, Below.refl _ _⟩
  case round =>
    obtain ⟨k, hk, rfl, hb⟩ := hrel
    have HBr := (show Hid (Below _ _ _) from hb)
    have hw1 := HW.out.size
    have HWr : Hid (Below w.heap.size w wr) := HW.out.trans (hb.mono hw1)
    have HAr : Hid (SBox wr _ _ _ _ _) := HA.out.heap (hb.block _ HA.out.lt)
    have HBb : Hid (SBox wr _ _ _ _ _) := HB.out.heap (hb.block _ HB.out.lt)
    clear hb
    obtain ⟨⟨x0, x1, x2, x3⟩, _, xl⟩ := HAr.out.cells
    obtain ⟨⟨y0, y1, y2, y3⟩, _, yl⟩ := HBb.out.cells
    by_cases hlt : k < s.cells.length
    · have hlt' : (k : Int) < (s.cells.length : Int) := by omega
      obtain ⟨_, _, e, _, hc⟩ := H.out.1.mono HWr.out
      injection e with e1 e2 e3
      subst e1 e3
      obtain ⟨b, off, rfl, hbl, c0, c1, c2⟩ := hc k hlt
      obtain ⟨_, _, e', _, hc'⟩ := G.out.1.mono HWr.out
      injection e' with e1' e2' e3'
      subst e1' e3'
      obtain ⟨b', off', rfl, hbl', d0, d1, d2⟩ := hc' k hlt
      clear hc hc' e2 e2'
      go_wp2_with fail
      go_quiet (fail)
      go_wp2_with fail
      go_roundw
      case rel => exact ⟨k + 1, by omega, by go_num, below_drewN HBr.out _⟩
      case measure => simp [intOf]; omega
    · have hlt' : ¬ (k : Int) < (s.cells.length : Int) := by omega
      obtain ⟨wo, hwo⟩ : ∃ wo : World, wo = wr := ⟨_, rfl⟩
      subst hwo
      have hwo2 := HWr.out.size
      clear x0 x1 x2 x3 xl y0 y1 y2 y3 yl
      obtain ⟨⟨x0, x1, x2, x3⟩, _, xl⟩ := HAr.out.cells
      obtain ⟨⟨y0, y1, y2, y3⟩, _, yl⟩ := HBb.out.cells
      go_wp2_with fail
      clear x0 x1 x2 x3 xl y0 y1 y2 y3 yl
      go_loopw [6] (fun q w' => ∃ k : Nat, k ≤ s.tasks.length ∧ q = .int .i64 k ∧ Below wo.heap.size wo w') (fun q _ => s.tasks.length - (intOf q).toNat)
      case atStart => exact ⟨0, Nat.zero_le _, rfl, Below.refl _ _⟩
      case round =>
        obtain ⟨k, hk, rfl, hb⟩ := hrel
        have HBr2 := (show Hid (Below _ _ _) from hb)
        have HWx : Hid (Below w.heap.size w wr) := HWr.out.trans (hb.mono hwo2)
        have HAx : Hid (SBox wr _ _ _ _ _) := HAr.out.heap (hb.block _ HAr.out.lt)
        have HBx : Hid (SBox wr _ _ _ _ _) := HBb.out.heap (hb.block _ HBb.out.lt)
        have hsz := hb.size
        clear hb
        obtain ⟨⟨x0, x1, x2, x3⟩, _, xl⟩ := HAx.out.cells
        obtain ⟨⟨y0, y1, y2, y3⟩, _, yl⟩ := HBx.out.cells
        by_cases hlt2 : k < s.tasks.length
        · have hlt2' : (k : Int) < (s.tasks.length : Int) := by omega
          obtain ⟨_, _, e, _, hc⟩ := H.out.2.1.mono HWx.out
          injection e with e1 e2 e3
          subst e1 e3
          obtain ⟨b, off, v3, v8, v9, v10, rfl, hbl, c0, c1, c2, c3, c4, c5, c6, c7, c8, c9, c10, c11, c12, h3, h8, h9, h10⟩ := hc k hlt2
          obtain ⟨_, _, e', _, hc'⟩ := G.out.2.1.mono HWx.out
          injection e' with e1' e2' e3'
          subst e1' e3'
          obtain ⟨b', off', u3, u8, u9, u10, rfl, hbl', d0, d1, d2, d3, d4, d5, d6, d7, d8, d9, d10, d11, d12, g3, g8, g9, g10⟩ := hc' k hlt2
          obtain ⟨p3, q3, rfl, _⟩ := h3.shape
          obtain ⟨p8, q8, rfl, _⟩ := h8.shape
          obtain ⟨p9, q9, rfl, _⟩ := h9.shape
          obtain ⟨p10, q10, rfl, _⟩ := h10.shape
          obtain ⟨r3, s3, rfl, _⟩ := g3.shape
          obtain ⟨r8, s8, rfl, _⟩ := g8.shape
          obtain ⟨r9, s9, rfl, _⟩ := g9.shape
          obtain ⟨r10, s10, rfl, _⟩ := g10.shape
          have HX := (show Hid (_ ∧ _ ∧ _ ∧ _ ∧ _ ∧ _ ∧ _ ∧ _) from ⟨h3, h8, h9, h10, g3, g8, g9, g10⟩)
          clear hc hc' e2 e2' h3 h8 h9 h10 g3 g8 g9 g10
          go_wp2_with fail
          go_region_with (go_at_call 38; refine (lqTask_same (nth Ta.z s.tasks k) _ _ _ _ _ _ _ _ _ _ _ _ _ _ _ _ _ (HX.out.1.mono (Below.refl _ _).drew) (HX.out.2.1.mono (Below.refl _ _).drew) (HX.out.2.2.1.mono (Below.refl _ _).drew) (HX.out.2.2.2.1.mono (Below.refl _ _).drew) (HX.out.2.2.2.2.1.mono (Below.refl _ _).drew) (HX.out.2.2.2.2.2.1.mono (Below.refl _ _).drew) (HX.out.2.2.2.2.2.2.1.mono (Below.refl _ _).drew) (HX.out.2.2.2.2.2.2.2.mono (Below.refl _ _).drew)).mono ?_; rintro r w5 ⟨rfl, hb5⟩)
          all_goals
            have HB5 : Hid (Below wo.heap.size wo w5) := HBr2.out.trans (((Below.refl wr.heap.size wr).drew.trans hb5).mono hsz)
            clear hb5 c0 c1 c2 c3 c4 c5 c6 c7 c8 c9 c10 c11 c12 d0 d1 d2 d3 d4 d5 d6 d7 d8 d9 d10 d11 d12 HX
            go_wp2_with fail
            go_roundw
            case rel => exact ⟨k + 1, by omega, by go_num, HB5.out⟩
            case measure => simp [intOf]; omega
        · have hlt2' : ¬ (k : Int) < (s.tasks.length : Int) := by omega
          go_wp2_with fail
          go_ret
          exact ⟨rfl, HWx.out⟩
end Go.Proofs.Ytgbgjljflgbcaaa
