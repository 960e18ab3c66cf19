import Derived.Test.YtnbgonmdjgapnaaBase35
import Derived.Test.YtnbgonmdjgapnaaBase01
import Derived.Deep.QuietTactic
import Derived.BigQuiet
import Derived.Test.YtnbgonmdjgapnaaBase06
import Derived.DataReads
namespace Go.Proofs.Ytnbgonmdjgapnaa
open Go.RowKit
set_option linter.unusedSimpArgs false
set_option linter.unusedVariables false
set_option maxRecDepth 20000
def SysD (w : World) (e : Ending) (w' : World) : Prop :=
  ∃ (pr : Pr) (s : Sy) (c t l : Value), e = .returned (.agg #[c, t, .int .i64 s.clock, l]) ∧ SyOn (fun b => w.heap.size ≤ b) w' c t l s ∧ Off pr s ∧ Below w.heap.size w w'
set_option maxHeartbeats 2000000 in
theorem drawSysNums_any (a : Option Addr) (n cap : Nat) (w : World) (h : Bytes w a n) (hc : n ≤ cap) (hn : cap ≤ 9223372036854775807) :
    Calls Try.prog 27 #[.slice a n cap] w (SysD w) := by
  have HY : Hid (Bytes (w.alloc (.cells #[.slice none 0 0, .slice none 0 0, .int .i64 0, .slice none 0 0] 32)) a n) := fun i hi => by
    obtain ⟨b, off, u, e, h1, h2, h3, h4⟩ := h i hi
    exact ⟨b, off, u, e, by simp; omega, h2, h3, by rw [World.cell?_alloc_past _ _ _ h1]; exact h4⟩
  have HZ0 : Hid (SBox (w.alloc (.cells #[.slice none 0 0, .slice none 0 0, .int .i64 0, .slice none 0 0] 32)) w.heap.size (.slice none 0 0) (.slice none 0 0) (.slice none 0 0) 0) := heap_alloc_new w _
  clear h
  go_enter Try.func27, Try.ntmps27
  go_wp2_with fail
  refine (l6Open_any a n cap _ HY.out hc hn).mono ?_
  rintro e w0 ⟨rfl, hR0, hB0⟩
  have hRe : (w.alloc (.cells #[.slice none 0 0, .slice none 0 0, .int .i64 0, .slice none 0 0] 32)).heap.size = w.heap.size + 1 := by simp
  rw [hRe] at hR0 hB0
  clear hRe
  have HZ1 : Hid (SBox w0 w.heap.size (.slice none 0 0) (.slice none 0 0) (.slice none 0 0) 0) := HZ0.out.heap (hB0.block _ (by omega))
  have hs0 : w.heap.size < w0.heap.size := HZ1.out.lt
  have HB0 : Hid (Below w.heap.size w w0) := ((Below.refl w.heap.size w).alloc (Nat.le_refl _) _).trans (hB0.mono (by omega))
  clear hB0 HY HZ0
  go_wp2_with fail
  refine (l71Off_any (w.heap.size + 1 + 1) (w.heap.size + 1) 0 w0 hR0 (by omega)).mono ?_
  rintro e w1 ⟨pr, s, cv, bv, c, t, l, p', rfl, hP, hS, hok, hc1, ho, _, _, hR1, hF1⟩
  have HB1 : Hid (Below w.heap.size w w1) := HB0.out.trans ((hF1.mono (B' := w.heap.size) (by omega)).below (by omega))
  have HZ2 : Hid (SBox w1 w.heap.size (.slice none 0 0) (.slice none 0 0) (.slice none 0 0) 0) := HZ1.out.heap (hF1.block _ HZ1.out.lt (by omega))
  have HS := (show Hid (SyOn _ _ _ _ _ _) from hS)
  have HO := (show Hid (Off _ _) from ho)
  obtain ⟨ac, cc, rfl, _⟩ := hP.1.shape
  obtain ⟨ab, cb, rfl, _⟩ := hP.2.shape
  obtain ⟨xa, xc, ya, yc, za, zc, rfl, rfl, rfl⟩ := hS.shapes
  have hs1 := hF1.size
  clear hP hS hok hc1 ho hR1 hF1 hR0 HB0 HZ1
  obtain ⟨⟨z0, z1, z2, z3⟩, ⟨fz0, fz1, fz2, fz3⟩, hZl⟩ := HZ2.out.cells
  go_wp2_with fail
  have hZ3 : SBox (((((w1.setCell ⟨w.heap.size, 0, none⟩ (.slice xa s.cells.length xc)).setCell ⟨w.heap.size, 1, none⟩ (.slice ya s.tasks.length yc)).setCell ⟨w.heap.size, 2, none⟩ (.int .i64 s.clock)).setCell ⟨w.heap.size, 3, none⟩ (.slice za s.log.length zc))) w.heap.size (.slice xa s.cells.length xc) (.slice ya s.tasks.length yc) (.slice za s.log.length zc) s.clock := SBox.put HZ2.out
  obtain ⟨⟨d0, d1, d2, d3⟩, _, _⟩ := ((hZ3.heap (Below.heap_alloc _ (.cells #[.slice ac pr.cells.length cc, .slice ab pr.bodies.length cb] 26) _ hZ3.lt)).heap (Below.heap_alloc _ (.cells #[.slice xa s.cells.length xc, .slice ya s.tasks.length yc, .int .i64 s.clock, .slice za s.log.length zc] 32) _ (by simp; omega))).cells
  have hn0 : ¬ (fun b => w0.heap.size ≤ b) w.heap.size := by show ¬ w0.heap.size ≤ w.heap.size; omega
  clear z0 z1 z2 z3 fz0 fz1 fz2 fz3 hZ3
  refine bodyPost_ret (v := .agg #[.slice xa s.cells.length xc, .slice ya s.tasks.length yc, .int .i64 s.clock, .slice za s.log.length zc]) (by simp [results, Try.results27, go_sem, d0, d1, d2, d3]) rfl ?_
  refine ⟨pr, s, _, _, _, rfl, ?_, HO.out, ?_⟩
  · refine SyOn.wide (S := fun b => w0.heap.size ≤ b) (fun b hb => by have : w0.heap.size ≤ b := hb; show w.heap.size ≤ b; omega) ?_
    exact (((((HS.out.kept (Kept.set _ _ _ _ hn0)).kept (Kept.set _ _ _ _ hn0)).kept (Kept.set _ _ _ _ hn0)).kept (Kept.set _ _ _ _ hn0)).kept (Kept.below ((Below.refl _ _).alloc (Nat.le_refl _) _))).kept (Kept.below ((Below.refl _ _).alloc (Nat.le_refl _) _))
  · exact (((((HB1.out.setCell (by simp) _).setCell (by simp) _).setCell (by simp) _).setCell (by simp) _).alloc (by simp; omega) _).alloc (by simp; omega) _
end Go.Proofs.Ytnbgonmdjgapnaa

namespace Go.Proofs.Ytnbgonmdjgapnaa
open Go.RowKit
set_option linter.unusedSimpArgs false
set_option linter.unusedVariables false
set_option maxRecDepth 20000
set_option maxHeartbeats 1000000 in
theorem drawSysWays_any (a : Option Addr) (n cap : Nat) (w : World) (h : Bytes w a n) (hc : n ≤ cap) (hn : cap ≤ 9223372036854775807) :
    Calls Try.prog 29 #[.slice a n cap] w (SysD w) := by
  have HY : Hid (Bytes (w.alloc (.cells #[.slice none 0 0, .slice none 0 0, .int .i64 0, .slice none 0 0] 32)) a n) := fun i hi => by
    obtain ⟨b, off, u, e, h1, h2, h3, h4⟩ := h i hi
    exact ⟨b, off, u, e, by simp; omega, h2, h3, by rw [World.cell?_alloc_past _ _ _ h1]; exact h4⟩
  have HZ0 : Hid (SBox (w.alloc (.cells #[.slice none 0 0, .slice none 0 0, .int .i64 0, .slice none 0 0] 32)) w.heap.size (.slice none 0 0) (.slice none 0 0) (.slice none 0 0) 0) := heap_alloc_new w _
  clear h
  go_enter Try.func29, Try.ntmps29
  go_wp2_with fail
  refine (drawSysNums_any a n cap _ HY.out hc hn).mono ?_
  rintro e w1 ⟨pr, s, c, t, l, rfl, hS, hO, hb1⟩
  have HZ2 : Hid (SBox w1 w.heap.size (.slice none 0 0) (.slice none 0 0) (.slice none 0 0) 0) := HZ0.out.heap (hb1.block _ HZ0.out.lt)
  have HB1 : Hid (Below w.heap.size w w1) := ((Below.refl w.heap.size w).alloc (Nat.le_refl _) _).trans (hb1.mono (by simp))
  have hs1 : w.heap.size + 1 ≤ w1.heap.size := by have := hb1.size; simpa using this
  have HS : Hid (SyOn (fun b => w.heap.size + 1 ≤ b) w1 c t l s) := hS.wide (fun b hb => by simpa using hb)
  have HO := (show Hid (Off _ _) from hO)
  obtain ⟨xa, xc, ya, yc, za, zc, rfl, rfl, rfl⟩ := hS.shapes
  clear hS hO hb1 HY HZ0
  obtain ⟨⟨z0, z1, z2, z3⟩, ⟨fz0, fz1, fz2, fz3⟩, hZl⟩ := HZ2.out.cells
  go_wp2_with fail
  obtain ⟨⟨d0, d1, d2, d3⟩, _, _⟩ := (SBox.put (c' := .slice xa s.cells.length xc) (t' := .slice ya s.tasks.length yc) (l' := .slice za s.log.length zc) (k' := s.clock) HZ2.out).cells
  have hn0 : ¬ (fun b => w.heap.size + 1 ≤ b) w.heap.size := by show ¬ w.heap.size + 1 ≤ w.heap.size; omega
  clear z0 z1 z2 z3 fz0 fz1 fz2 fz3
  refine bodyPost_ret (v := .agg #[.slice xa s.cells.length xc, .slice ya s.tasks.length yc, .int .i64 s.clock, .slice za s.log.length zc]) (by simp [results, Try.results29, go_sem, d0, d1, d2, d3]) rfl ?_
  refine ⟨pr, s, _, _, _, rfl, ?_, HO.out, ?_⟩
  · refine SyOn.wide (S := fun b => w.heap.size + 1 ≤ b) (fun b hb => by have : w.heap.size + 1 ≤ b := hb; show w.heap.size ≤ b; omega) ?_
    exact (((HS.out.kept (Kept.set _ _ _ _ hn0)).kept (Kept.set _ _ _ _ hn0)).kept (Kept.set _ _ _ _ hn0)).kept (Kept.set _ _ _ _ hn0)
  · exact (((HB1.out.setCell (by simp) _).setCell (by simp) _).setCell (by simp) _).setCell (by simp) _
set_option maxHeartbeats 1000000 in
theorem drawTreeLive_any (a : Option Addr) (n cap : Nat) (w : World) (h : Bytes w a n) (hc : n ≤ cap) (hn : cap ≤ 9223372036854775807) :
    Calls Try.prog 45 #[.slice a n cap] w (SysD w) := by
  have HY : Hid (Bytes (w.alloc (.cells #[.slice none 0 0, .slice none 0 0, .int .i64 0, .slice none 0 0] 32)) a n) := fun i hi => by
    obtain ⟨b, off, u, e, h1, h2, h3, h4⟩ := h i hi
    exact ⟨b, off, u, e, by simp; omega, h2, h3, by rw [World.cell?_alloc_past _ _ _ h1]; exact h4⟩
  have HZ0 : Hid (SBox (w.alloc (.cells #[.slice none 0 0, .slice none 0 0, .int .i64 0, .slice none 0 0] 32)) w.heap.size (.slice none 0 0) (.slice none 0 0) (.slice none 0 0) 0) := heap_alloc_new w _
  clear h
  go_enter Try.func45, Try.ntmps45
  go_wp2_with fail
  refine (drawSysNums_any a n cap _ HY.out hc hn).mono ?_
  rintro e w1 ⟨pr, s, c, t, l, rfl, hS, hO, hb1⟩
  have HZ2 : Hid (SBox w1 w.heap.size (.slice none 0 0) (.slice none 0 0) (.slice none 0 0) 0) := HZ0.out.heap (hb1.block _ HZ0.out.lt)
  have HB1 : Hid (Below w.heap.size w w1) := ((Below.refl w.heap.size w).alloc (Nat.le_refl _) _).trans (hb1.mono (by simp))
  have hs1 : w.heap.size + 1 ≤ w1.heap.size := by have := hb1.size; simpa using this
  have HS : Hid (SyOn (fun b => w.heap.size + 1 ≤ b) w1 c t l s) := hS.wide (fun b hb => by simpa using hb)
  have HO := (show Hid (Off _ _) from hO)
  obtain ⟨xa, xc, ya, yc, za, zc, rfl, rfl, rfl⟩ := hS.shapes
  clear hS hO hb1 HY HZ0
  obtain ⟨⟨z0, z1, z2, z3⟩, ⟨fz0, fz1, fz2, fz3⟩, hZl⟩ := HZ2.out.cells
  go_wp2_with fail
  obtain ⟨⟨d0, d1, d2, d3⟩, _, _⟩ := (SBox.put (c' := .slice xa s.cells.length xc) (t' := .slice ya s.tasks.length yc) (l' := .slice za s.log.length zc) (k' := s.clock) HZ2.out).cells
  have hn0 : ¬ (fun b => w.heap.size + 1 ≤ b) w.heap.size := by show ¬ w.heap.size + 1 ≤ w.heap.size; omega
  clear z0 z1 z2 z3 fz0 fz1 fz2 fz3
  refine bodyPost_ret (v := .agg #[.slice xa s.cells.length xc, .slice ya s.tasks.length yc, .int .i64 s.clock, .slice za s.log.length zc]) (by simp [results, Try.results45, go_sem, d0, d1, d2, d3]) rfl ?_
  refine ⟨pr, s, _, _, _, rfl, ?_, HO.out, ?_⟩
  · refine SyOn.wide (S := fun b => w.heap.size + 1 ≤ b) (fun b hb => by have : w.heap.size + 1 ≤ b := hb; show w.heap.size ≤ b; omega) ?_
    exact (((HS.out.kept (Kept.set _ _ _ _ hn0)).kept (Kept.set _ _ _ _ hn0)).kept (Kept.set _ _ _ _ hn0)).kept (Kept.set _ _ _ _ hn0)
  · exact (((HB1.out.setCell (by simp) _).setCell (by simp) _).setCell (by simp) _).setCell (by simp) _
set_option maxHeartbeats 1000000 in
theorem drawTreeOk_any (a : Option Addr) (n cap : Nat) (w : World) (h : Bytes w a n) (hc : n ≤ cap) (hn : cap ≤ 9223372036854775807) :
    Calls Try.prog 49 #[.slice a n cap] w (SysD w) := by
  have HY : Hid (Bytes (w.alloc (.cells #[.slice none 0 0, .slice none 0 0, .int .i64 0, .slice none 0 0] 32)) a n) := fun i hi => by
    obtain ⟨b, off, u, e, h1, h2, h3, h4⟩ := h i hi
    exact ⟨b, off, u, e, by simp; omega, h2, h3, by rw [World.cell?_alloc_past _ _ _ h1]; exact h4⟩
  have HZ0 : Hid (SBox (w.alloc (.cells #[.slice none 0 0, .slice none 0 0, .int .i64 0, .slice none 0 0] 32)) w.heap.size (.slice none 0 0) (.slice none 0 0) (.slice none 0 0) 0) := heap_alloc_new w _
  clear h
  go_enter Try.func49, Try.ntmps49
  go_wp2_with fail
  refine (drawSysNums_any a n cap _ HY.out hc hn).mono ?_
  rintro e w1 ⟨pr, s, c, t, l, rfl, hS, hO, hb1⟩
  have HZ2 : Hid (SBox w1 w.heap.size (.slice none 0 0) (.slice none 0 0) (.slice none 0 0) 0) := HZ0.out.heap (hb1.block _ HZ0.out.lt)
  have HB1 : Hid (Below w.heap.size w w1) := ((Below.refl w.heap.size w).alloc (Nat.le_refl _) _).trans (hb1.mono (by simp))
  have hs1 : w.heap.size + 1 ≤ w1.heap.size := by have := hb1.size; simpa using this
  have HS : Hid (SyOn (fun b => w.heap.size + 1 ≤ b) w1 c t l s) := hS.wide (fun b hb => by simpa using hb)
  have HO := (show Hid (Off _ _) from hO)
  obtain ⟨xa, xc, ya, yc, za, zc, rfl, rfl, rfl⟩ := hS.shapes
  clear hS hO hb1 HY HZ0
  obtain ⟨⟨z0, z1, z2, z3⟩, ⟨fz0, fz1, fz2, fz3⟩, hZl⟩ := HZ2.out.cells
  go_wp2_with fail
  obtain ⟨⟨d0, d1, d2, d3⟩, _, _⟩ := (SBox.put (c' := .slice xa s.cells.length xc) (t' := .slice ya s.tasks.length yc) (l' := .slice za s.log.length zc) (k' := s.clock) HZ2.out).cells
  have hn0 : ¬ (fun b => w.heap.size + 1 ≤ b) w.heap.size := by show ¬ w.heap.size + 1 ≤ w.heap.size; omega
  clear z0 z1 z2 z3 fz0 fz1 fz2 fz3
  refine bodyPost_ret (v := .agg #[.slice xa s.cells.length xc, .slice ya s.tasks.length yc, .int .i64 s.clock, .slice za s.log.length zc]) (by simp [results, Try.results49, go_sem, d0, d1, d2, d3]) rfl ?_
  refine ⟨pr, s, _, _, _, rfl, ?_, HO.out, ?_⟩
  · refine SyOn.wide (S := fun b => w.heap.size + 1 ≤ b) (fun b hb => by have : w.heap.size + 1 ≤ b := hb; show w.heap.size ≤ b; omega) ?_
    exact (((HS.out.kept (Kept.set _ _ _ _ hn0)).kept (Kept.set _ _ _ _ hn0)).kept (Kept.set _ _ _ _ hn0)).kept (Kept.set _ _ _ _ hn0)
  · exact (((HB1.out.setCell (by simp) _).setCell (by simp) _).setCell (by simp) _).setCell (by simp) _
end Go.Proofs.Ytnbgonmdjgapnaa

namespace Go.Proofs.Ytnbgonmdjgapnaa
open Go.RowKit
set_option linter.unusedSimpArgs false
set_option linter.unusedVariables false
theorem eq_of_nth {α : Type} (z : α) {l m : List α} (hl : l.length = m.length) (h : ∀ i, i < l.length → nth z l i = nth z m i) : l = m := by
  apply List.ext_getElem hl
  intro i h1 h2
  have := h i h1
  rw [nth_eq z l i h1, nth_eq z m i h2] at this
  exact this
theorem ne_of_nth {α : Type} (z : α) {l m : List α} {i : Nat} (h : nth z l i ≠ nth z m i) : l ≠ m := fun e => h (by rw [e])
noncomputable def isT (p : Prop) : Bool := @decide p (Classical.propDecidable p)
theorem isT_yes {p : Prop} (h : p) : isT p = true := @decide_eq_true p (Classical.propDecidable p) h
theorem isT_no {p : Prop} (h : ¬ p) : isT p = false := @decide_eq_false p (Classical.propDecidable p) h
set_option maxHeartbeats 1000000 in
theorem lqInts_any (xs ys : List Int) (v v' : Value) (w : World) (h : IntsAt w v xs) (h' : IntsAt w v' ys) :
    Calls Try.prog 22 #[v, v'] w fun r w' => r = .returned (.bool (decide (xs = ys))) ∧ Below w.heap.size w w' := by
  obtain ⟨a, cap, rfl, hm, hc⟩ := h
  obtain ⟨a', cap', rfl, hm', hc'⟩ := h'
  by_cases hlen : xs.length = ys.length
  · have HC := (show Hid (∀ i, i < xs.length → _) from hc)
    have HC' := (show Hid (∀ i, i < ys.length → _) from hc')
    have HL := (show Hid (xs.length = ys.length) from hlen)
    rw [← hlen] at hm' ⊢
    clear hc hc' hlen
    go_enter Try.func22, Try.ntmps22
    go_wp2_with fail
    go_loopw [5] (fun q w' => ∃ k : Nat, k ≤ xs.length ∧ q = .int .i64 k ∧ (∀ j, j < k → nth 0 xs j = nth 0 ys j) ∧ Below w.heap.size w w') (fun q _ => xs.length - (intOf q).toNat)
    case atStart => exact ⟨0, Nat.zero_le _, rfl, fun j hj => absurd hj (Nat.not_lt_zero _), Below.refl _ _⟩
    case round =>
      obtain ⟨k, hk, rfl, hall, hb⟩ := hrel
      have HA := (show Hid (∀ j, j < k → nth 0 xs j = nth 0 ys j) from hall)
      clear hall
      by_cases hlt : k < xs.length
      · obtain ⟨b, off, rfl, hbw, c0⟩ := HC.out k hlt
        obtain ⟨b', off', rfl, hbw', c0'⟩ := HC'.out k (by have := HL.out; omega)
        rw [← hb.cell (p := ⟨b, _, none⟩) hbw] at c0
        rw [← hb.cell (p := ⟨b', _, none⟩) hbw'] at c0'
        have hi : (k : Int) < (xs.length : Int) := by omega
        have HB := (show Hid (Below w.heap.size w wr) from hb)
        by_cases he : nth 0 xs k = nth 0 ys k
        · have HE : Hid (∀ j, j < k + 1 → nth 0 xs j = nth 0 ys j) := fun j hj => by
            rcases Nat.lt_succ_iff_lt_or_eq.1 hj with h1 | rfl
            · exact HA.out j h1
            · exact he
          rw [← he] at c0'
          clear he hb
          generalize nth 0 xs k = z at *
          go_wp2_with fail
          go_quiet (fail)
          go_wp2_with fail
          go_roundw
          case rel => exact ⟨k + 1, by omega, by go_num, HE.out, below_drewN HB.out _⟩
          case measure => simp [intOf]; omega
        · have HN : Hid (decide (xs = ys) = false) := by
            have := ne_of_nth 0 he
            simp [Hid, this]
          have he' : (nth 0 xs k == nth 0 ys k) = false := by simp [he]
          clear hb
          generalize nth 0 xs k = z at *
          generalize nth 0 ys k = z' at *
          go_wp2_with fail
          go_quiet (fail)
          go_wp2_with fail
          go_ret
          exact ⟨by rw [HN.out]; rfl, below_drewN HB.out _⟩
      · have HY : Hid (decide (xs = ys) = true) := by
          have := eq_of_nth 0 HL.out (fun i hi => HA.out i (by omega))
          simp [Hid, this]
        go_wp2_with fail
        go_ret
        exact ⟨by rw [HY.out]; rfl, hb⟩
  · have HN : Hid (decide (xs = ys) = false) := by
      have : xs ≠ ys := fun e => hlen (by rw [e])
      simp [Hid, this]
    have h1 : ¬ (xs.length : Int) = (ys.length : Int) := by omega
    clear hc hc' hlen
    go_enter Try.func22, Try.ntmps22
    go_wp2_with fail
    go_ret
    exact ⟨by rw [HN.out]; rfl, Below.refl _ _⟩
end Go.Proofs.Ytnbgonmdjgapnaa

namespace Go.Proofs.Ytnbgonmdjgapnaa
open Go.RowKit
set_option linter.unusedSimpArgs false
set_option linter.unusedVariables false
theorem bytes_of {w : World} {x : Addr} {len cap : Nat} {zs : List Int} (hl : len ≤ cap) (hz : zs.length = cap) (hcell : ∀ i, i < zs.length → w.cell? (x.add i) = some (.int .u8 (zs.getD i 0))) (hwf : ∀ n ∈ zs, (Lit.int .u8 n).wf = true) : Bytes w (some x) len := fun i hi => by
  have hi' : i < zs.length := by omega
  have h1 := hcell i hi'
  have hlt := World.block_lt_of_cell? w _ h1
  have hs := World.cell?_spot (hcell 0 (by omega))
  have hw := hwf (zs.getD i 0) (by rw [List.getD_eq_getElem?_getD, List.getElem?_eq_getElem hi']; exact List.getElem_mem hi')
  obtain ⟨xb, xo, xs⟩ := x
  cases xs with
  | some s => simp [Addr.add] at hs
  | none =>
    have hm : IntKind.u8.min = 0 := by decide
    have hM : IntKind.u8.max = 255 := by decide
    have hr : 0 ≤ zs.getD i 0 ∧ zs.getD i 0 ≤ 255 := by
      unfold Lit.wf at hw
      simp only [Bool.and_eq_true, decide_eq_true_eq, hm, hM] at hw
      exact hw
    rw [Go.WideShapes.add_plain] at h1 hlt
    exact ⟨xb, xo, zs.getD i 0, rfl, hlt, hr.1, hr.2, h1⟩
end Go.Proofs.Ytnbgonmdjgapnaa
