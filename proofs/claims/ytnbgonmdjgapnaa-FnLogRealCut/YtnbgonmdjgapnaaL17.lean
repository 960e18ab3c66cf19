/-
  Drawn lists of entries, and which stands ahead (by mkl17.py).
-/
import Derived.Test.YtnbgonmdjgapnaaL16
import Derived.Test.YtnbgonmdjgapnaaB1
import Derived.Test.YtnbgonmdjgapnaaBaseL
namespace Go.Proofs.Ytnbgonmdjgapnaa
open Go.RowKit
set_option linter.unusedSimpArgs false
set_option linter.unusedVariables false
set_option maxRecDepth 20000

/-- a drawn list of entries -/
def EnD (w : World) (e : Ending) (w' : World) : Prop :=
  ∃ (L : List En) (lv : Value), e = .returned lv ∧ EnsOn (fun b => w.heap.size ≤ b) w' lv L ∧ L.length ≤ 28 ∧ Below w.heap.size w w'
set_option maxHeartbeats 2000000 in
theorem drawLogOrder_any (a : Option Addr) (n cap : Nat) (w : World) (h : Bytes w a n) (hc : n ≤ cap) (hn : cap ≤ 9223372036854775807) :
    Calls Try.prog 92 #[.slice a n cap] w (EnD w) := by
  have HY := (show Hid (Bytes _ _ _) from h)
  clear h
  go_enter Try.func92, Try.ntmps92
  go_wp2_with fail
  refine (l6Open_any a n cap _ HY.out hc hn).mono ?_
  rintro e w0 ⟨rfl, hR0, hB0⟩
  have hs0 : w.heap.size + 1 ≤ w0.heap.size := hR0.le
  have HB0 := (show Hid (Below _ _ _) from hB0)
  clear hB0 HY
  go_wp2_with fail
  refine (l71Log_any (w.heap.size + 1) w.heap.size 0 w0 hR0 (by omega)).mono ?_
  rintro e w1 ⟨pr, L, cv, bv, lv, p', rfl, hP, hL, h28, hok, hc1, _, _, hR1, hF1⟩
  have HB1 : Hid (Below w.heap.size w w1) := HB0.out.trans ((hF1.mono (B' := w.heap.size) (by omega)).below (by omega))
  have HL := (show Hid (EnsOn _ _ _ _) from hL)
  have hs1 := hF1.size
  obtain ⟨ac, cc, rfl, _⟩ := hP.1.shape
  obtain ⟨ab, cb, rfl, _⟩ := hP.2.shape
  obtain ⟨la, lc, rfl, _⟩ := hL.shape
  clear hP hL hok hc1 hR1 hF1 hR0 HB0
  go_wp2_with fail
  go_ret
  refine ⟨L, _, rfl, ?_, h28, HB1.out.alloc HB1.out.size _⟩
  exact (HL.out.kept (Kept.below ((Below.refl _ _).alloc (Nat.le_refl _) _))).wide (fun b hb => by have : w0.heap.size ≤ b := hb; show w.heap.size ≤ b; omega)

theorem drawLogReal_any (a : Option Addr) (n cap : Nat) (w : World) (h : Bytes w a n) (hc : n ≤ cap) (hn : cap ≤ 9223372036854775807) :
    Calls Try.prog 38 #[.slice a n cap] w (EnD w) := by
  go_enter Try.func38, Try.ntmps38
  go_wp2_with fail
  refine (drawLogOrder_any a n cap w h hc hn).mono ?_
  rintro e w1 ⟨L, lv, rfl, hL, h28, hb⟩
  have HL := (show Hid (EnsOn _ _ _ _) from hL)
  have HB := (show Hid (Below _ _ _) from hb)
  obtain ⟨la, lc, rfl, _⟩ := hL.shape
  clear hL hb
  go_wp2_with fail
  go_ret
  exact ⟨L, _, rfl, HL.out, h28, HB.out⟩

set_option maxHeartbeats 1000000 in
theorem lqAhead_any (x y : En) (a3 a4 b3 b4 : Option Addr) (c3 c4 d3 d4 : Nat) (w : World) :
    Calls Try.prog 40 #[.agg #[.int .i64 x.task, .int .i64 x.act, .int .i64 x.when_, .slice a3 x.reads.length c3, .slice a4 x.puts.length c4, .int .i64 x.from_], .agg #[.int .i64 y.task, .int .i64 y.act, .int .i64 y.when_, .slice b3 y.reads.length d3, .slice b4 y.puts.length d4, .int .i64 y.from_]] w fun r w' => r = .returned (.bool (ahB x y)) ∧ Below w.heap.size w w' := by
  by_cases q : x.when_ = y.when_
  · have q1 : (x.when_ == y.when_) = true := by simp [q]
    have q2 : ¬ x.when_ < y.when_ := by omega
    have q3 : (y.when_ == y.when_) = true := by simp
    by_cases p1 : 0 < x.puts.length
    · have p1' : (0 : Int) < (x.puts.length : Int) := by omega
      by_cases p2 : y.puts.length = 0
      · have p2' : ((y.puts.length : Int) == 0) = true := by simp [p2]
        have HF : Hid (ahB x y = true) := by simp [Hid, ahB, q, p1, p2]
        clear p1
        go_enter Try.func40, Try.ntmps40
        go_wp2_with fail
        go_ret
        exact ⟨by rw [HF.out]; rfl, (by repeat (first | with_reducible exact Below.refl _ _ | (with_reducible refine Below.setCell ?_ ?hs _; case hs => ((try simp); try omega)) | (with_reducible refine Below.alloc ?_ ?hs _; case hs => ((try simp); try omega)) | with_reducible refine Below.drew ?_))⟩
      · have p2' : ((y.puts.length : Int) == 0) = false := by simp [p2]
        have HF : Hid (ahB x y = false) := by simp [Hid, ahB, q, p1, p2]
        clear p1 p2
        go_enter Try.func40, Try.ntmps40
        go_wp2_with fail
        go_ret
        exact ⟨by rw [HF.out]; rfl, (by repeat (first | with_reducible exact Below.refl _ _ | (with_reducible refine Below.setCell ?_ ?hs _; case hs => ((try simp); try omega)) | (with_reducible refine Below.alloc ?_ ?hs _; case hs => ((try simp); try omega)) | with_reducible refine Below.drew ?_))⟩
    · have p1' : ¬ (0 : Int) < (x.puts.length : Int) := by omega
      have HF : Hid (ahB x y = false) := by simp [Hid, ahB, q, p1]
      clear p1
      go_enter Try.func40, Try.ntmps40
      go_wp2_with fail
      go_ret
      exact ⟨by rw [HF.out]; rfl, (by repeat (first | with_reducible exact Below.refl _ _ | (with_reducible refine Below.setCell ?_ ?hs _; case hs => ((try simp); try omega)) | (with_reducible refine Below.alloc ?_ ?hs _; case hs => ((try simp); try omega)) | with_reducible refine Below.drew ?_))⟩
  · have q1 : (x.when_ == y.when_) = false := by simp [q]
    by_cases q2 : x.when_ < y.when_
    · have HF : Hid (ahB x y = true) := by simp [Hid, ahB, q, q2]
      go_enter Try.func40, Try.ntmps40
      go_wp2_with fail
      go_ret
      exact ⟨by rw [HF.out]; rfl, (by repeat (first | with_reducible exact Below.refl _ _ | (with_reducible refine Below.setCell ?_ ?hs _; case hs => ((try simp); try omega)) | (with_reducible refine Below.alloc ?_ ?hs _; case hs => ((try simp); try omega)) | with_reducible refine Below.drew ?_))⟩
    · have HF : Hid (ahB x y = false) := by simp [Hid, ahB, q, q2]
      go_enter Try.func40, Try.ntmps40
      go_wp2_with fail
      go_ret
      exact ⟨by rw [HF.out]; rfl, (by repeat (first | with_reducible exact Below.refl _ _ | (with_reducible refine Below.setCell ?_ ?hs _; case hs => ((try simp); try omega)) | (with_reducible refine Below.alloc ?_ ?hs _; case hs => ((try simp); try omega)) | with_reducible refine Below.drew ?_))⟩



end Go.Proofs.Ytnbgonmdjgapnaa
