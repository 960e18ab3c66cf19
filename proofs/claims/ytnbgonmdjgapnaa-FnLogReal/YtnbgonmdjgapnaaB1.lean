/-
  LogReal: whether one stands ahead of another, of the program and of the model (by mkb1.py).
-/
import Derived.Test.YtnbgonmdjgapnaaQ0
import Derived.Test.YtnbgonmdjgapnaaBase03
import Derived.Handy
namespace Go.Proofs.Ytnbgonmdjgapnaa
open Go.RowKit
set_option linter.unusedSimpArgs false
set_option linter.unusedVariables false
set_option maxRecDepth 20000

/-- one stands ahead of another one -/
def ahB (a b : En) : Bool := if a.when_ = b.when_ then decide (0 < a.puts.length) && decide (b.puts.length = 0) else decide (a.when_ < b.when_)
/-- none stands ahead of one of its first -/
def LrP (xs : List En) : Prop := ∀ i, i < xs.length → ∀ j : Nat, (j : Int) < (nth En.z xs i).from_ → j < i → ahB (nth En.z xs i) (nth En.z xs j) = false
/-- the answer is a Boolean, that says whether -/
def BSays (r : Ending) (P : Prop) : Prop := ∃ q : Bool, r = .returned (.bool q) ∧ (q = true ↔ P)
theorem lrP_no {xs : List En} {k m : Nat} (hk : k < xs.length) (h1 : (m : Int) < (nth En.z xs k).from_) (h2 : m < k) (hd : ahB (nth En.z xs k) (nth En.z xs m) = true) : ¬ LrP xs := fun h => Bool.noConfusion ((h k hk m h1 h2).symm.trans hd)
theorem bsays_yes {P : Prop} (h : P) : BSays (.returned (.bool true)) P := ⟨true, rfl, fun _ => h, fun _ => rfl⟩
theorem bsays_no {P : Prop} (h : ¬ P) : BSays (.returned (.bool false)) P := ⟨false, rfl, fun e => Bool.noConfusion e, fun e => absurd e h⟩
theorem eq_of_iff {a b : Bool} {P : Prop} (h : a = true ↔ P) (h' : b = true ↔ P) : a = b := by
  cases a <;> cases b <;> simp_all

set_option maxHeartbeats 1000000 in
theorem standsAhead_any (x y : En) (a3 a4 b3 b4 : Option Addr) (c3 c4 d3 d4 : Nat) (w : World) :
    Calls Try.prog 93 #[.agg #[.int .i64 x.task, .int .i64 x.act, .int .i64 x.when_, .slice a3 x.reads.length c3, .slice a4 x.puts.length c4, .int .i64 x.from_], .agg #[.int .i64 y.task, .int .i64 y.act, .int .i64 y.when_, .slice b3 y.reads.length d3, .slice b4 y.puts.length d4, .int .i64 y.from_]] w fun r w' => r = .returned (.bool (ahB x y)) ∧ Below w.heap.size w w' := by
  by_cases q : x.when_ = y.when_
  · have q1 : (x.when_ == y.when_) = true := by simp [q]
    have q2 : ¬ x.when_ < y.when_ := by omega
    have q3 : (y.when_ == y.when_) = true := by simp
    by_cases p1 : 0 < x.puts.length
    · have p1' : (0 : Int) < (x.puts.length : Int) := by omega
      by_cases p2 : y.puts.length = 0
      · have p2' : ((y.puts.length : Int) == 0) = true := by simp [p2]
        have HF : Hid (ahB x y = true) := by simp [Hid, ahB, q, p1, p2]
        clear p1
        go_enter Try.func93, Try.ntmps93
        go_wp2_with fail
        go_ret
        exact ⟨by rw [HF.out]; rfl, (by repeat (first | with_reducible exact Below.refl _ _ | (with_reducible refine Below.setCell ?_ ?hs _; case hs => ((try simp); try omega)) | (with_reducible refine Below.alloc ?_ ?hs _; case hs => ((try simp); try omega)) | with_reducible refine Below.drew ?_))⟩
      · have p2' : ((y.puts.length : Int) == 0) = false := by simp [p2]
        have HF : Hid (ahB x y = false) := by simp [Hid, ahB, q, p1, p2]
        clear p1 p2
        go_enter Try.func93, Try.ntmps93
        go_wp2_with fail
        go_ret
        exact ⟨by rw [HF.out]; rfl, (by repeat (first | with_reducible exact Below.refl _ _ | (with_reducible refine Below.setCell ?_ ?hs _; case hs => ((try simp); try omega)) | (with_reducible refine Below.alloc ?_ ?hs _; case hs => ((try simp); try omega)) | with_reducible refine Below.drew ?_))⟩
    · have p1' : ¬ (0 : Int) < (x.puts.length : Int) := by omega
      have HF : Hid (ahB x y = false) := by simp [Hid, ahB, q, p1]
      clear p1
      go_enter Try.func93, Try.ntmps93
      go_wp2_with fail
      go_ret
      exact ⟨by rw [HF.out]; rfl, (by repeat (first | with_reducible exact Below.refl _ _ | (with_reducible refine Below.setCell ?_ ?hs _; case hs => ((try simp); try omega)) | (with_reducible refine Below.alloc ?_ ?hs _; case hs => ((try simp); try omega)) | with_reducible refine Below.drew ?_))⟩
  · have q1 : (x.when_ == y.when_) = false := by simp [q]
    by_cases q2 : x.when_ < y.when_
    · have HF : Hid (ahB x y = true) := by simp [Hid, ahB, q, q2]
      go_enter Try.func93, Try.ntmps93
      go_wp2_with fail
      go_ret
      exact ⟨by rw [HF.out]; rfl, (by repeat (first | with_reducible exact Below.refl _ _ | (with_reducible refine Below.setCell ?_ ?hs _; case hs => ((try simp); try omega)) | (with_reducible refine Below.alloc ?_ ?hs _; case hs => ((try simp); try omega)) | with_reducible refine Below.drew ?_))⟩
    · have HF : Hid (ahB x y = false) := by simp [Hid, ahB, q, q2]
      go_enter Try.func93, Try.ntmps93
      go_wp2_with fail
      go_ret
      exact ⟨by rw [HF.out]; rfl, (by repeat (first | with_reducible exact Below.refl _ _ | (with_reducible refine Below.setCell ?_ ?hs _; case hs => ((try simp); try omega)) | (with_reducible refine Below.alloc ?_ ?hs _; case hs => ((try simp); try omega)) | with_reducible refine Below.drew ?_))⟩

set_option maxHeartbeats 1000000 in
theorem l13Ahead_any (x y : En) (a3 a4 b3 b4 : Option Addr) (c3 c4 d3 d4 : Nat) (w : World) :
    Calls Try.prog 94 #[.agg #[.int .i64 x.task, .int .i64 x.act, .int .i64 x.when_, .slice a3 x.reads.length c3, .slice a4 x.puts.length c4, .int .i64 x.from_], .agg #[.int .i64 y.task, .int .i64 y.act, .int .i64 y.when_, .slice b3 y.reads.length d3, .slice b4 y.puts.length d4, .int .i64 y.from_]] w fun r w' => r = .returned (.bool (ahB x y)) ∧ Below w.heap.size w w' := by
  by_cases q : x.when_ = y.when_
  · have q1 : (x.when_ == y.when_) = true := by simp [q]
    have q2 : ¬ x.when_ < y.when_ := by omega
    have q3 : (y.when_ == y.when_) = true := by simp
    by_cases p1 : 0 < x.puts.length
    · have p1' : (0 : Int) < (x.puts.length : Int) := by omega
      by_cases p2 : y.puts.length = 0
      · have p2' : ((y.puts.length : Int) == 0) = true := by simp [p2]
        have HF : Hid (ahB x y = true) := by simp [Hid, ahB, q, p1, p2]
        clear p1
        go_enter Try.func94, Try.ntmps94
        go_wp2_with fail
        go_ret
        exact ⟨by rw [HF.out]; rfl, (by repeat (first | with_reducible exact Below.refl _ _ | (with_reducible refine Below.setCell ?_ ?hs _; case hs => ((try simp); try omega)) | (with_reducible refine Below.alloc ?_ ?hs _; case hs => ((try simp); try omega)) | with_reducible refine Below.drew ?_))⟩
      · have p2' : ((y.puts.length : Int) == 0) = false := by simp [p2]
        have HF : Hid (ahB x y = false) := by simp [Hid, ahB, q, p1, p2]
        clear p1 p2
        go_enter Try.func94, Try.ntmps94
        go_wp2_with fail
        go_ret
        exact ⟨by rw [HF.out]; rfl, (by repeat (first | with_reducible exact Below.refl _ _ | (with_reducible refine Below.setCell ?_ ?hs _; case hs => ((try simp); try omega)) | (with_reducible refine Below.alloc ?_ ?hs _; case hs => ((try simp); try omega)) | with_reducible refine Below.drew ?_))⟩
    · have p1' : ¬ (0 : Int) < (x.puts.length : Int) := by omega
      have HF : Hid (ahB x y = false) := by simp [Hid, ahB, q, p1]
      clear p1
      go_enter Try.func94, Try.ntmps94
      go_wp2_with fail
      go_ret
      exact ⟨by rw [HF.out]; rfl, (by repeat (first | with_reducible exact Below.refl _ _ | (with_reducible refine Below.setCell ?_ ?hs _; case hs => ((try simp); try omega)) | (with_reducible refine Below.alloc ?_ ?hs _; case hs => ((try simp); try omega)) | with_reducible refine Below.drew ?_))⟩
  · have q1 : (x.when_ == y.when_) = false := by simp [q]
    by_cases q2 : x.when_ < y.when_
    · have HF : Hid (ahB x y = true) := by simp [Hid, ahB, q, q2]
      go_enter Try.func94, Try.ntmps94
      go_wp2_with fail
      go_ret
      exact ⟨by rw [HF.out]; rfl, (by repeat (first | with_reducible exact Below.refl _ _ | (with_reducible refine Below.setCell ?_ ?hs _; case hs => ((try simp); try omega)) | (with_reducible refine Below.alloc ?_ ?hs _; case hs => ((try simp); try omega)) | with_reducible refine Below.drew ?_))⟩
    · have HF : Hid (ahB x y = false) := by simp [Hid, ahB, q, q2]
      go_enter Try.func94, Try.ntmps94
      go_wp2_with fail
      go_ret
      exact ⟨by rw [HF.out]; rfl, (by repeat (first | with_reducible exact Below.refl _ _ | (with_reducible refine Below.setCell ?_ ?hs _; case hs => ((try simp); try omega)) | (with_reducible refine Below.alloc ?_ ?hs _; case hs => ((try simp); try omega)) | with_reducible refine Below.drew ?_))⟩

set_option maxHeartbeats 4000000 in
theorem logReal_any (v : Value) (xs : List En) (w : World) (h : EnsAt w v xs) (hn : xs.length ≤ 1048576) :
    Calls Try.prog 39 #[v] w fun r w' => BSays r (LrP xs) ∧ Below w.heap.size w w' := by
  obtain ⟨a, cap, rfl, hm, hc⟩ := h
  go_enter Try.func39, Try.ntmps39
  go_wp2_with fail
  go_loopw [8] (fun q w' => ∃ k : Nat, k ≤ xs.length ∧ q = .int .i64 k ∧ Below w.heap.size w w' ∧ (∀ i, i < k → ∀ j : Nat, (j : Int) < (nth En.z xs i).from_ → j < i → ahB (nth En.z xs i) (nth En.z xs j) = false)) (fun q _ => xs.length - (intOf q).toNat)
  case atStart => exact ⟨0, Nat.zero_le _, rfl, Below.refl _ _, fun i hi => absurd hi (Nat.not_lt_zero _)⟩
  case round =>
    obtain ⟨k, hk, rfl, hb, hall⟩ := hrel
    by_cases hlt : k < xs.length
    · have hlt' : (k : Int) < (xs.length : Int) := by omega
      obtain ⟨b, off, v3, v4, rfl, hbw, c0, c1, c2, c3, c4, c5, h3, h4⟩ := hc k hlt
      rw [← hb.cell (p := ⟨b, _, none⟩) hbw] at c0 c1 c2 c3 c4 c5
      obtain ⟨a3, e3, rfl, hm3⟩ := h3.shape
      obtain ⟨a4, e4, rfl, hm4⟩ := h4.shape
      clear h3 h4
      have HC := (show Hid (∀ i, i < xs.length → _) from hc)
      have HB := (show Hid (Below _ _ _) from hb)
      have HL := (show Hid (∀ i, i < k → _) from hall)
      have hbr : b < wr.heap.size := Nat.lt_of_lt_of_le hbw hb.size
      clear hc hall hb
      obtain ⟨mn, hmn⟩ : ∃ mn : Int, (if (k : Int) < (nth En.z xs k).from_ then (k : Int) else (nth En.z xs k).from_) = mn := ⟨_, rfl⟩
      have hmk : mn ≤ k := by rw [← hmn]; split <;> omega
      have HMN : Hid (∀ j : Nat, (j : Int) < mn ↔ ((j : Int) < (nth En.z xs k).from_ ∧ j < k)) := fun j => by rw [← hmn]; split <;> constructor <;> intro h <;> omega
      obtain ⟨wo, hwo⟩ : ∃ wo : World, wo = wr := ⟨_, rfl⟩
      subst hwo
      go_wp2_with fail
      clear hmn
      go_loopw [17] (fun q w' => ∃ m : Nat, m ≤ k ∧ q = .int .i64 m ∧ Below (wo.heap.size + 1) (wo.alloc (.cells #[.int .i64 (nth En.z xs k).task, .int .i64 (nth En.z xs k).act, .int .i64 (nth En.z xs k).when_, .slice a3 (nth En.z xs k).reads.length e3, .slice a4 (nth En.z xs k).puts.length e4, .int .i64 (nth En.z xs k).from_] 56)) w' ∧ (∀ j, j < m → ahB (nth En.z xs k) (nth En.z xs j) = false)) (fun q _ => k - (intOf q).toNat)
      case atStart => exact ⟨0, Nat.zero_le _, rfl, Below.refl _ _, fun j hj => absurd hj (Nat.not_lt_zero _)⟩
      case round =>
        obtain ⟨m, hmm, rfl, hbx, hall2⟩ := hrel
        have hszx : wo.heap.size + 1 ≤ wr.heap.size := by have := hbx.size; simpa using this
        have hb2 : Below w.heap.size w wr := (HB.out.alloc HB.out.size _).trans (hbx.mono (by have := HB.out.size; omega))
        by_cases hlm : (m : Int) < mn
        · have hmx : m < xs.length := by omega
          have hmx' : (m : Int) < (xs.length : Int) := by omega
          obtain ⟨b', off', u3, u4, eb, hbw', d0, d1, d2, d3, d4, d5, g3, g4⟩ := HC.out m hmx
          injection eb with eb
          injection eb with eb1 eb2
          subst eb1 eb2
          rw [← hb2.cell (p := ⟨b, _, none⟩) hbw'] at d0 d1 d2 d3 d4 d5
          obtain ⟨f3, k3, rfl, hn3⟩ := g3.shape
          obtain ⟨f4, k4, rfl, hn4⟩ := g4.shape
          have x0 : wr.cell? ⟨wo.heap.size, 0, none⟩ = some (.int .i64 (nth En.z xs k).task) := by rw [hbx.cell (p := ⟨wo.heap.size, 0, none⟩) (by simp)]; simp
          have x1 : wr.cell? ⟨wo.heap.size, 1, none⟩ = some (.int .i64 (nth En.z xs k).act) := by rw [hbx.cell (p := ⟨wo.heap.size, 1, none⟩) (by simp)]; simp
          have x2 : wr.cell? ⟨wo.heap.size, 2, none⟩ = some (.int .i64 (nth En.z xs k).when_) := by rw [hbx.cell (p := ⟨wo.heap.size, 2, none⟩) (by simp)]; simp
          have x3 : wr.cell? ⟨wo.heap.size, 3, none⟩ = some (.slice a3 (nth En.z xs k).reads.length e3) := by rw [hbx.cell (p := ⟨wo.heap.size, 3, none⟩) (by simp)]; simp
          have x4 : wr.cell? ⟨wo.heap.size, 4, none⟩ = some (.slice a4 (nth En.z xs k).puts.length e4) := by rw [hbx.cell (p := ⟨wo.heap.size, 4, none⟩) (by simp)]; simp
          have x5 : wr.cell? ⟨wo.heap.size, 5, none⟩ = some (.int .i64 (nth En.z xs k).from_) := by rw [hbx.cell (p := ⟨wo.heap.size, 5, none⟩) (by simp)]; simp
          have hbwr : b < wr.heap.size := by omega
          have hwor : wo.heap.size < wr.heap.size := by omega
          have HBX := (show Hid (Below _ _ _) from hbx)
          clear g3 g4 c0 c1 c2 c3 c4 c5 hb2 hbx
          go_wp2_with fail
          go_region_with (go_at_call 93; refine (standsAhead_any (nth En.z xs k) (nth En.z xs m) _ _ _ _ _ _ _ _ _).mono ?_; rintro e w1 ⟨rfl, hb3⟩)
          all_goals
           have HB3 : Hid (Below (wo.heap.size + 1) (wo.alloc (.cells #[.int .i64 (nth En.z xs k).task, .int .i64 (nth En.z xs k).act, .int .i64 (nth En.z xs k).when_, .slice a3 (nth En.z xs k).reads.length e3, .slice a4 (nth En.z xs k).puts.length e4, .int .i64 (nth En.z xs k).from_] 56)) w1) := below_drewed HBX.out hszx hb3
           have HB4 : Hid (Below w.heap.size w w1) := (HB.out.alloc HB.out.size _).trans (HB3.out.mono (by have := HB.out.size; omega))
           clear hb3 HBX d0 d1 d2 d3 d4 d5 x0 x1 x2 x3 x4 x5
           cases hd : ahB (nth En.z xs k) (nth En.z xs m)
           · have HA : Hid (∀ j, j < m + 1 → ahB (nth En.z xs k) (nth En.z xs j) = false) := so_far hall2 hd
             clear hd hall2
             go_wp2_with fail
             go_roundw
             case rel => exact ⟨m + 1, by omega, by go_num, HB3.out, HA.out⟩
             case measure => simp [intOf]; omega
           · have HF : Hid (¬ LrP xs) := lrP_no hlt (HMN.out m |>.1 hlm).1 (HMN.out m |>.1 hlm).2 hd
             clear hd hall2
             go_wp2_with fail
             go_ret
             exact ⟨bsays_no HF.out, HB4.out⟩
        · have HA : Hid (∀ i, i < k + 1 → ∀ j : Nat, (j : Int) < (nth En.z xs i).from_ → j < i → ahB (nth En.z xs i) (nth En.z xs j) = false) := so_far HL.out (fun j h1 h2 => hall2 j (Int.ofNat_lt.1 (Int.lt_of_lt_of_le ((HMN.out j).2 ⟨h1, h2⟩) (Int.not_lt.1 hlm))))
          have HB2 := (show Hid (Below _ _ _) from hb2)
          clear hall2 hb2 hbx c0 c1 c2 c3 c4 c5
          go_wp2_with fail
          go_roundw
          case rel => exact ⟨k + 1, by omega, by go_num, HB2.out, HA.out⟩
          case measure => simp [intOf]; omega
    · have HF : Hid (LrP xs) := fun i hi j h1 h2 => hall i (by omega) j h1 h2
      have HB := (show Hid (Below _ _ _) from hb)
      clear hall hb hc
      go_wp2_with fail
      go_ret
      exact ⟨bsays_yes HF.out, HB.out⟩

set_option maxHeartbeats 4000000 in
theorem sLogReal_any (v : Value) (xs : List En) (w : World) (h : EnsAt w v xs) (hn : xs.length ≤ 1048576) :
    Calls Try.prog 41 #[v] w fun r w' => BSays r (LrP xs) ∧ Below w.heap.size w w' := by
  obtain ⟨a, cap, rfl, hm, hc⟩ := h
  go_enter Try.func41, Try.ntmps41
  go_wp2_with fail
  go_loopw [3] (fun q w' => ∃ k : Nat, k ≤ xs.length ∧ q = .int .i64 k ∧ Below w.heap.size w w' ∧ (∀ i, i < k → ∀ j : Nat, (j : Int) < (nth En.z xs i).from_ → j < i → ahB (nth En.z xs i) (nth En.z xs j) = false)) (fun q _ => xs.length - (intOf q).toNat)
  case atStart => exact ⟨0, Nat.zero_le _, rfl, Below.refl _ _, fun i hi => absurd hi (Nat.not_lt_zero _)⟩
  case round =>
    obtain ⟨k, hk, rfl, hb, hall⟩ := hrel
    by_cases hlt : k < xs.length
    · have hlt' : (k : Int) < (xs.length : Int) := by omega
      obtain ⟨b, off, v3, v4, rfl, hbw, c0, c1, c2, c3, c4, c5, h3, h4⟩ := hc k hlt
      rw [← hb.cell (p := ⟨b, _, none⟩) hbw] at c0 c1 c2 c3 c4 c5
      obtain ⟨a3, e3, rfl, hm3⟩ := h3.shape
      obtain ⟨a4, e4, rfl, hm4⟩ := h4.shape
      clear h3 h4
      have HC := (show Hid (∀ i, i < xs.length → _) from hc)
      have HB := (show Hid (Below _ _ _) from hb)
      have HL := (show Hid (∀ i, i < k → _) from hall)
      have hbr : b < wr.heap.size := Nat.lt_of_lt_of_le hbw hb.size
      clear hc hall hb
      obtain ⟨wo, hwo⟩ : ∃ wo : World, wo = wr := ⟨_, rfl⟩
      subst hwo
      go_wp2_with fail
      go_loopw [4] (fun q w' => ∃ m : Nat, m ≤ k ∧ q = .int .i64 m ∧ Below wo.heap.size wo w' ∧ (∀ j, j < m → ahB (nth En.z xs k) (nth En.z xs j) = false)) (fun q _ => k - (intOf q).toNat)
      case atStart => exact ⟨0, Nat.zero_le _, rfl, Below.refl _ _, fun j hj => absurd hj (Nat.not_lt_zero _)⟩
      case round =>
        obtain ⟨m, hmm, rfl, hbx, hall2⟩ := hrel
        have hb2 : Below w.heap.size w wr := HB.out.trans (hbx.mono HB.out.size)
        have hszx := hbx.size
        rw [← hbx.cell (p := ⟨b, _, none⟩) hbr] at c0 c1 c2 c3 c4 c5
        have hbwr : b < wr.heap.size := by omega
        have HBX := (show Hid (Below _ _ _) from hbx)
        have HB2 := (show Hid (Below _ _ _) from hb2)
        by_cases hlk : m < k
        case neg =>
          have hlk' : ¬ (m : Int) < (k : Int) := by omega
          have HA : Hid (∀ i, i < k + 1 → ∀ j : Nat, (j : Int) < (nth En.z xs i).from_ → j < i → ahB (nth En.z xs i) (nth En.z xs j) = false) := so_far HL.out (fun j h1 h2 => hall2 j (by omega))
          clear hall2 hb2 hbx
          go_wp2_with fail
          (try go_quiet (fail))
          (try go_wp2_with fail)
          go_roundw
          case rel => exact ⟨k + 1, by omega, by go_num, (by repeat (first | with_reducible exact HB2.out | (with_reducible refine Below.setCell ?_ ?hs _; case hs => ((try simp); try omega)) | (with_reducible refine Below.alloc ?_ ?hs _; case hs => ((try simp); try omega)) | with_reducible refine Below.drew ?_ | with_reducible refine below_drewN ?_ _)), HA.out⟩
          case measure => simp [intOf]; omega
        have hlk' : (m : Int) < (k : Int) := by omega
        by_cases hlf : (m : Int) < (nth En.z xs k).from_
        case neg =>
          have HA : Hid (∀ i, i < k + 1 → ∀ j : Nat, (j : Int) < (nth En.z xs i).from_ → j < i → ahB (nth En.z xs i) (nth En.z xs j) = false) := so_far HL.out (fun j h1 h2 => hall2 j (Int.ofNat_lt.1 (Int.lt_of_lt_of_le h1 (Int.not_lt.1 hlf))))
          clear hall2 hb2 hbx
          go_wp2_with fail
          (try go_quiet (fail))
          (try go_wp2_with fail)
          go_roundw
          case rel => exact ⟨k + 1, by omega, by go_num, (by repeat (first | with_reducible exact HB2.out | (with_reducible refine Below.setCell ?_ ?hs _; case hs => ((try simp); try omega)) | (with_reducible refine Below.alloc ?_ ?hs _; case hs => ((try simp); try omega)) | with_reducible refine Below.drew ?_ | with_reducible refine below_drewN ?_ _)), HA.out⟩
          case measure => simp [intOf]; omega
        have hmx : m < xs.length := by omega
        have hmx' : (m : Int) < (xs.length : Int) := by omega
        obtain ⟨b', off', u3, u4, eb, hbw', d0, d1, d2, d3, d4, d5, g3, g4⟩ := HC.out m hmx
        injection eb with eb
        injection eb with eb1 eb2
        subst eb1 eb2
        rw [← hb2.cell (p := ⟨b, _, none⟩) hbw'] at d0 d1 d2 d3 d4 d5
        obtain ⟨f3, k3, rfl, hn3⟩ := g3.shape
        obtain ⟨f4, k4, rfl, hn4⟩ := g4.shape
        clear g3 g4 hb2 hbx
        go_wp2_with fail
        (try go_quiet (fail))
        (try go_wp2_with fail)
        go_region_with (go_at_call 94; refine (l13Ahead_any (nth En.z xs k) (nth En.z xs m) _ _ _ _ _ _ _ _ _).mono ?_; rintro e w1 ⟨rfl, hb3⟩)
        all_goals
          have HB3 : Hid (Below wo.heap.size wo w1) := below_then (by repeat (first | with_reducible exact HBX.out | (with_reducible refine Below.setCell ?_ ?hs _; case hs => ((try simp); try omega)) | (with_reducible refine Below.alloc ?_ ?hs _; case hs => ((try simp); try omega)) | with_reducible refine Below.drew ?_ | with_reducible refine below_drewN ?_ _)) (by (try simp); try omega) hb3
          have HB4 : Hid (Below w.heap.size w w1) := HB.out.trans (HB3.out.mono HB.out.size)
          clear hb3 HBX HB2 d0 d1 d2 d3 d4 d5 c0 c1 c2 c3 c4 c5
          cases hd : ahB (nth En.z xs k) (nth En.z xs m)
          · have HA : Hid (∀ j, j < m + 1 → ahB (nth En.z xs k) (nth En.z xs j) = false) := so_far hall2 hd
            clear hd hall2
            go_wp2_with fail
            go_roundw
            case rel => exact ⟨m + 1, by omega, by go_num, HB3.out, HA.out⟩
            case measure => simp [intOf]; omega
          · have HF : Hid (¬ LrP xs) := lrP_no hlt hlf hlk hd
            clear hd hall2
            go_wp2_with fail
            go_ret
            exact ⟨bsays_no HF.out, HB4.out⟩
    · have HF : Hid (LrP xs) := fun i hi j h1 h2 => hall i (by omega) j h1 h2
      have HB := (show Hid (Below _ _ _) from hb)
      clear hall hb hc
      go_wp2_with fail
      go_ret
      exact ⟨bsays_yes HF.out, HB.out⟩


end Go.Proofs.Ytnbgonmdjgapnaa
