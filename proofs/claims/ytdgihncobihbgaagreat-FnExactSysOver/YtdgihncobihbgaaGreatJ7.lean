import Derived.Test.YtdgihncobihbgaaGreatK6b
import Derived.Test.YtdgihncobihbgaaGreatK8
import Derived.Handy
import Derived.Test.YtdgihncobihbgaaGreatK9
/-
  Who is ready: one task (by mky.py).
-/
namespace Go.Proofs.YtdgihncobihbgaaGreat
open Go.RowKit
set_option linter.unusedSimpArgs false
set_option linter.unusedVariables false
set_option maxRecDepth 20000

/-- a task is ready -/
def rdyB (s : Sy) (i : Nat) : Bool :=
  if 200 ≤ s.clock then false
  else if (nth Ta.z s.tasks i).way = 0 then (!decide ((nth Ta.z s.tasks i).stage = 0) || decide ((nth Ta.z s.tasks i).when_ ≤ s.clock))
  else if (nth Ta.z s.tasks i).way = 1 then (decide (0 < kin s.tasks i 3) || (decide (kin s.tasks i 0 = 0) && decide (kin s.tasks i 1 = 0)))
  else false
def kq (i way : Int) (u : Ta) : Bool := decide (u.up = i) && decide (u.way = way)
theorem kin_pos {ts : List Ta} {i way : Int} {k : Nat} (hk : k < ts.length) (h : kq i way (nth Ta.z ts k) = true) : 0 < kin ts i way := by
  unfold kin
  rw [List.length_pos_iff_exists_mem]
  refine ⟨nth Ta.z ts k, ?_⟩
  rw [List.mem_filter]
  exact ⟨by rw [nth_eq Ta.z ts k hk]; exact List.getElem_mem hk, h⟩
theorem kin_zero {ts : List Ta} {i way : Int} (h : ∀ k, k < ts.length → kq i way (nth Ta.z ts k) = false) : kin ts i way = 0 := by
  unfold kin
  rw [List.length_eq_zero_iff, List.filter_eq_nil_iff]
  intro u hu
  obtain ⟨k, hk, e⟩ := List.getElem_of_mem hu
  have := h k hk
  rw [nth_eq Ta.z ts k hk, e] at this
  unfold kq at this
  simp [this]

set_option maxHeartbeats 4000000 in
theorem hasKid_any (X Y : Nat) (ts : List Ta) (sa : Option Addr) (sc : Nat) (i way : Int) (w : World) (hX1 : w.cell? ⟨X, 2, none⟩ = some (.pointer (some ⟨Y, 0, none⟩))) (hX2 : w.cell? ⟨X, 3, none⟩ = some (.int .i64 i)) (hY : w.cell? ⟨Y, 1, none⟩ = some (.slice sa ts.length sc)) (hXl : X < w.heap.size) (hYl : Y < w.heap.size) (hT : TasAt w (.slice sa ts.length sc) ts) :
    Calls Tryz.prog 84 #[.pointer (some ⟨X, 0, none⟩), .int .i64 way] w fun r w' => r = .returned (.bool (decide (0 < kin ts i way))) ∧ Below w.heap.size w w' := by
  obtain ⟨a, cap, e, hm, hc⟩ := hT
  injection e with e1 e2 e3
  subst e1 e3
  clear e2
  go_enter Tryz.func84, Tryz.ntmps84
  go_wp2_with fail
  go_loopw [15] (fun q w' => ∃ k : Nat, k ≤ ts.length ∧ q = .int .i64 k ∧ Below w.heap.size w w' ∧ (∀ j, j < k → kq i way (nth Ta.z ts j) = false)) (fun q _ => ts.length - (intOf q).toNat)
  case atStart => exact ⟨0, Nat.zero_le _, rfl, Below.refl _ _, fun j hj => absurd hj (Nat.not_lt_zero _)⟩
  case round =>
    obtain ⟨k, hk, rfl, hb, hall⟩ := hrel
    have HB := (show Hid (Below _ _ _) from hb)
    have hsz := hb.size
    have hXr : X < wr.heap.size := by omega
    rw [← hb.cell (p := ⟨X, 3, none⟩) hXl] at hX2
    by_cases hlt : k < ts.length
    · have hlt' : (k : Int) < (ts.length : Int) := by omega
      obtain ⟨b, off, v3, v8, v9, v10, rfl, hbw', c0, c1, c2, c3, c4, c5, c6, c7, c8, c9, c10, c11, c12, h3, h8, h9, h10⟩ := hc k hlt
      rw [← hb.cell (p := ⟨b, _, none⟩) hbw'] at c0 c1 c2 c3 c4 c5 c6 c7 c8 c9 c10 c11 c12
      have hbr : b < wr.heap.size := by omega
      obtain ⟨a3, e3', rfl, hm3⟩ := h3.shape
      obtain ⟨a8, e8', rfl, hm8⟩ := h8.shape
      obtain ⟨a9, e9', rfl, hm9⟩ := h9.shape
      obtain ⟨a10, e10', rfl, hm10⟩ := h10.shape
      clear hc h3 h8 h9 h10 hb hX1 hY
      by_cases q1 : (nth Ta.z ts k).up = i
      · have q1' : ((nth Ta.z ts k).up == i) = true := by simp [q1]
        have q1b : (i == i) = true := by simp
        by_cases q2 : (nth Ta.z ts k).way = way
        · have q2' : ((nth Ta.z ts k).way == way) = true := by simp [q2]
          have HF : Hid (decide (0 < kin ts i way) = true) := decide_eq_true (kin_pos hlt (by simp [kq, q1, q2]))
          clear q1 q2 hall
          go_wp2_with fail
          (try go_quiet (fail))
          (try go_wp2_with fail)
          go_ret
          exact ⟨by rw [HF.out]; rfl, (by repeat (first | with_reducible exact HB.out | (with_reducible refine Below.setCell ?_ ?hs _; case hs => ((try simp); try omega)) | (with_reducible refine Below.alloc ?_ ?hs _; case hs => ((try simp); try omega)) | with_reducible refine Below.drew ?_ | with_reducible refine below_drewN ?_ _))⟩
        · have q2' : ((nth Ta.z ts k).way == way) = false := by simp [q2]
          have HA : Hid (∀ j, j < k + 1 → kq i way (nth Ta.z ts j) = false) := so_far hall (by simp [kq, q2])
          clear q1 q2 hall
          go_wp2_with fail
          (try go_quiet (fail))
          (try go_wp2_with fail)
          go_roundw
          case rel => exact ⟨k + 1, by omega, by go_num, (by repeat (first | with_reducible exact HB.out | (with_reducible refine Below.setCell ?_ ?hs _; case hs => ((try simp); try omega)) | (with_reducible refine Below.alloc ?_ ?hs _; case hs => ((try simp); try omega)) | with_reducible refine Below.drew ?_ | with_reducible refine below_drewN ?_ _)), HA.out⟩
          case measure => simp [intOf]; omega
      · have q1' : ((nth Ta.z ts k).up == i) = false := by simp [q1]
        have HA : Hid (∀ j, j < k + 1 → kq i way (nth Ta.z ts j) = false) := so_far hall (by simp [kq, q1])
        clear q1 hall
        go_wp2_with fail
        (try go_quiet (fail))
        (try go_wp2_with fail)
        go_roundw
        case rel => exact ⟨k + 1, by omega, by go_num, (by repeat (first | with_reducible exact HB.out | (with_reducible refine Below.setCell ?_ ?hs _; case hs => ((try simp); try omega)) | (with_reducible refine Below.alloc ?_ ?hs _; case hs => ((try simp); try omega)) | with_reducible refine Below.drew ?_ | with_reducible refine below_drewN ?_ _)), HA.out⟩
        case measure => simp [intOf]; omega
    · have hk' : ¬ (k : Int) < (ts.length : Int) := by omega
      have HF : Hid (decide (0 < kin ts i way) = false) := decide_eq_false (by rw [kin_zero (fun j hj => hall j (by omega))]; omega)
      clear hall hc hb hX1 hY
      go_wp2_with fail
      go_ret
      exact ⟨by rw [HF.out]; rfl, HB.out⟩

def MvAt (w : World) (X Y : Nat) (s : Sy) (sa1 : Option Addr) (sc1 : Nat) (i : Nat) : Prop :=
  X < w.heap.size ∧ Y < w.heap.size ∧ w.cell? ⟨X, 2, none⟩ = some (.pointer (some ⟨Y, 0, none⟩)) ∧ w.cell? ⟨X, 3, none⟩ = some (.int .i64 (i : Int)) ∧ (∃ b off, sa1 = some ⟨b, off, none⟩ ∧ w.cell? ⟨X, 4, none⟩ = some (.pointer (some ⟨b, off + i * 13, none⟩))) ∧ w.cell? ⟨Y, 1, none⟩ = some (.slice sa1 s.tasks.length sc1) ∧ w.cell? ⟨Y, 2, none⟩ = some (.int .i64 s.clock)
theorem MvAt.mono {w w' : World} {X Y : Nat} {s : Sy} {sa1 : Option Addr} {sc1 i : Nat} (h : MvAt w X Y s sa1 sc1 i) (hb : Below w.heap.size w w') : MvAt w' X Y s sa1 sc1 i := by
  obtain ⟨h1, h2, h3, h4, ⟨b, off, h5, h6⟩, h7, h8⟩ := h
  rw [← hb.cell (p := ⟨X, _, none⟩) h1] at h3 h4 h6
  rw [← hb.cell (p := ⟨Y, _, none⟩) h2] at h7 h8
  exact ⟨Nat.lt_of_lt_of_le h1 hb.size, Nat.lt_of_lt_of_le h2 hb.size, h3, h4, ⟨b, off, h5, h6⟩, h7, h8⟩
theorem hasKid_b (X Y : Nat) (s : Sy) (sa1 : Option Addr) (sc1 i : Nat) (way : Int) {bb : Bool} (w : World) (h : MvAt w X Y s sa1 sc1 i) (hT : TasAt w (.slice sa1 s.tasks.length sc1) s.tasks) (hk : decide (0 < kin s.tasks (i : Int) way) = bb) :
    Calls Tryz.prog 84 #[.pointer (some ⟨X, 0, none⟩), .int .i64 way] w fun r w' => r = .returned (.bool bb) ∧ Below w.heap.size w w' := by
  subst hk; exact hasKid_any X Y s.tasks sa1 sc1 i way w h.2.2.1 h.2.2.2.1 h.2.2.2.2.2.1 h.1 h.2.1 hT

set_option maxHeartbeats 4000000 in
theorem ready_any (X Y : Nat) (s : Sy) (sa1 : Option Addr) (sc1 i : Nat) (w : World) (h : MvAt w X Y s sa1 sc1 i) (hT : TasAt w (.slice sa1 s.tasks.length sc1) s.tasks) (hi : i < s.tasks.length) :
    Calls Tryz.prog 49 #[.pointer (some ⟨X, 0, none⟩)] w fun r w' => r = .returned (.bool (rdyB s i)) ∧ Below w.heap.size w w' := by
  have HM := (show Hid (MvAt _ _ _ _ _ _ _) from h)
  have HT := (show Hid (TasAt _ _ _) from hT)
  obtain ⟨hXl, hYl, hX1, hX2, ⟨b', off', rfl, hX3⟩, hY1, hY2⟩ := h
  obtain ⟨a, cap, e, hm, hc⟩ := hT
  injection e with e1 e2 e3
  subst e1 e3
  obtain ⟨b, off, v3, v8, v9, v10, eb, hbw, c0, c1, c2, c3, c4, c5, c6, c7, c8, c9, c10, c11, c12, h3, h8, h9, h10⟩ := hc i hi
  injection eb with eb
  injection eb with eb1 eb2
  subst eb1 eb2
  clear hc h3 h8 h9 h10 c0 c1 c2 c3 c6 c7 c8 c9 c10 c12 e2
  by_cases q0 : 200 ≤ s.clock
  · have HF : Hid (rdyB s i = false) := by unfold Hid rdyB; rw [if_pos q0]
    go_enter Tryz.func49, Tryz.ntmps49
    go_wp2_with fail
    (try go_quiet (fail))
    (try go_wp2_with fail)
    go_ret
    exact ⟨by rw [HF.out]; rfl, (by repeat (first | with_reducible exact Below.refl _ _ | (with_reducible refine Below.setCell ?_ ?hs _; case hs => ((try simp); try omega)) | (with_reducible refine Below.alloc ?_ ?hs _; case hs => ((try simp); try omega)) | with_reducible refine Below.drew ?_ | with_reducible refine below_drewN ?_ _))⟩
  by_cases q1 : (nth Ta.z s.tasks i).way = 0
  · have q1' : ((nth Ta.z s.tasks i).way == 0) = true := by simp [q1]
    by_cases q2 : (nth Ta.z s.tasks i).stage = 0
    · have q2' : ((nth Ta.z s.tasks i).stage != 0) = false := by simp [q2]
      have q2'' : ((nth Ta.z s.tasks i).stage == 0) = true := by simp [q2]
      have HF : Hid (rdyB s i = decide ((nth Ta.z s.tasks i).when_ ≤ s.clock)) := by unfold Hid rdyB; rw [if_neg q0, if_pos q1, decide_eq_true q2]; rfl
      clear q1
      go_enter Tryz.func49, Tryz.ntmps49
      go_wp2_with fail
      (try go_quiet (fail))
      (try go_wp2_with fail)
      go_ret
      exact ⟨by rw [HF.out]; rfl, (by repeat (first | with_reducible exact Below.refl _ _ | (with_reducible refine Below.setCell ?_ ?hs _; case hs => ((try simp); try omega)) | (with_reducible refine Below.alloc ?_ ?hs _; case hs => ((try simp); try omega)) | with_reducible refine Below.drew ?_ | with_reducible refine below_drewN ?_ _))⟩
    · have q2' : ((nth Ta.z s.tasks i).stage != 0) = true := by simp [q2]
      have q2'' : ((nth Ta.z s.tasks i).stage == 0) = false := by simp [q2]
      have HF : Hid (rdyB s i = true) := by unfold Hid rdyB; rw [if_neg q0, if_pos q1, decide_eq_false q2]; rfl
      clear q1
      go_enter Tryz.func49, Tryz.ntmps49
      go_wp2_with fail
      (try go_quiet (fail))
      (try go_wp2_with fail)
      go_ret
      exact ⟨by rw [HF.out]; rfl, (by repeat (first | with_reducible exact Below.refl _ _ | (with_reducible refine Below.setCell ?_ ?hs _; case hs => ((try simp); try omega)) | (with_reducible refine Below.alloc ?_ ?hs _; case hs => ((try simp); try omega)) | with_reducible refine Below.drew ?_ | with_reducible refine below_drewN ?_ _))⟩
  have q1' : ((nth Ta.z s.tasks i).way == 0) = false := by simp [q1]
  by_cases q2 : (nth Ta.z s.tasks i).way = 1
  case neg =>
    have q2' : ((nth Ta.z s.tasks i).way == 1) = false := by simp [q2]
    have HF : Hid (rdyB s i = false) := by unfold Hid rdyB; rw [if_neg q0, if_neg q1, if_neg q2]
    go_enter Tryz.func49, Tryz.ntmps49
    go_wp2_with fail
    (try go_quiet (fail))
    (try go_wp2_with fail)
    go_ret
    exact ⟨by rw [HF.out]; rfl, (by repeat (first | with_reducible exact Below.refl _ _ | (with_reducible refine Below.setCell ?_ ?hs _; case hs => ((try simp); try omega)) | (with_reducible refine Below.alloc ?_ ?hs _; case hs => ((try simp); try omega)) | with_reducible refine Below.drew ?_ | with_reducible refine below_drewN ?_ _))⟩
  have q2' : ((nth Ta.z s.tasks i).way == 1) = true := by simp [q2]
  have HFF : Hid (rdyB s i = (decide (0 < kin s.tasks i 3) || (decide (kin s.tasks i 0 = 0) && decide (kin s.tasks i 1 = 0)))) := by unfold Hid rdyB; rw [if_neg q0, if_neg q1, if_pos q2]
  have HQ := (show Hid (_ = _) from q2)
  clear q2
  go_enter Tryz.func49, Tryz.ntmps49
  go_wp2_with fail
  cases d3 : decide (0 < kin s.tasks i 3)
  case true =>
    have HF : Hid (rdyB s i = true) := by unfold Hid; rw [HFF.out, d3]; rfl
    have D3 := (show Hid (_ = _) from d3)
    clear d3
    refine (hasKid_b X Y s _ _ i 3 _ HM.out HT.out D3.out).mono ?_
    rintro e w1 ⟨rfl, hb1⟩
    have HB1 := (show Hid (Below _ _ _) from hb1)
    clear hb1
    go_wp2_with fail
    go_ret
    exact ⟨by rw [HF.out]; rfl, HB1.out⟩
  have D3 := (show Hid (_ = _) from d3)
  have HF3 : Hid (rdyB s i = (decide (kin s.tasks i 0 = 0) && decide (kin s.tasks i 1 = 0))) := by unfold Hid; rw [HFF.out, d3]; rfl
  clear d3 HFF
  refine (hasKid_b X Y s _ _ i 3 _ HM.out HT.out D3.out).mono ?_
  rintro e w1 ⟨rfl, hb1⟩
  have HB1 := (show Hid (Below _ _ _) from hb1)
  clear hb1
  go_wp2_with fail
  cases d0 : decide (0 < kin s.tasks i 0)
  case true =>
    have HF : Hid (rdyB s i = false) := by
      have : ¬ kin s.tasks i 0 = 0 := by have := of_decide_eq_true d0; omega
      unfold Hid; rw [HF3.out, decide_eq_false this]; rfl
    have D0 := (show Hid (_ = _) from d0)
    clear d0
    refine (hasKid_b X Y s _ _ i 0 _ (HM.out.mono HB1.out) (HT.out.mono HB1.out) D0.out).mono ?_
    rintro e w2 ⟨rfl, hb2⟩
    have HB2 := (show Hid (Below w.heap.size w w2) from below_then HB1.out HB1.out.size hb2)
    clear hb2
    go_wp2_with fail
    go_ret
    exact ⟨by rw [HF.out]; rfl, HB2.out⟩
  have D0 := (show Hid (_ = _) from d0)
  have HF0 : Hid (rdyB s i = decide (kin s.tasks i 1 = 0)) := by
    have : kin s.tasks i 0 = 0 := by have := of_decide_eq_false d0; omega
    unfold Hid; rw [HF3.out, decide_eq_true this]; rfl
  clear d0 HF3
  refine (hasKid_b X Y s _ _ i 0 _ (HM.out.mono HB1.out) (HT.out.mono HB1.out) D0.out).mono ?_
  rintro e w2 ⟨rfl, hb2⟩
  have HB2 := (show Hid (Below w.heap.size w w2) from below_then HB1.out HB1.out.size hb2)
  clear hb2
  go_wp2_with fail
  refine (hasKid_b X Y s _ _ i 1 _ (HM.out.mono HB2.out) (HT.out.mono HB2.out) rfl).mono ?_
  rintro e w3 ⟨rfl, hb3⟩
  have HB3 := (show Hid (Below w.heap.size w w3) from below_then HB2.out HB2.out.size hb3)
  clear hb3
  cases d1 : decide (0 < kin s.tasks i 1)
  · have HF : Hid (rdyB s i = true) := by unfold Hid; rw [HF0.out]; exact decide_eq_true (by have := of_decide_eq_false d1; omega)
    go_wp2_with fail
    go_ret
    exact ⟨by rw [HF.out]; rfl, HB3.out⟩
  · have HF : Hid (rdyB s i = false) := by unfold Hid; rw [HF0.out]; exact decide_eq_false (by have := of_decide_eq_true d1; omega)
    go_wp2_with fail
    go_ret
    exact ⟨by rw [HF.out]; rfl, HB3.out⟩

end Go.Proofs.YtdgihncobihbgaaGreat

/-
  Who is ready: one task, of the model; moveOf (by mky.py).
-/
namespace Go.Proofs.YtdgihncobihbgaaGreat
open Go.RowKit
set_option linter.unusedSimpArgs false
set_option linter.unusedVariables false
set_option maxRecDepth 20000

set_option maxHeartbeats 4000000 in
theorem sReady_any (X : Nat) (s : Sy) (sa1 : Option Addr) (sc1 i : Nat) (w : World) (hX1 : w.cell? ⟨X, 3, none⟩ = some (.slice sa1 s.tasks.length sc1)) (hX2 : w.cell? ⟨X, 4, none⟩ = some (.int .i64 s.clock)) (hXl : X < w.heap.size) (hT : TasAt w (.slice sa1 s.tasks.length sc1) s.tasks) (hi : i < s.tasks.length) (hn7 : s.tasks.length ≤ 7) :
    Calls Tryz.prog 47 #[.pointer (some ⟨X, 0, none⟩), .int .i64 (i : Int)] w fun r w' => r = .returned (.bool (rdyB s i)) ∧ Below w.heap.size w w' := by
  have HT := (show Hid (TasAt _ _ _) from hT)
  obtain ⟨a, cap, e, hm, hc⟩ := hT
  injection e with e1 e2 e3
  subst e1 e3
  have hi' : (i : Int) < (s.tasks.length : Int) := by omega
  obtain ⟨b, off, v3, v8, v9, v10, rfl, hbw, c0, c1, c2, c3, c4, c5, c6, c7, c8, c9, c10, c11, c12, h3, h8, h9, h10⟩ := hc i hi
  obtain ⟨a3, e3', rfl, hm3⟩ := h3.shape
  obtain ⟨a8, e8', rfl, hm8⟩ := h8.shape
  obtain ⟨a9, e9', rfl, hm9⟩ := h9.shape
  obtain ⟨a10, e10', rfl, hm10⟩ := h10.shape
  clear hc h3 h8 h9 h10 e2
  by_cases q0 : 200 ≤ s.clock
  · have HF : Hid (rdyB s i = false) := by unfold Hid rdyB; rw [if_pos q0]
    go_enter Tryz.func47, Tryz.ntmps47
    go_wp2_with fail
    (try go_quiet (fail))
    (try go_wp2_with fail)
    go_ret
    exact ⟨by rw [HF.out]; rfl, (by repeat (first | with_reducible exact Below.refl _ _ | (with_reducible refine Below.setCell ?_ ?hs _; case hs => ((try simp); try omega)) | (with_reducible refine Below.alloc ?_ ?hs _; case hs => ((try simp); try omega)) | with_reducible refine Below.drew ?_ | with_reducible refine below_drewN ?_ _))⟩
  by_cases q1 : (nth Ta.z s.tasks i).way = 0
  · have q1' : ((nth Ta.z s.tasks i).way == 0) = true := by simp [q1]
    by_cases q2 : (nth Ta.z s.tasks i).stage = 0
    · have q2' : ((nth Ta.z s.tasks i).stage != 0) = false := by simp [q2]
      have q2'' : ((nth Ta.z s.tasks i).stage == 0) = true := by simp [q2]
      have HF : Hid (rdyB s i = decide ((nth Ta.z s.tasks i).when_ ≤ s.clock)) := by unfold Hid rdyB; rw [if_neg q0, if_pos q1, decide_eq_true q2]; rfl
      clear q1
      go_enter Tryz.func47, Tryz.ntmps47
      go_wp2_with fail
      (try go_quiet (fail))
      (try go_wp2_with fail)
      go_ret
      exact ⟨by rw [HF.out]; rfl, (by repeat (first | with_reducible exact Below.refl _ _ | (with_reducible refine Below.setCell ?_ ?hs _; case hs => ((try simp); try omega)) | (with_reducible refine Below.alloc ?_ ?hs _; case hs => ((try simp); try omega)) | with_reducible refine Below.drew ?_ | with_reducible refine below_drewN ?_ _))⟩
    · have q2' : ((nth Ta.z s.tasks i).stage != 0) = true := by simp [q2]
      have q2'' : ((nth Ta.z s.tasks i).stage == 0) = false := by simp [q2]
      have HF : Hid (rdyB s i = true) := by unfold Hid rdyB; rw [if_neg q0, if_pos q1, decide_eq_false q2]; rfl
      clear q1
      go_enter Tryz.func47, Tryz.ntmps47
      go_wp2_with fail
      (try go_quiet (fail))
      (try go_wp2_with fail)
      go_ret
      exact ⟨by rw [HF.out]; rfl, (by repeat (first | with_reducible exact Below.refl _ _ | (with_reducible refine Below.setCell ?_ ?hs _; case hs => ((try simp); try omega)) | (with_reducible refine Below.alloc ?_ ?hs _; case hs => ((try simp); try omega)) | with_reducible refine Below.drew ?_ | with_reducible refine below_drewN ?_ _))⟩
  have q1' : ((nth Ta.z s.tasks i).way == 0) = false := by simp [q1]
  by_cases q2 : (nth Ta.z s.tasks i).way = 1
  case neg =>
    have q2' : ((nth Ta.z s.tasks i).way == 1) = false := by simp [q2]
    have HF : Hid (rdyB s i = false) := by unfold Hid rdyB; rw [if_neg q0, if_neg q1, if_neg q2]
    go_enter Tryz.func47, Tryz.ntmps47
    go_wp2_with fail
    (try go_quiet (fail))
    (try go_wp2_with fail)
    go_ret
    exact ⟨by rw [HF.out]; rfl, (by repeat (first | with_reducible exact Below.refl _ _ | (with_reducible refine Below.setCell ?_ ?hs _; case hs => ((try simp); try omega)) | (with_reducible refine Below.alloc ?_ ?hs _; case hs => ((try simp); try omega)) | with_reducible refine Below.drew ?_ | with_reducible refine below_drewN ?_ _))⟩
  have q2' : ((nth Ta.z s.tasks i).way == 1) = true := by simp [q2]
  have HFF : Hid (rdyB s i = (decide (0 < kin s.tasks i 3) || (decide (kin s.tasks i 0 = 0) && decide (kin s.tasks i 1 = 0)))) := by unfold Hid rdyB; rw [if_neg q0, if_neg q1, if_pos q2]
  have HQ := (show Hid (_ = _) from q2)
  have K0 := kin_le s.tasks i 0
  have K1 := kin_le s.tasks i 1
  have W1 : IntKind.i64.wrap ((kin s.tasks i 0 : Int) + (kin s.tasks i 1 : Int)) = (kin s.tasks i 0 : Int) + (kin s.tasks i 1 : Int) := by rw [IntKind.wrap_i64]; omega
  clear q2
  have hX1' : ∀ w' : World, Below w.heap.size w w' → w'.cell? ⟨X, 3, none⟩ = some (.slice (some ⟨b, off, none⟩) s.tasks.length sc1) := fun w' hb => by rw [hb.cell (p := ⟨X, 3, none⟩) hXl]; exact hX1
  have HX := (show Hid (∀ w' : World, _) from hX1')
  clear hX1'
  by_cases d3 : 0 < kin s.tasks i 3
  · have d3' : (0 : Int) < (kin s.tasks i 3 : Int) := by omega
    have HF : Hid (rdyB s i = true) := by unfold Hid; rw [HFF.out, decide_eq_true d3]; rfl
    clear HFF d3 K0 K1
    go_enter Tryz.func47, Tryz.ntmps47
    go_wp2_with fail
    refine (kids_any X s.tasks (some ⟨b, off, none⟩) sc1 _ _ _ (HX.out _ (by repeat (first | with_reducible exact Below.refl _ _ | (with_reducible refine Below.setCell ?_ ?hs _; case hs => ((try simp); try omega)) | (with_reducible refine Below.alloc ?_ ?hs _; case hs => ((try simp); try omega)) | with_reducible refine Below.drew ?_ | with_reducible refine below_drewN ?_ _))) (by exact TasAt.mono HT.out (by repeat (first | with_reducible exact Below.refl _ _ | (with_reducible refine Below.setCell ?_ ?hs _; case hs => ((try simp); try omega)) | (with_reducible refine Below.alloc ?_ ?hs _; case hs => ((try simp); try omega)) | with_reducible refine Below.drew ?_ | with_reducible refine below_drewN ?_ _)))).mono ?_
    rintro e w3 ⟨rfl, hw3⟩
    have hw3 := hw3.symm
    subst hw3
    (try go_quiet (fail))
    (try go_wp2_with fail)
    go_ret
    exact ⟨by rw [HF.out]; rfl, (by repeat (first | with_reducible exact Below.refl _ _ | (with_reducible refine Below.setCell ?_ ?hs _; case hs => ((try simp); try omega)) | (with_reducible refine Below.alloc ?_ ?hs _; case hs => ((try simp); try omega)) | with_reducible refine Below.drew ?_ | with_reducible refine below_drewN ?_ _))⟩
  · have d3' : ¬ (0 : Int) < (kin s.tasks i 3 : Int) := by omega
    have HF : Hid (rdyB s i = ((kin s.tasks i 0 : Int) + (kin s.tasks i 1 : Int) == 0)) := by
      unfold Hid; rw [HFF.out, decide_eq_false d3, Bool.false_or, ← Bool.decide_and, Bool.eq_iff_iff]; simp; omega
    clear HFF d3 K0 K1
    go_enter Tryz.func47, Tryz.ntmps47
    go_wp2_with fail
    refine (kids_any X s.tasks (some ⟨b, off, none⟩) sc1 _ _ _ (HX.out _ (by repeat (first | with_reducible exact Below.refl _ _ | (with_reducible refine Below.setCell ?_ ?hs _; case hs => ((try simp); try omega)) | (with_reducible refine Below.alloc ?_ ?hs _; case hs => ((try simp); try omega)) | with_reducible refine Below.drew ?_ | with_reducible refine below_drewN ?_ _))) (by exact TasAt.mono HT.out (by repeat (first | with_reducible exact Below.refl _ _ | (with_reducible refine Below.setCell ?_ ?hs _; case hs => ((try simp); try omega)) | (with_reducible refine Below.alloc ?_ ?hs _; case hs => ((try simp); try omega)) | with_reducible refine Below.drew ?_ | with_reducible refine below_drewN ?_ _)))).mono ?_
    rintro e w3 ⟨rfl, hw3⟩
    have hw3 := hw3.symm
    subst hw3
    go_wp2_with fail
    refine (kids_any X s.tasks (some ⟨b, off, none⟩) sc1 _ _ _ (HX.out _ (by repeat (first | with_reducible exact Below.refl _ _ | (with_reducible refine Below.setCell ?_ ?hs _; case hs => ((try simp); try omega)) | (with_reducible refine Below.alloc ?_ ?hs _; case hs => ((try simp); try omega)) | with_reducible refine Below.drew ?_ | with_reducible refine below_drewN ?_ _))) (by exact TasAt.mono HT.out (by repeat (first | with_reducible exact Below.refl _ _ | (with_reducible refine Below.setCell ?_ ?hs _; case hs => ((try simp); try omega)) | (with_reducible refine Below.alloc ?_ ?hs _; case hs => ((try simp); try omega)) | with_reducible refine Below.drew ?_ | with_reducible refine below_drewN ?_ _)))).mono ?_
    rintro e w3 ⟨rfl, hw3⟩
    have hw3 := hw3.symm
    subst hw3
    go_wp2_with fail
    refine (kids_any X s.tasks (some ⟨b, off, none⟩) sc1 _ _ _ (HX.out _ (by repeat (first | with_reducible exact Below.refl _ _ | (with_reducible refine Below.setCell ?_ ?hs _; case hs => ((try simp); try omega)) | (with_reducible refine Below.alloc ?_ ?hs _; case hs => ((try simp); try omega)) | with_reducible refine Below.drew ?_ | with_reducible refine below_drewN ?_ _))) (by exact TasAt.mono HT.out (by repeat (first | with_reducible exact Below.refl _ _ | (with_reducible refine Below.setCell ?_ ?hs _; case hs => ((try simp); try omega)) | (with_reducible refine Below.alloc ?_ ?hs _; case hs => ((try simp); try omega)) | with_reducible refine Below.drew ?_ | with_reducible refine below_drewN ?_ _)))).mono ?_
    rintro e w3 ⟨rfl, hw3⟩
    have hw3 := hw3.symm
    subst hw3
    go_wp2_with fail
    (try go_quiet (fail))
    (try go_wp2_with fail)
    go_ret
    exact ⟨by rw [HF.out]; rfl, (by repeat (first | with_reducible exact Below.refl _ _ | (with_reducible refine Below.setCell ?_ ?hs _; case hs => ((try simp); try omega)) | (with_reducible refine Below.alloc ?_ ?hs _; case hs => ((try simp); try omega)) | with_reducible refine Below.drew ?_ | with_reducible refine below_drewN ?_ _))⟩

set_option maxHeartbeats 4000000 in
theorem moveOf_any (p : Pr) (pa0 pa1 : Option Addr) (pc0 pc1 : Nat) (Y : Nat) (s : Sy) (b off : Nat) (sc1 i : Nat) (w : World) (hY1 : w.cell? ⟨Y, 1, none⟩ = some (.slice (some ⟨b, off, none⟩) s.tasks.length sc1)) (hY2 : w.cell? ⟨Y, 2, none⟩ = some (.int .i64 s.clock)) (hYl : Y < w.heap.size) (hi : i < s.tasks.length) :
    Calls Tryz.prog 48 #[.agg #[.slice pa0 p.cells.length pc0, .slice pa1 p.bodies.length pc1], .pointer (some ⟨Y, 0, none⟩), .int .i64 (i : Int)] w fun r w' => ∃ X, r = .returned (.pointer (some ⟨X, 0, none⟩)) ∧ MvAt w' X Y s (some ⟨b, off, none⟩) sc1 i ∧ Below w.heap.size w w' := by
  have hi' : (i : Int) < (s.tasks.length : Int) := by omega
  go_enter Tryz.func48, Tryz.ntmps48
  go_wp2_with fail
  go_region
  all_goals
    go_wp2_with fail
    go_ret
    refine ⟨w.heap.size + 1, rfl, ⟨?_, ?_, ?_, ?_, ⟨b, off, rfl, ?_⟩, ?_, ?_⟩, (by repeat (first | with_reducible exact Below.refl _ _ | (with_reducible refine Below.setCell ?_ ?hs _; case hs => ((try simp); try omega)) | (with_reducible refine Below.alloc ?_ ?hs _; case hs => ((try simp); try omega)) | with_reducible refine Below.drew ?_ | with_reducible refine below_drewN ?_ _))⟩
    · simp
    · simp; omega
    · simp [go_sem]
    · simp [go_sem]
    · simp [go_sem]
    · refine (Below.cell (B := w.heap.size) (p := ⟨Y, 1, none⟩) ?_ hYl).trans hY1
      exact (by repeat (first | with_reducible exact Below.refl _ _ | (with_reducible refine Below.setCell ?_ ?hs _; case hs => ((try simp); try omega)) | (with_reducible refine Below.alloc ?_ ?hs _; case hs => ((try simp); try omega)) | with_reducible refine Below.drew ?_ | with_reducible refine below_drewN ?_ _))
    · refine (Below.cell (B := w.heap.size) (p := ⟨Y, 2, none⟩) ?_ hYl).trans hY2
      exact (by repeat (first | with_reducible exact Below.refl _ _ | (with_reducible refine Below.setCell ?_ ?hs _; case hs => ((try simp); try omega)) | (with_reducible refine Below.alloc ?_ ?hs _; case hs => ((try simp); try omega)) | with_reducible refine Below.drew ?_ | with_reducible refine below_drewN ?_ _))

end Go.Proofs.YtdgihncobihbgaaGreat

/-
  SysReady, of the program and of the model (by mky.py).
-/
namespace Go.Proofs.YtdgihncobihbgaaGreat
open Go.RowKit
set_option linter.unusedSimpArgs false
set_option linter.unusedVariables false
set_option maxRecDepth 20000

/-- the places, of the first so many, of which something holds -/
def plN (f : Nat → Bool) (k : Nat) : List Int := ((List.range k).filter f).map fun i : Nat => (i : Int)
theorem plN_succ (f : Nat → Bool) (k : Nat) : plN f (k + 1) = plN f k ++ if f k then [(k : Int)] else [] := by
  unfold plN
  rw [List.range_succ, List.filter_append, List.map_append]
  cases h : f k <;> simp [h]
theorem plN_len (f : Nat → Bool) (k : Nat) : (plN f k).length ≤ k := by
  unfold plN
  have := List.length_filter_le f (List.range k)
  simpa using this
theorem own_notbox {B : Nat} {w : World} {v : Value} {xs : List Int} {g : Nat} {M : Array Value} {t : TypeId} (h : OwnInt B w v xs) (hg : w.heap[g]? = some (.cells M t)) (ht : t ≠ 3) : ∀ k, v.ownBlock = some k → k = g → False := fun k e ek => by
  subst ek
  rcases h.2 with ⟨rfl, _⟩ | ⟨g', cap, cur, rfl, hb, hgg, _⟩
  · cases e
  · injection e with e
    subst e
    rw [hgg] at hg
    injection hg with hg
    injection hg with h1 h2
    exact ht h2.symm
theorem heap_newest (w : World) (o : Obj) : (w.alloc o).heap[w.heap.size]? = some o := by
  first | exact heap_alloc_new w o | exact Go.heap_alloc_new w o | simp [World.alloc, Array.getElem?_push]
theorem OwnAlloc {B : Nat} {w : World} {v : Value} {xs : List Int} (h : OwnInt B w v xs) (o : Obj) : OwnInt B (w.alloc o) v xs := World.ownsRow.alloc h o
def readyL (p : Pr) (s : Sy) : List Int := if mSoB p s then plN (rdyB s) s.tasks.length else []
theorem mSoB_n7 {p : Pr} {s : Sy} (h : mSoB p s = true) : s.tasks.length ≤ 7 := by
  rw [mSoB_head] at h
  simp only [Bool.and_eq_true] at h
  have h1 := h.1
  unfold mHeadB at h1
  simp only [Bool.and_eq_true] at h1
  have : 1 ≤ (s.tasks.length : Int) ∧ (s.tasks.length : Int) ≤ 7 := by simpa [inB] using h1.1.2
  omega

set_option maxHeartbeats 4000000 in
theorem sysReady_any (p : Pr) (pa0 pa1 : Option Addr) (pc0 pc1 : Nat) (s : Sy) (sa0 sa1 sa3 : Option Addr) (sc0 sc1 sc3 : Nat) (w : World) (hp : PrAt w (.slice pa0 p.cells.length pc0) (.slice pa1 p.bodies.length pc1) p) (hS : SyAt w (.slice sa0 s.cells.length sc0) (.slice sa1 s.tasks.length sc1) (.slice sa3 s.log.length sc3) s) (hsm : SmSy s) (hsp : SmallP p) :
    Calls Tryz.prog 15 #[.agg #[.slice pa0 p.cells.length pc0, .slice pa1 p.bodies.length pc1], .agg #[.slice sa0 s.cells.length sc0, .slice sa1 s.tasks.length sc1, .int .i64 s.clock, .slice sa3 s.log.length sc3]] w fun r w' => ∃ v, r = .returned v ∧ OwnInt w.heap.size w' v (readyL p s) ∧ Below w.heap.size w w' := by
  obtain ⟨i0, hi, hz0, hz1, hz2⟩ := info_parts Tryz.info_int
  have HP := (show Hid (PrAt _ _ _ _) from hp)
  have HS := (show Hid (SyAt _ _ _ _ _) from hS)
  clear hp hS
  cases o1 : mSoB p s
  · have HX : Hid (readyL p s = []) := by unfold Hid readyL; rw [o1]; rfl
    have O1 := (show Hid (_ = _) from o1)
    clear o1
    go_enter Tryz.func15, Tryz.ntmps15
    go_wp2_with fail
    refine (sysOk_c p _ _ _ _ s _ _ _ _ _ _ _ (by exact PrAt.mono HP.out (by repeat (first | with_reducible exact Below.refl _ _ | (with_reducible refine Below.setCell ?_ ?hs _; case hs => ((try simp); try omega)) | (with_reducible refine Below.alloc ?_ ?hs _; case hs => ((try simp); try omega)) | with_reducible refine Below.drew ?_ | with_reducible refine below_drewN ?_ _))) (by exact SyAt.mono HS.out (by repeat (first | with_reducible exact Below.refl _ _ | (with_reducible refine Below.setCell ?_ ?hs _; case hs => ((try simp); try omega)) | (with_reducible refine Below.alloc ?_ ?hs _; case hs => ((try simp); try omega)) | with_reducible refine Below.drew ?_ | with_reducible refine below_drewN ?_ _))) hsm hsp).mono ?_
    rw [O1.out]
    rintro e w1 ⟨rfl, hb1⟩
    have HB1 : Hid (Below w.heap.size w w1) := below_then (by repeat (first | with_reducible exact Below.refl _ _ | (with_reducible refine Below.setCell ?_ ?hs _; case hs => ((try simp); try omega)) | (with_reducible refine Below.alloc ?_ ?hs _; case hs => ((try simp); try omega)) | with_reducible refine Below.drew ?_ | with_reducible refine below_drewN ?_ _)) (by (try simp); try omega) hb1
    clear hb1
    go_wp2_with fail
    go_ret
    exact ⟨_, rfl, by rw [HX.out]; exact World.ownsRow_nil _ _ _ _, HB1.out⟩
  have hn7 := mSoB_n7 o1
  have HX : Hid (readyL p s = plN (rdyB s) s.tasks.length) := by unfold Hid readyL; rw [o1]; rfl
  have O1 := (show Hid (_ = _) from o1)
  clear o1
  go_enter Tryz.func15, Tryz.ntmps15
  go_wp2_with fail
  refine (sysOk_c p _ _ _ _ s _ _ _ _ _ _ _ (by exact PrAt.mono HP.out (by repeat (first | with_reducible exact Below.refl _ _ | (with_reducible refine Below.setCell ?_ ?hs _; case hs => ((try simp); try omega)) | (with_reducible refine Below.alloc ?_ ?hs _; case hs => ((try simp); try omega)) | with_reducible refine Below.drew ?_ | with_reducible refine below_drewN ?_ _))) (by exact SyAt.mono HS.out (by repeat (first | with_reducible exact Below.refl _ _ | (with_reducible refine Below.setCell ?_ ?hs _; case hs => ((try simp); try omega)) | (with_reducible refine Below.alloc ?_ ?hs _; case hs => ((try simp); try omega)) | with_reducible refine Below.drew ?_ | with_reducible refine below_drewN ?_ _))) hsm hsp).mono ?_
  rw [O1.out]
  rintro e w1 ⟨rfl, hb1⟩
  have HB1 : Hid (Below w.heap.size w w1) := below_then (by repeat (first | with_reducible exact Below.refl _ _ | (with_reducible refine Below.setCell ?_ ?hs _; case hs => ((try simp); try omega)) | (with_reducible refine Below.alloc ?_ ?hs _; case hs => ((try simp); try omega)) | with_reducible refine Below.drew ?_ | with_reducible refine below_drewN ?_ _)) (by (try simp); try omega) hb1
  have x0_1 : w1.cell? ⟨w.heap.size, 0, none⟩ = some (.slice pa0 p.cells.length pc0) := by rw [hb1.cell (p := ⟨w.heap.size, 0, none⟩) (by (try simp); try omega)]; simp [go_sem]
  have x1_1 : w1.cell? ⟨w.heap.size, 1, none⟩ = some (.slice pa1 p.bodies.length pc1) := by rw [hb1.cell (p := ⟨w.heap.size, 1, none⟩) (by (try simp); try omega)]; simp [go_sem]
  have x2_1 : w1.cell? ⟨w.heap.size + 1, 0, none⟩ = some (.slice sa0 s.cells.length sc0) := by rw [hb1.cell (p := ⟨w.heap.size + 1, 0, none⟩) (by (try simp); try omega)]; simp [go_sem]
  have x3_1 : w1.cell? ⟨w.heap.size + 1, 1, none⟩ = some (.slice sa1 s.tasks.length sc1) := by rw [hb1.cell (p := ⟨w.heap.size + 1, 1, none⟩) (by (try simp); try omega)]; simp [go_sem]
  have x4_1 : w1.cell? ⟨w.heap.size + 1, 2, none⟩ = some (.int .i64 s.clock) := by rw [hb1.cell (p := ⟨w.heap.size + 1, 2, none⟩) (by (try simp); try omega)]; simp [go_sem]
  have x5_1 : w1.cell? ⟨w.heap.size + 1, 3, none⟩ = some (.slice sa3 s.log.length sc3) := by rw [hb1.cell (p := ⟨w.heap.size + 1, 3, none⟩) (by (try simp); try omega)]; simp [go_sem]
  have z0_1 : w.heap.size < w1.heap.size := by have := hb1.size; (try simp at this); omega
  have z1_1 : w.heap.size + 1 < w1.heap.size := by have := hb1.size; (try simp at this); omega
  clear hb1
  go_wp2_with fail
  go_loopw [5, 14] (fun o q w' => ∃ (k : Nat) (xs : List Int), k ≤ s.tasks.length ∧ q = .int .i64 k ∧ xs = plN (rdyB s) k ∧ OwnInt w1.heap.size w' o xs ∧ Below w1.heap.size w1 w') (fun _ q _ => s.tasks.length - (intOf q).toNat)
  case atStart => exact ⟨0, [], Nat.zero_le _, rfl, rfl, World.ownsRow_nil _ _ _ _, Below.refl _ _⟩
  case round =>
    obtain ⟨k, xs, hk, rfl, hxs, hown, hb⟩ := hrel
    have hkl : xs.length ≤ k := by rw [hxs]; exact plN_len _ _
    have HXS := (show Hid (xs = _) from hxs)
    clear hxs
    have HBW : Hid (Below w.heap.size w wr) := below_then HB1.out HB1.out.size hb
    have hsz : w1.heap.size ≤ wr.heap.size := hb.size
    have x0_2 : wr.cell? ⟨w.heap.size, 0, none⟩ = some (.slice pa0 p.cells.length pc0) := by rw [hb.cell (p := ⟨w.heap.size, 0, none⟩) (by (try simp); try omega)]; exact x0_1
    have x1_2 : wr.cell? ⟨w.heap.size, 1, none⟩ = some (.slice pa1 p.bodies.length pc1) := by rw [hb.cell (p := ⟨w.heap.size, 1, none⟩) (by (try simp); try omega)]; exact x1_1
    have x2_2 : wr.cell? ⟨w.heap.size + 1, 0, none⟩ = some (.slice sa0 s.cells.length sc0) := by rw [hb.cell (p := ⟨w.heap.size + 1, 0, none⟩) (by (try simp); try omega)]; exact x2_1
    have x3_2 : wr.cell? ⟨w.heap.size + 1, 1, none⟩ = some (.slice sa1 s.tasks.length sc1) := by rw [hb.cell (p := ⟨w.heap.size + 1, 1, none⟩) (by (try simp); try omega)]; exact x3_1
    have x4_2 : wr.cell? ⟨w.heap.size + 1, 2, none⟩ = some (.int .i64 s.clock) := by rw [hb.cell (p := ⟨w.heap.size + 1, 2, none⟩) (by (try simp); try omega)]; exact x4_1
    have x5_2 : wr.cell? ⟨w.heap.size + 1, 3, none⟩ = some (.slice sa3 s.log.length sc3) := by rw [hb.cell (p := ⟨w.heap.size + 1, 3, none⟩) (by (try simp); try omega)]; exact x5_1
    have z0_2 : w.heap.size < wr.heap.size := by have := hb.size; (try simp at this); omega
    have z1_2 : w.heap.size + 1 < wr.heap.size := by have := hb.size; (try simp at this); omega
    have HOW := (show Hid (OwnInt _ _ _ _) from hown)
    have HBX := (show Hid (Below _ _ _) from hb)
    clear hown hb x0_1 x1_1 x2_1 x3_1 x4_1 x5_1
    by_cases hlt : k < s.tasks.length
    · have hlt' : (k : Int) < (s.tasks.length : Int) := by omega
      obtain ⟨b, off, hsa⟩ : ∃ b off, sa1 = some ⟨b, off, none⟩ := by
        obtain ⟨a, cap, e, hm, hc⟩ := HS.out.2.1
        injection e with e1 e2 e3
        obtain ⟨b, off, _, _, _, _, e, _⟩ := hc k hlt
        exact ⟨b, off, e1.trans e⟩
      subst hsa
      obtain ⟨oa, oc, rfl, _⟩ := own_shape HOW.out
      go_wp2_with fail
      refine (moveOf_any p _ _ _ _ (w.heap.size + 1) s b off sc1 k _ x3_2 x4_2 z1_2 hlt).mono ?_
      rintro e w2 ⟨X, rfl, hM2, hb2⟩
      have HM2 := (show Hid (MvAt _ _ _ _ _ _ _) from hM2)
      have HB2 : Hid (Below w1.heap.size w1 w2) := below_then HBX.out hsz hb2
      have HB2w : Hid (Below w.heap.size w w2) := below_then HBW.out HBW.out.size hb2
      have HO2 : Hid (OwnInt w1.heap.size w2 _ xs) := own_below HOW.out hb2 (Nat.le_refl _)
      have hsz2 : w1.heap.size ≤ w2.heap.size := HB2.out.size
      clear hM2 hb2 HOW HBX HBW x0_2 x1_2 x2_2 x3_2 x4_2 x5_2 z0_2 z1_2
      go_wp2_with fail
      refine (ready_any X (w.heap.size + 1) s _ sc1 k _ HM2.out (TasAt.mono HS.out.2.1 HB2w.out) hlt).mono ?_
      rintro e w3 ⟨rfl, hb3⟩
      have HB3 : Hid (Below w1.heap.size w1 w3) := below_then HB2.out hsz2 hb3
      have HO3 : Hid (OwnInt w1.heap.size w3 _ xs) := own_below HO2.out hb3 (Nat.le_refl _)
      have hsz3 : w1.heap.size ≤ w3.heap.size := HB3.out.size
      clear hb3 HB2 HB2w HO2 HM2
      cases d : rdyB s k
      · have HT : Hid (plN (rdyB s) (k + 1) = plN (rdyB s) k) := by unfold Hid; rw [plN_succ, d]; simp
        clear d
        go_wp2_with fail
        go_roundw
        case rel => exact ⟨k + 1, xs, by omega, by go_num, by rw [HT.out, HXS.out], HO3.out, HB3.out⟩
        case measure => simp [intOf]; omega
      · have HT : Hid (plN (rdyB s) (k + 1) = plN (rdyB s) k ++ [(k : Int)]) := by unfold Hid; rw [plN_succ, d]; simp
        clear d
        go_wp2_with (at_builtin; refine wpList_append_own _ rfl _ _ 22 rfl w1.heap.size 3 i0 (.int .i64 0) 1 8 Tryz.underlying22 hi hz0 hz1 hz2 rfl (by decide) _ _ _ rfl (own_below HO3.out (by repeat (first | with_reducible exact Below.refl _ _ | (with_reducible refine Below.setCell ?_ ?hs _; case hs => ((try simp); try omega)) | (with_reducible refine Below.alloc ?_ ?hs _; case hs => ((try simp); try omega)) | with_reducible refine Below.drew ?_ | with_reducible refine below_drewN ?_ _)) (Nat.le_refl _)) ⟨w3.heap.size, 0, none⟩ 1 1 [.int .i64 (k : Int)] rfl rfl (fun j u hj => by match j, hj with | 0, hj => simp at hj; subst hj; simp [Addr.add]) (fun u hu => by simp at hu; subst hu; rfl) ?a3 ?a4 ?a5 ?_)
        case a3 => unfold maxLen; omega
        case a4 => omega
        case a5 => (try simp); omega
        intro v' w4 hown' hgrow _
        have HO4 : Hid (OwnInt w1.heap.size w4 v' (xs ++ [(k : Int)])) := OwnInt.snoc hown'
        have hge : ∀ g, (Value.slice oa xs.length oc).ownBlock = some g → w1.heap.size ≤ g := fun g hg => (HO3.out.lt g hg).1
        have HB4 : Hid (Below w1.heap.size w1 w4) := Below.grown (by repeat (first | with_reducible exact HB3.out | (with_reducible refine Below.setCell ?_ ?hs _; case hs => ((try simp); try omega)) | (with_reducible refine Below.alloc ?_ ?hs _; case hs => ((try simp); try omega)) | with_reducible refine Below.drew ?_ | with_reducible refine below_drewN ?_ _)) hgrow (by (try simp); omega) hge
        clear hown' hgrow HO3 HB3 hge
        go_wp2_with fail
        go_roundw
        case rel => exact ⟨k + 1, _, by omega, by go_num, by rw [HT.out, HXS.out], HO4.out, HB4.out⟩
        case measure => simp [intOf]; omega
    · have hk' : ¬ (k : Int) < (s.tasks.length : Int) := by omega
      have HR : Hid (OwnInt w1.heap.size wr u5 (readyL p s)) := by
        have := HOW.out; rw [HXS.out, show k = s.tasks.length by omega, ← HX.out] at this; exact this
      clear HOW HBX
      go_wp2_with fail
      go_ret
      exact ⟨_, rfl, own_base HR.out HB1.out.size, HBW.out⟩

set_option maxHeartbeats 4000000 in
theorem sSysReady_any (p : Pr) (pa0 pa1 : Option Addr) (pc0 pc1 : Nat) (s : Sy) (sa0 sa1 sa3 : Option Addr) (sc0 sc1 sc3 : Nat) (w : World) (hp : PrAt w (.slice pa0 p.cells.length pc0) (.slice pa1 p.bodies.length pc1) p) (hS : SyAt w (.slice sa0 s.cells.length sc0) (.slice sa1 s.tasks.length sc1) (.slice sa3 s.log.length sc3) s) (hsm : SmSy s) (hsp : SmallP p) :
    Calls Tryz.prog 14 #[.agg #[.slice pa0 p.cells.length pc0, .slice pa1 p.bodies.length pc1], .agg #[.slice sa0 s.cells.length sc0, .slice sa1 s.tasks.length sc1, .int .i64 s.clock, .slice sa3 s.log.length sc3]] w fun r w' => ∃ v, r = .returned v ∧ OwnInt w.heap.size w' v (readyL p s) ∧ Below w.heap.size w w' := by
  obtain ⟨i0, hi, hz0, hz1, hz2⟩ := info_parts Tryz.info_int
  have HP := (show Hid (PrAt _ _ _ _) from hp)
  have HS := (show Hid (SyAt _ _ _ _ _) from hS)
  clear hp hS
  cases o1 : mSoB p s
  · have HX : Hid (readyL p s = []) := by unfold Hid readyL; rw [o1]; rfl
    have O1 := (show Hid (_ = _) from o1)
    clear o1
    go_enter Tryz.func14, Tryz.ntmps14
    go_wp2_with fail
    refine (sSysOk_any p _ _ _ _ s _ _ _ _ _ _ _ (by exact PrAt.mono HP.out (by repeat (first | with_reducible exact Below.refl _ _ | (with_reducible refine Below.setCell ?_ ?hs _; case hs => ((try simp); try omega)) | (with_reducible refine Below.alloc ?_ ?hs _; case hs => ((try simp); try omega)) | with_reducible refine Below.drew ?_ | with_reducible refine below_drewN ?_ _))) (by exact SyAt.mono HS.out (by repeat (first | with_reducible exact Below.refl _ _ | (with_reducible refine Below.setCell ?_ ?hs _; case hs => ((try simp); try omega)) | (with_reducible refine Below.alloc ?_ ?hs _; case hs => ((try simp); try omega)) | with_reducible refine Below.drew ?_ | with_reducible refine below_drewN ?_ _))) hsm hsp).mono ?_
    rw [O1.out]
    rintro e w1 ⟨rfl, hb1⟩
    have HB1 : Hid (Below w.heap.size w w1) := below_then (by repeat (first | with_reducible exact Below.refl _ _ | (with_reducible refine Below.setCell ?_ ?hs _; case hs => ((try simp); try omega)) | (with_reducible refine Below.alloc ?_ ?hs _; case hs => ((try simp); try omega)) | with_reducible refine Below.drew ?_ | with_reducible refine below_drewN ?_ _)) (by (try simp); try omega) hb1
    have HO1 : Hid (OwnInt w.heap.size w1 (.slice (some ⟨w.heap.size + 1 + 1, 0, none⟩) 0 0) []) := own_below (own_made0 _ _ _ _ (by simp) (by (try simp); try omega)) hb1 (Nat.le_refl _)
    clear hb1
    go_wp2_with fail
    go_ret
    exact ⟨_, rfl, by rw [HX.out]; exact HO1.out, HB1.out⟩
  have hn7 := mSoB_n7 o1
  have HX : Hid (readyL p s = plN (rdyB s) s.tasks.length) := by unfold Hid readyL; rw [o1]; rfl
  have O1 := (show Hid (_ = _) from o1)
  clear o1
  go_enter Tryz.func14, Tryz.ntmps14
  go_wp2_with fail
  refine (sSysOk_any p _ _ _ _ s _ _ _ _ _ _ _ (by exact PrAt.mono HP.out (by repeat (first | with_reducible exact Below.refl _ _ | (with_reducible refine Below.setCell ?_ ?hs _; case hs => ((try simp); try omega)) | (with_reducible refine Below.alloc ?_ ?hs _; case hs => ((try simp); try omega)) | with_reducible refine Below.drew ?_ | with_reducible refine below_drewN ?_ _))) (by exact SyAt.mono HS.out (by repeat (first | with_reducible exact Below.refl _ _ | (with_reducible refine Below.setCell ?_ ?hs _; case hs => ((try simp); try omega)) | (with_reducible refine Below.alloc ?_ ?hs _; case hs => ((try simp); try omega)) | with_reducible refine Below.drew ?_ | with_reducible refine below_drewN ?_ _))) hsm hsp).mono ?_
  rw [O1.out]
  rintro e w0 ⟨rfl, hb1⟩
  have HB0 : Hid (Below w.heap.size w w0) := below_then (by repeat (first | with_reducible exact Below.refl _ _ | (with_reducible refine Below.setCell ?_ ?hs _; case hs => ((try simp); try omega)) | (with_reducible refine Below.alloc ?_ ?hs _; case hs => ((try simp); try omega)) | with_reducible refine Below.drew ?_ | with_reducible refine below_drewN ?_ _)) (by (try simp); try omega) hb1
  have HO0 : Hid (OwnInt (w.heap.size + 1 + 1) w0 (.slice (some ⟨w.heap.size + 1 + 1, 0, none⟩) 0 0) []) := own_below (own_made0 _ _ _ _ (by simp) (by (try simp); try omega)) hb1 (Nat.le_refl _)
  have x0_0 : w0.cell? ⟨w.heap.size, 0, none⟩ = some (.slice pa0 p.cells.length pc0) := by rw [hb1.cell (p := ⟨w.heap.size, 0, none⟩) (by (try simp); try omega)]; simp [go_sem]
  have x1_0 : w0.cell? ⟨w.heap.size, 1, none⟩ = some (.slice pa1 p.bodies.length pc1) := by rw [hb1.cell (p := ⟨w.heap.size, 1, none⟩) (by (try simp); try omega)]; simp [go_sem]
  have x2_0 : w0.cell? ⟨w.heap.size + 1, 0, none⟩ = some (.slice sa0 s.cells.length sc0) := by rw [hb1.cell (p := ⟨w.heap.size + 1, 0, none⟩) (by (try simp); try omega)]; simp [go_sem]
  have x3_0 : w0.cell? ⟨w.heap.size + 1, 1, none⟩ = some (.slice sa1 s.tasks.length sc1) := by rw [hb1.cell (p := ⟨w.heap.size + 1, 1, none⟩) (by (try simp); try omega)]; simp [go_sem]
  have x4_0 : w0.cell? ⟨w.heap.size + 1, 2, none⟩ = some (.int .i64 s.clock) := by rw [hb1.cell (p := ⟨w.heap.size + 1, 2, none⟩) (by (try simp); try omega)]; simp [go_sem]
  have x5_0 : w0.cell? ⟨w.heap.size + 1, 3, none⟩ = some (.slice sa3 s.log.length sc3) := by rw [hb1.cell (p := ⟨w.heap.size + 1, 3, none⟩) (by (try simp); try omega)]; simp [go_sem]
  have z0_0 : w.heap.size < w0.heap.size := by have := hb1.size; (try simp at this); omega
  have z1_0 : w.heap.size + 1 < w0.heap.size := by have := hb1.size; (try simp at this); omega
  clear hb1
  have hw0l : w.heap.size + 1 + 1 ≤ w0.heap.size := by have := z1_0; omega
  go_wp2_with fail
  go_loopw [5, 7] (fun o q w' => ∃ (k : Nat) (xs : List Int), k ≤ s.tasks.length ∧ q = .int .i64 k ∧ xs = plN (rdyB s) k ∧ OwnInt (w.heap.size + 1 + 1) w' o xs ∧ Below (w.heap.size + 1 + 1) w0 w' ∧ w'.heap[w0.heap.size]? = some (.cells #[.slice pa0 p.cells.length pc0, .slice pa1 p.bodies.length pc1, .slice sa0 s.cells.length sc0, .slice sa1 s.tasks.length sc1, .int .i64 s.clock, .slice sa3 s.log.length sc3] 72)) (fun _ q _ => s.tasks.length - (intOf q).toNat)
  case atStart => exact ⟨0, [], Nat.zero_le _, rfl, rfl, OwnAlloc HO0.out _, (Below.refl _ _).alloc (by omega) _, heap_newest _ _⟩
  case round =>
    obtain ⟨k, xs, hk, rfl, hxs, hown, hb, hbox⟩ := hrel
    have hkl : xs.length ≤ k := by rw [hxs]; exact plN_len _ _
    have HXS := (show Hid (xs = _) from hxs)
    clear hxs
    have HBW : Hid (Below w.heap.size w wr) := HB0.out.trans (hb.mono (by omega))
    have hsz : w0.heap.size ≤ wr.heap.size := hb.size
    have hXl : w0.heap.size < wr.heap.size := (Array.getElem?_eq_some_iff.1 hbox).1
    have hX1 : wr.cell? ⟨w0.heap.size, 3, none⟩ = some (.slice sa1 s.tasks.length sc1) := by rw [cell_of_row wr w0.heap.size 3 _ _ (0, 0) hbox]; rfl
    have hX2 : wr.cell? ⟨w0.heap.size, 4, none⟩ = some (.int .i64 s.clock) := by rw [cell_of_row wr w0.heap.size 4 _ _ (0, 0) hbox]; rfl
    have x3_2 : wr.cell? ⟨w.heap.size + 1, 1, none⟩ = some (.slice sa1 s.tasks.length sc1) := by rw [hb.cell (p := ⟨w.heap.size + 1, 1, none⟩) (by simp)]; exact x3_0
    have z1_2 : w.heap.size + 1 < wr.heap.size := by omega
    have HOW := (show Hid (OwnInt _ _ _ _) from hown)
    have HBX := (show Hid (Below _ _ _) from hb)
    have HBOX := (show Hid (_ = _) from hbox)
    clear hown hb hbox x0_0 x1_0 x2_0 x3_0 x4_0 x5_0
    by_cases hlt : k < s.tasks.length
    · have hlt' : (k : Int) < (s.tasks.length : Int) := by omega
      obtain ⟨oa, oc, rfl, _⟩ := own_shape HOW.out
      go_wp2_with fail
      refine (sReady_any w0.heap.size s _ sc1 k _ hX1 hX2 hXl (TasAt.mono HS.out.2.1 HBW.out) hlt hn7).mono ?_
      rintro e w3 ⟨rfl, hb3⟩
      have HB3 : Hid (Below (w.heap.size + 1 + 1) w0 w3) := HBX.out.trans (hb3.mono (by omega))
      have HO3 : Hid (OwnInt (w.heap.size + 1 + 1) w3 _ xs) := own_below HOW.out hb3 (Nat.le_refl _)
      have HBOX3 : Hid (w3.heap[w0.heap.size]? = some (.cells #[.slice pa0 p.cells.length pc0, .slice pa1 p.bodies.length pc1, .slice sa0 s.cells.length sc0, .slice sa1 s.tasks.length sc1, .int .i64 s.clock, .slice sa3 s.log.length sc3] 72)) := (hb3.block _ hXl).trans HBOX.out
      have hsz3 : w0.heap.size < w3.heap.size := by have := hb3.size; omega
      clear hb3 HBX HBW HOW HBOX hX1 hX2 x3_2
      cases d : rdyB s k
      · have HT : Hid (plN (rdyB s) (k + 1) = plN (rdyB s) k) := by unfold Hid; rw [plN_succ, d]; simp
        clear d
        go_wp2_with fail
        go_roundw
        case rel => exact ⟨k + 1, xs, by omega, by go_num, by rw [HT.out, HXS.out], HO3.out, HB3.out, HBOX3.out⟩
        case measure => simp [intOf]; omega
      · have HT : Hid (plN (rdyB s) (k + 1) = plN (rdyB s) k ++ [(k : Int)]) := by unfold Hid; rw [plN_succ, d]; simp
        have HNB := (show Hid (∀ g, _) from own_notbox HO3.out HBOX3.out (by decide))
        clear d
        go_wp2_with (at_builtin; refine wpList_append_own _ rfl _ _ 22 rfl (w.heap.size + 1 + 1) 3 i0 (.int .i64 0) 1 8 Tryz.underlying22 hi hz0 hz1 hz2 rfl (by decide) _ _ _ rfl (own_below HO3.out (by repeat (first | with_reducible exact Below.refl _ _ | (with_reducible refine Below.setCell ?_ ?hs _; case hs => ((try simp); try omega)) | (with_reducible refine Below.alloc ?_ ?hs _; case hs => ((try simp); try omega)) | with_reducible refine Below.drew ?_ | with_reducible refine below_drewN ?_ _)) (Nat.le_refl _)) ⟨w3.heap.size, 0, none⟩ 1 1 [.int .i64 (k : Int)] rfl rfl (fun j u hj => by match j, hj with | 0, hj => simp at hj; subst hj; simp [Addr.add]) (fun u hu => by simp at hu; subst hu; rfl) ?a3 ?a4 ?a5 ?_)
        case a3 => unfold maxLen; omega
        case a4 => omega
        case a5 => (try simp); omega
        intro v' w4 hown' hgrow _
        have HO4 : Hid (OwnInt (w.heap.size + 1 + 1) w4 v' (xs ++ [(k : Int)])) := OwnInt.snoc hown'
        have hge : ∀ g, (Value.slice oa xs.length oc).ownBlock = some g → w.heap.size + 1 + 1 ≤ g := fun g hg => (HO3.out.lt g hg).1
        have HB4 : Hid (Below (w.heap.size + 1 + 1) w0 w4) := Below.grown (by repeat (first | with_reducible exact HB3.out | (with_reducible refine Below.setCell ?_ ?hs _; case hs => ((try simp); try omega)) | (with_reducible refine Below.alloc ?_ ?hs _; case hs => ((try simp); try omega)) | with_reducible refine Below.drew ?_ | with_reducible refine below_drewN ?_ _)) hgrow (by (try simp); omega) hge
        have HBOX4 : Hid (w4.heap[w0.heap.size]? = some (.cells #[.slice pa0 p.cells.length pc0, .slice pa1 p.bodies.length pc1, .slice sa0 s.cells.length sc0, .slice sa1 s.tasks.length sc1, .int .i64 s.clock, .slice sa3 s.log.length sc3] 72)) := by
          unfold Hid
          rw [hgrow.block w0.heap.size (by (try simp); omega) (fun e => HNB.out w0.heap.size e.symm rfl)]
          exact (((Below.refl w3.heap.size w3).alloc (Nat.le_refl _) _).block w0.heap.size hsz3).trans HBOX3.out
        clear hown' hgrow HO3 HB3 HBOX3 HNB hge
        go_wp2_with fail
        go_roundw
        case rel => exact ⟨k + 1, _, by omega, by go_num, by rw [HT.out, HXS.out], HO4.out, HB4.out, HBOX4.out⟩
        case measure => simp [intOf]; omega
    · have hk' : ¬ (k : Int) < (s.tasks.length : Int) := by omega
      have HR : Hid (OwnInt (w.heap.size + 1 + 1) wr u5 (readyL p s)) := by
        have := HOW.out; rw [HXS.out, show k = s.tasks.length by omega, ← HX.out] at this; exact this
      clear HOW HBX
      go_wp2_with fail
      go_ret
      exact ⟨_, rfl, own_base HR.out (by omega), HBW.out⟩

end Go.Proofs.YtdgihncobihbgaaGreat

/-
  SysOver, of the program and of the model (by mky.py).
-/
namespace Go.Proofs.YtdgihncobihbgaaGreat
open Go.RowKit
set_option linter.unusedSimpArgs false
set_option linter.unusedVariables false
set_option maxRecDepth 20000

def overB (p : Pr) (s : Sy) : Bool := mSoB p s && decide ((readyL p s).length = 0)
set_option maxHeartbeats 4000000 in
theorem sysOver_any (p : Pr) (pa0 pa1 : Option Addr) (pc0 pc1 : Nat) (s : Sy) (sa0 sa1 sa3 : Option Addr) (sc0 sc1 sc3 : Nat) (w : World) (hp : PrAt w (.slice pa0 p.cells.length pc0) (.slice pa1 p.bodies.length pc1) p) (hS : SyAt w (.slice sa0 s.cells.length sc0) (.slice sa1 s.tasks.length sc1) (.slice sa3 s.log.length sc3) s) (hsm : SmSy s) (hsp : SmallP p) :
    Calls Tryz.prog 22 #[.agg #[.slice pa0 p.cells.length pc0, .slice pa1 p.bodies.length pc1], .agg #[.slice sa0 s.cells.length sc0, .slice sa1 s.tasks.length sc1, .int .i64 s.clock, .slice sa3 s.log.length sc3]] w fun r w' => r = .returned (.bool (overB p s)) ∧ Below w.heap.size w w' := by
  have HP := (show Hid (PrAt _ _ _ _) from hp)
  have HS := (show Hid (SyAt _ _ _ _ _) from hS)
  clear hp hS
  cases o1 : mSoB p s
  · have HF : Hid (overB p s = false) := by unfold Hid overB; rw [o1]; rfl
    have O1 := (show Hid (_ = _) from o1)
    clear o1
    go_enter Tryz.func22, Tryz.ntmps22
    go_wp2_with fail
    refine (sysOk_c p _ _ _ _ s _ _ _ _ _ _ _ (by exact PrAt.mono HP.out (by repeat (first | with_reducible exact Below.refl _ _ | (with_reducible refine Below.setCell ?_ ?hs _; case hs => ((try simp); try omega)) | (with_reducible refine Below.alloc ?_ ?hs _; case hs => ((try simp); try omega)) | with_reducible refine Below.drew ?_ | with_reducible refine below_drewN ?_ _))) (by exact SyAt.mono HS.out (by repeat (first | with_reducible exact Below.refl _ _ | (with_reducible refine Below.setCell ?_ ?hs _; case hs => ((try simp); try omega)) | (with_reducible refine Below.alloc ?_ ?hs _; case hs => ((try simp); try omega)) | with_reducible refine Below.drew ?_ | with_reducible refine below_drewN ?_ _))) hsm hsp).mono ?_
    rw [O1.out]
    rintro e w1 ⟨rfl, hb1⟩
    have HB1 : Hid (Below w.heap.size w w1) := below_then (by repeat (first | with_reducible exact Below.refl _ _ | (with_reducible refine Below.setCell ?_ ?hs _; case hs => ((try simp); try omega)) | (with_reducible refine Below.alloc ?_ ?hs _; case hs => ((try simp); try omega)) | with_reducible refine Below.drew ?_ | with_reducible refine below_drewN ?_ _)) (by (try simp); try omega) hb1
    clear hb1
    go_wp2_with fail
    go_ret
    exact ⟨by rw [HF.out]; rfl, HB1.out⟩
  have HF : Hid (overB p s = (((readyL p s).length : Int) == 0)) := by
    unfold Hid overB; rw [o1, Bool.true_and, Bool.eq_iff_iff]; simp
  have O1 := (show Hid (_ = _) from o1)
  clear o1
  go_enter Tryz.func22, Tryz.ntmps22
  go_wp2_with fail
  refine (sysOk_c p _ _ _ _ s _ _ _ _ _ _ _ (by exact PrAt.mono HP.out (by repeat (first | with_reducible exact Below.refl _ _ | (with_reducible refine Below.setCell ?_ ?hs _; case hs => ((try simp); try omega)) | (with_reducible refine Below.alloc ?_ ?hs _; case hs => ((try simp); try omega)) | with_reducible refine Below.drew ?_ | with_reducible refine below_drewN ?_ _))) (by exact SyAt.mono HS.out (by repeat (first | with_reducible exact Below.refl _ _ | (with_reducible refine Below.setCell ?_ ?hs _; case hs => ((try simp); try omega)) | (with_reducible refine Below.alloc ?_ ?hs _; case hs => ((try simp); try omega)) | with_reducible refine Below.drew ?_ | with_reducible refine below_drewN ?_ _))) hsm hsp).mono ?_
  rw [O1.out]
  rintro e w1 ⟨rfl, hb1⟩
  have HB1 : Hid (Below w.heap.size w w1) := below_then (by repeat (first | with_reducible exact Below.refl _ _ | (with_reducible refine Below.setCell ?_ ?hs _; case hs => ((try simp); try omega)) | (with_reducible refine Below.alloc ?_ ?hs _; case hs => ((try simp); try omega)) | with_reducible refine Below.drew ?_ | with_reducible refine below_drewN ?_ _)) (by (try simp); try omega) hb1
  have x0_1 : w1.cell? ⟨w.heap.size, 0, none⟩ = some (.slice pa0 p.cells.length pc0) := by rw [hb1.cell (p := ⟨w.heap.size, 0, none⟩) (by (try simp); try omega)]; simp [go_sem]
  have x1_1 : w1.cell? ⟨w.heap.size, 1, none⟩ = some (.slice pa1 p.bodies.length pc1) := by rw [hb1.cell (p := ⟨w.heap.size, 1, none⟩) (by (try simp); try omega)]; simp [go_sem]
  have x2_1 : w1.cell? ⟨w.heap.size + 1, 0, none⟩ = some (.slice sa0 s.cells.length sc0) := by rw [hb1.cell (p := ⟨w.heap.size + 1, 0, none⟩) (by (try simp); try omega)]; simp [go_sem]
  have x3_1 : w1.cell? ⟨w.heap.size + 1, 1, none⟩ = some (.slice sa1 s.tasks.length sc1) := by rw [hb1.cell (p := ⟨w.heap.size + 1, 1, none⟩) (by (try simp); try omega)]; simp [go_sem]
  have x4_1 : w1.cell? ⟨w.heap.size + 1, 2, none⟩ = some (.int .i64 s.clock) := by rw [hb1.cell (p := ⟨w.heap.size + 1, 2, none⟩) (by (try simp); try omega)]; simp [go_sem]
  have x5_1 : w1.cell? ⟨w.heap.size + 1, 3, none⟩ = some (.slice sa3 s.log.length sc3) := by rw [hb1.cell (p := ⟨w.heap.size + 1, 3, none⟩) (by (try simp); try omega)]; simp [go_sem]
  have z0_1 : w.heap.size < w1.heap.size := by have := hb1.size; (try simp at this); omega
  have z1_1 : w.heap.size + 1 < w1.heap.size := by have := hb1.size; (try simp at this); omega
  clear hb1
  go_wp2_with fail
  refine (sysReady_any p _ _ _ _ s _ _ _ _ _ _ _ (by exact PrAt.mono HP.out HB1.out) (by exact SyAt.mono HS.out HB1.out) hsm hsp).mono ?_
  rintro e w2 ⟨rv, rfl, ho2, hb2⟩
  obtain ⟨ra, rc, rfl, _⟩ := own_shape ho2
  have HB2 : Hid (Below w.heap.size w w2) := below_then HB1.out HB1.out.size hb2
  clear hb2 ho2 x0_1 x1_1 x2_1 x3_1 x4_1 x5_1
  go_wp2_with fail
  go_ret
  exact ⟨by rw [HF.out]; rfl, HB2.out⟩

set_option maxHeartbeats 4000000 in
theorem sSysOver_any (p : Pr) (pa0 pa1 : Option Addr) (pc0 pc1 : Nat) (s : Sy) (sa0 sa1 sa3 : Option Addr) (sc0 sc1 sc3 : Nat) (w : World) (hp : PrAt w (.slice pa0 p.cells.length pc0) (.slice pa1 p.bodies.length pc1) p) (hS : SyAt w (.slice sa0 s.cells.length sc0) (.slice sa1 s.tasks.length sc1) (.slice sa3 s.log.length sc3) s) (hsm : SmSy s) (hsp : SmallP p) :
    Calls Tryz.prog 21 #[.agg #[.slice pa0 p.cells.length pc0, .slice pa1 p.bodies.length pc1], .agg #[.slice sa0 s.cells.length sc0, .slice sa1 s.tasks.length sc1, .int .i64 s.clock, .slice sa3 s.log.length sc3]] w fun r w' => r = .returned (.bool (overB p s)) ∧ Below w.heap.size w w' := by
  have HP := (show Hid (PrAt _ _ _ _) from hp)
  have HS := (show Hid (SyAt _ _ _ _ _) from hS)
  clear hp hS
  cases o1 : mSoB p s
  · have HF : Hid (overB p s = false) := by unfold Hid overB; rw [o1]; rfl
    have O1 := (show Hid (_ = _) from o1)
    clear o1
    go_enter Tryz.func21, Tryz.ntmps21
    go_wp2_with fail
    refine (sSysOk_any p _ _ _ _ s _ _ _ _ _ _ _ (by exact PrAt.mono HP.out (by repeat (first | with_reducible exact Below.refl _ _ | (with_reducible refine Below.setCell ?_ ?hs _; case hs => ((try simp); try omega)) | (with_reducible refine Below.alloc ?_ ?hs _; case hs => ((try simp); try omega)) | with_reducible refine Below.drew ?_ | with_reducible refine below_drewN ?_ _))) (by exact SyAt.mono HS.out (by repeat (first | with_reducible exact Below.refl _ _ | (with_reducible refine Below.setCell ?_ ?hs _; case hs => ((try simp); try omega)) | (with_reducible refine Below.alloc ?_ ?hs _; case hs => ((try simp); try omega)) | with_reducible refine Below.drew ?_ | with_reducible refine below_drewN ?_ _))) hsm hsp).mono ?_
    rw [O1.out]
    rintro e w1 ⟨rfl, hb1⟩
    have HB1 : Hid (Below w.heap.size w w1) := below_then (by repeat (first | with_reducible exact Below.refl _ _ | (with_reducible refine Below.setCell ?_ ?hs _; case hs => ((try simp); try omega)) | (with_reducible refine Below.alloc ?_ ?hs _; case hs => ((try simp); try omega)) | with_reducible refine Below.drew ?_ | with_reducible refine below_drewN ?_ _)) (by (try simp); try omega) hb1
    clear hb1
    go_wp2_with fail
    go_ret
    exact ⟨by rw [HF.out]; rfl, HB1.out⟩
  have HF : Hid (overB p s = (((readyL p s).length : Int) == 0)) := by
    unfold Hid overB; rw [o1, Bool.true_and, Bool.eq_iff_iff]; simp
  have O1 := (show Hid (_ = _) from o1)
  clear o1
  go_enter Tryz.func21, Tryz.ntmps21
  go_wp2_with fail
  refine (sSysOk_any p _ _ _ _ s _ _ _ _ _ _ _ (by exact PrAt.mono HP.out (by repeat (first | with_reducible exact Below.refl _ _ | (with_reducible refine Below.setCell ?_ ?hs _; case hs => ((try simp); try omega)) | (with_reducible refine Below.alloc ?_ ?hs _; case hs => ((try simp); try omega)) | with_reducible refine Below.drew ?_ | with_reducible refine below_drewN ?_ _))) (by exact SyAt.mono HS.out (by repeat (first | with_reducible exact Below.refl _ _ | (with_reducible refine Below.setCell ?_ ?hs _; case hs => ((try simp); try omega)) | (with_reducible refine Below.alloc ?_ ?hs _; case hs => ((try simp); try omega)) | with_reducible refine Below.drew ?_ | with_reducible refine below_drewN ?_ _))) hsm hsp).mono ?_
  rw [O1.out]
  rintro e w1 ⟨rfl, hb1⟩
  have HB1 : Hid (Below w.heap.size w w1) := below_then (by repeat (first | with_reducible exact Below.refl _ _ | (with_reducible refine Below.setCell ?_ ?hs _; case hs => ((try simp); try omega)) | (with_reducible refine Below.alloc ?_ ?hs _; case hs => ((try simp); try omega)) | with_reducible refine Below.drew ?_ | with_reducible refine below_drewN ?_ _)) (by (try simp); try omega) hb1
  have x0_1 : w1.cell? ⟨w.heap.size, 0, none⟩ = some (.slice pa0 p.cells.length pc0) := by rw [hb1.cell (p := ⟨w.heap.size, 0, none⟩) (by (try simp); try omega)]; simp [go_sem]
  have x1_1 : w1.cell? ⟨w.heap.size, 1, none⟩ = some (.slice pa1 p.bodies.length pc1) := by rw [hb1.cell (p := ⟨w.heap.size, 1, none⟩) (by (try simp); try omega)]; simp [go_sem]
  have x2_1 : w1.cell? ⟨w.heap.size + 1, 0, none⟩ = some (.slice sa0 s.cells.length sc0) := by rw [hb1.cell (p := ⟨w.heap.size + 1, 0, none⟩) (by (try simp); try omega)]; simp [go_sem]
  have x3_1 : w1.cell? ⟨w.heap.size + 1, 1, none⟩ = some (.slice sa1 s.tasks.length sc1) := by rw [hb1.cell (p := ⟨w.heap.size + 1, 1, none⟩) (by (try simp); try omega)]; simp [go_sem]
  have x4_1 : w1.cell? ⟨w.heap.size + 1, 2, none⟩ = some (.int .i64 s.clock) := by rw [hb1.cell (p := ⟨w.heap.size + 1, 2, none⟩) (by (try simp); try omega)]; simp [go_sem]
  have x5_1 : w1.cell? ⟨w.heap.size + 1, 3, none⟩ = some (.slice sa3 s.log.length sc3) := by rw [hb1.cell (p := ⟨w.heap.size + 1, 3, none⟩) (by (try simp); try omega)]; simp [go_sem]
  have z0_1 : w.heap.size < w1.heap.size := by have := hb1.size; (try simp at this); omega
  have z1_1 : w.heap.size + 1 < w1.heap.size := by have := hb1.size; (try simp at this); omega
  clear hb1
  go_wp2_with fail
  refine (sSysReady_any p _ _ _ _ s _ _ _ _ _ _ _ (by exact PrAt.mono HP.out HB1.out) (by exact SyAt.mono HS.out HB1.out) hsm hsp).mono ?_
  rintro e w2 ⟨rv, rfl, ho2, hb2⟩
  obtain ⟨ra, rc, rfl, _⟩ := own_shape ho2
  have HB2 : Hid (Below w.heap.size w w2) := below_then HB1.out HB1.out.size hb2
  clear hb2 ho2 x0_1 x1_1 x2_1 x3_1 x4_1 x5_1
  go_wp2_with fail
  go_ret
  exact ⟨by rw [HF.out]; rfl, HB2.out⟩

end Go.Proofs.YtdgihncobihbgaaGreat
