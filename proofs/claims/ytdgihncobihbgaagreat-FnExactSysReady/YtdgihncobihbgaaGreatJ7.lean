import Derived.Test.YtdgihncobihbgaaGreatK6b
import Derived.Test.YtdgihncobihbgaaGreatK8
import Derived.Handy
/-
  Who is ready: one task (by mky.py).
-/
namespace Go.Proofs.YtdgihncobihbgaaGreat
open Go.RowKit
set_option linter.unusedSimpArgs false
set_option linter.unusedVariables false
set_option maxRecDepth 20000

/-- a task is ready -/
def rdyB (s : Sy) (i : Nat) : Bool :=
  if 200 ≤ s.clock then false
  else if (nth Ta.z s.tasks i).way = 0 then (!decide ((nth Ta.z s.tasks i).stage = 0) || decide ((nth Ta.z s.tasks i).when_ ≤ s.clock))
  else if (nth Ta.z s.tasks i).way = 1 then (decide (0 < kin s.tasks i 3) || (decide (kin s.tasks i 0 = 0) && decide (kin s.tasks i 1 = 0)))
  else false
def kq (i way : Int) (u : Ta) : Bool := decide (u.up = i) && decide (u.way = way)
theorem kin_pos {ts : List Ta} {i way : Int} {k : Nat} (hk : k < ts.length) (h : kq i way (nth Ta.z ts k) = true) : 0 < kin ts i way := by
  unfold kin
  rw [List.length_pos_iff_exists_mem]
  refine ⟨nth Ta.z ts k, ?_⟩
  rw [List.mem_filter]
  exact ⟨by rw [nth_eq Ta.z ts k hk]; exact List.getElem_mem hk, h⟩
theorem kin_zero {ts : List Ta} {i way : Int} (h : ∀ k, k < ts.length → kq i way (nth Ta.z ts k) = false) : kin ts i way = 0 := by
  unfold kin
  rw [List.length_eq_zero_iff, List.filter_eq_nil_iff]
  intro u hu
  obtain ⟨k, hk, e⟩ := List.getElem_of_mem hu
  have := h k hk
  rw [nth_eq Ta.z ts k hk, e] at this
  unfold kq at this
  simp [this]

set_option maxHeartbeats 4000000 in
theorem hasKid_any (X Y : Nat) (ts : List Ta) (sa : Option Addr) (sc : Nat) (i way : Int) (w : World) (hX1 : w.cell? ⟨X, 2, none⟩ = some (.pointer (some ⟨Y, 0, none⟩))) (hX2 : w.cell? ⟨X, 3, none⟩ = some (.int .i64 i)) (hY : w.cell? ⟨Y, 1, none⟩ = some (.slice sa ts.length sc)) (hXl : X < w.heap.size) (hYl : Y < w.heap.size) (hT : TasAt w (.slice sa ts.length sc) ts) :
    Calls Tryz.prog 84 #[.pointer (some ⟨X, 0, none⟩), .int .i64 way] w fun r w' => r = .returned (.bool (decide (0 < kin ts i way))) ∧ Below w.heap.size w w' := by
  obtain ⟨a, cap, e, hm, hc⟩ := hT
  injection e with e1 e2 e3
  subst e1 e3
  clear e2
  go_enter Tryz.func84, Tryz.ntmps84
  go_wp2_with fail
  go_loopw [15] (fun q w' => ∃ k : Nat, k ≤ ts.length ∧ q = .int .i64 k ∧ Below w.heap.size w w' ∧ (∀ j, j < k → kq i way (nth Ta.z ts j) = false)) (fun q _ => ts.length - (intOf q).toNat)
  case atStart => exact ⟨0, Nat.zero_le _, rfl, Below.refl _ _, fun j hj => absurd hj (Nat.not_lt_zero _)⟩
  case round =>
    obtain ⟨k, hk, rfl, hb, hall⟩ := hrel
    have HB := (show Hid (Below _ _ _) from hb)
    have hsz := hb.size
    have hXr : X < wr.heap.size := by omega
    rw [← hb.cell (p := ⟨X, 3, none⟩) hXl] at hX2
    by_cases hlt : k < ts.length
    · have hlt' : (k : Int) < (ts.length : Int) := by omega
      obtain ⟨b, off, v3, v8, v9, v10, rfl, hbw', c0, c1, c2, c3, c4, c5, c6, c7, c8, c9, c10, c11, c12, h3, h8, h9, h10⟩ := hc k hlt
      rw [← hb.cell (p := ⟨b, _, none⟩) hbw'] at c0 c1 c2 c3 c4 c5 c6 c7 c8 c9 c10 c11 c12
      have hbr : b < wr.heap.size := by omega
      obtain ⟨a3, e3', rfl, hm3⟩ := h3.shape
      obtain ⟨a8, e8', rfl, hm8⟩ := h8.shape
      obtain ⟨a9, e9', rfl, hm9⟩ := h9.shape
      obtain ⟨a10, e10', rfl, hm10⟩ := h10.shape
      clear hc h3 h8 h9 h10 hb hX1 hY
      by_cases q1 : (nth Ta.z ts k).up = i
      · have q1' : ((nth Ta.z ts k).up == i) = true := by simp [q1]
        have q1b : (i == i) = true := by simp
        by_cases q2 : (nth Ta.z ts k).way = way
        · have q2' : ((nth Ta.z ts k).way == way) = true := by simp [q2]
          have HF : Hid (decide (0 < kin ts i way) = true) := decide_eq_true (kin_pos hlt (by simp [kq, q1, q2]))
          clear q1 q2 hall
          go_wp2_with fail
          (try go_quiet (fail))
          (try go_wp2_with fail)
          go_ret
          exact ⟨by rw [HF.out]; rfl, (by repeat (first | with_reducible exact HB.out | (with_reducible refine Below.setCell ?_ ?hs _; case hs => ((try simp); try omega)) | (with_reducible refine Below.alloc ?_ ?hs _; case hs => ((try simp); try omega)) | with_reducible refine Below.drew ?_ | with_reducible refine below_drewN ?_ _))⟩
        · have q2' : ((nth Ta.z ts k).way == way) = false := by simp [q2]
          have HA : Hid (∀ j, j < k + 1 → kq i way (nth Ta.z ts j) = false) := so_far hall (by simp [kq, q2])
          clear q1 q2 hall
          go_wp2_with fail
          (try go_quiet (fail))
          (try go_wp2_with fail)
          go_roundw
          case rel => exact ⟨k + 1, by omega, by go_num, (by repeat (first | with_reducible exact HB.out | (with_reducible refine Below.setCell ?_ ?hs _; case hs => ((try simp); try omega)) | (with_reducible refine Below.alloc ?_ ?hs _; case hs => ((try simp); try omega)) | with_reducible refine Below.drew ?_ | with_reducible refine below_drewN ?_ _)), HA.out⟩
          case measure => simp [intOf]; omega
      · have q1' : ((nth Ta.z ts k).up == i) = false := by simp [q1]
        have HA : Hid (∀ j, j < k + 1 → kq i way (nth Ta.z ts j) = false) := so_far hall (by simp [kq, q1])
        clear q1 hall
        go_wp2_with fail
        (try go_quiet (fail))
        (try go_wp2_with fail)
        go_roundw
        case rel => exact ⟨k + 1, by omega, by go_num, (by repeat (first | with_reducible exact HB.out | (with_reducible refine Below.setCell ?_ ?hs _; case hs => ((try simp); try omega)) | (with_reducible refine Below.alloc ?_ ?hs _; case hs => ((try simp); try omega)) | with_reducible refine Below.drew ?_ | with_reducible refine below_drewN ?_ _)), HA.out⟩
        case measure => simp [intOf]; omega
    · have hk' : ¬ (k : Int) < (ts.length : Int) := by omega
      have HF : Hid (decide (0 < kin ts i way) = false) := decide_eq_false (by rw [kin_zero (fun j hj => hall j (by omega))]; omega)
      clear hall hc hb hX1 hY
      go_wp2_with fail
      go_ret
      exact ⟨by rw [HF.out]; rfl, HB.out⟩

def MvAt (w : World) (X Y : Nat) (s : Sy) (sa1 : Option Addr) (sc1 : Nat) (i : Nat) : Prop :=
  X < w.heap.size ∧ Y < w.heap.size ∧ w.cell? ⟨X, 2, none⟩ = some (.pointer (some ⟨Y, 0, none⟩)) ∧ w.cell? ⟨X, 3, none⟩ = some (.int .i64 (i : Int)) ∧ (∃ b off, sa1 = some ⟨b, off, none⟩ ∧ w.cell? ⟨X, 4, none⟩ = some (.pointer (some ⟨b, off + i * 13, none⟩))) ∧ w.cell? ⟨Y, 1, none⟩ = some (.slice sa1 s.tasks.length sc1) ∧ w.cell? ⟨Y, 2, none⟩ = some (.int .i64 s.clock)
theorem MvAt.mono {w w' : World} {X Y : Nat} {s : Sy} {sa1 : Option Addr} {sc1 i : Nat} (h : MvAt w X Y s sa1 sc1 i) (hb : Below w.heap.size w w') : MvAt w' X Y s sa1 sc1 i := by
  obtain ⟨h1, h2, h3, h4, ⟨b, off, h5, h6⟩, h7, h8⟩ := h
  rw [← hb.cell (p := ⟨X, _, none⟩) h1] at h3 h4 h6
  rw [← hb.cell (p := ⟨Y, _, none⟩) h2] at h7 h8
  exact ⟨Nat.lt_of_lt_of_le h1 hb.size, Nat.lt_of_lt_of_le h2 hb.size, h3, h4, ⟨b, off, h5, h6⟩, h7, h8⟩
theorem hasKid_b (X Y : Nat) (s : Sy) (sa1 : Option Addr) (sc1 i : Nat) (way : Int) {bb : Bool} (w : World) (h : MvAt w X Y s sa1 sc1 i) (hT : TasAt w (.slice sa1 s.tasks.length sc1) s.tasks) (hk : decide (0 < kin s.tasks (i : Int) way) = bb) :
    Calls Tryz.prog 84 #[.pointer (some ⟨X, 0, none⟩), .int .i64 way] w fun r w' => r = .returned (.bool bb) ∧ Below w.heap.size w w' := by
  subst hk; exact hasKid_any X Y s.tasks sa1 sc1 i way w h.2.2.1 h.2.2.2.1 h.2.2.2.2.2.1 h.1 h.2.1 hT

set_option maxHeartbeats 4000000 in
theorem ready_any (X Y : Nat) (s : Sy) (sa1 : Option Addr) (sc1 i : Nat) (w : World) (h : MvAt w X Y s sa1 sc1 i) (hT : TasAt w (.slice sa1 s.tasks.length sc1) s.tasks) (hi : i < s.tasks.length) :
    Calls Tryz.prog 49 #[.pointer (some ⟨X, 0, none⟩)] w fun r w' => r = .returned (.bool (rdyB s i)) ∧ Below w.heap.size w w' := by
  have HM := (show Hid (MvAt _ _ _ _ _ _ _) from h)
  have HT := (show Hid (TasAt _ _ _) from hT)
  obtain ⟨hXl, hYl, hX1, hX2, ⟨b', off', rfl, hX3⟩, hY1, hY2⟩ := h
  obtain ⟨a, cap, e, hm, hc⟩ := hT
  injection e with e1 e2 e3
  subst e1 e3
  obtain ⟨b, off, v3, v8, v9, v10, eb, hbw, c0, c1, c2, c3, c4, c5, c6, c7, c8, c9, c10, c11, c12, h3, h8, h9, h10⟩ := hc i hi
  injection eb with eb
  injection eb with eb1 eb2
  subst eb1 eb2
  clear hc h3 h8 h9 h10 c0 c1 c2 c3 c6 c7 c8 c9 c10 c12 e2
  by_cases q0 : 200 ≤ s.clock
  · have HF : Hid (rdyB s i = false) := by unfold Hid rdyB; rw [if_pos q0]
    go_enter Tryz.func49, Tryz.ntmps49
    go_wp2_with fail
    (try go_quiet (fail))
    (try go_wp2_with fail)
    go_ret
    exact ⟨by rw [HF.out]; rfl, (by repeat (first | with_reducible exact Below.refl _ _ | (with_reducible refine Below.setCell ?_ ?hs _; case hs => ((try simp); try omega)) | (with_reducible refine Below.alloc ?_ ?hs _; case hs => ((try simp); try omega)) | with_reducible refine Below.drew ?_ | with_reducible refine below_drewN ?_ _))⟩
  by_cases q1 : (nth Ta.z s.tasks i).way = 0
  · have q1' : ((nth Ta.z s.tasks i).way == 0) = true := by simp [q1]
    by_cases q2 : (nth Ta.z s.tasks i).stage = 0
    · have q2' : ((nth Ta.z s.tasks i).stage != 0) = false := by simp [q2]
      have q2'' : ((nth Ta.z s.tasks i).stage == 0) = true := by simp [q2]
      have HF : Hid (rdyB s i = decide ((nth Ta.z s.tasks i).when_ ≤ s.clock)) := by unfold Hid rdyB; rw [if_neg q0, if_pos q1, decide_eq_true q2]; rfl
      clear q1
      go_enter Tryz.func49, Tryz.ntmps49
      go_wp2_with fail
      (try go_quiet (fail))
      (try go_wp2_with fail)
      go_ret
      exact ⟨by rw [HF.out]; rfl, (by repeat (first | with_reducible exact Below.refl _ _ | (with_reducible refine Below.setCell ?_ ?hs _; case hs => ((try simp); try omega)) | (with_reducible refine Below.alloc ?_ ?hs _; case hs => ((try simp); try omega)) | with_reducible refine Below.drew ?_ | with_reducible refine below_drewN ?_ _))⟩
    · have q2' : ((nth Ta.z s.tasks i).stage != 0) = true := by simp [q2]
      have q2'' : ((nth Ta.z s.tasks i).stage == 0) = false := by simp [q2]
      have HF : Hid (rdyB s i = true) := by unfold Hid rdyB; rw [if_neg q0, if_pos q1, decide_eq_false q2]; rfl
      clear q1
      go_enter Tryz.func49, Tryz.ntmps49
      go_wp2_with fail
      (try go_quiet (fail))
      (try go_wp2_with fail)
      go_ret
      exact ⟨by rw [HF.out]; rfl, (by repeat (first | with_reducible exact Below.refl _ _ | (with_reducible refine Below.setCell ?_ ?hs _; case hs => ((try simp); try omega)) | (with_reducible refine Below.alloc ?_ ?hs _; case hs => ((try simp); try omega)) | with_reducible refine Below.drew ?_ | with_reducible refine below_drewN ?_ _))⟩
  have q1' : ((nth Ta.z s.tasks i).way == 0) = false := by simp [q1]
  by_cases q2 : (nth Ta.z s.tasks i).way = 1
  case neg =>
    have q2' : ((nth Ta.z s.tasks i).way == 1) = false := by simp [q2]
    have HF : Hid (rdyB s i = false) := by unfold Hid rdyB; rw [if_neg q0, if_neg q1, if_neg q2]
    go_enter Tryz.func49, Tryz.ntmps49
    go_wp2_with fail
    (try go_quiet (fail))
    (try go_wp2_with fail)
    go_ret
    exact ⟨by rw [HF.out]; rfl, (by repeat (first | with_reducible exact Below.refl _ _ | (with_reducible refine Below.setCell ?_ ?hs _; case hs => ((try simp); try omega)) | (with_reducible refine Below.alloc ?_ ?hs _; case hs => ((try simp); try omega)) | with_reducible refine Below.drew ?_ | with_reducible refine below_drewN ?_ _))⟩
  have q2' : ((nth Ta.z s.tasks i).way == 1) = true := by simp [q2]
  have HFF : Hid (rdyB s i = (decide (0 < kin s.tasks i 3) || (decide (kin s.tasks i 0 = 0) && decide (kin s.tasks i 1 = 0)))) := by unfold Hid rdyB; rw [if_neg q0, if_neg q1, if_pos q2]
  have HQ := (show Hid (_ = _) from q2)
  clear q2
  go_enter Tryz.func49, Tryz.ntmps49
  go_wp2_with fail
  cases d3 : decide (0 < kin s.tasks i 3)
  case true =>
    have HF : Hid (rdyB s i = true) := by unfold Hid; rw [HFF.out, d3]; rfl
    have D3 := (show Hid (_ = _) from d3)
    clear d3
    refine (hasKid_b X Y s _ _ i 3 _ HM.out HT.out D3.out).mono ?_
    rintro e w1 ⟨rfl, hb1⟩
    have HB1 := (show Hid (Below _ _ _) from hb1)
    clear hb1
    go_wp2_with fail
    go_ret
    exact ⟨by rw [HF.out]; rfl, HB1.out⟩
  have D3 := (show Hid (_ = _) from d3)
  have HF3 : Hid (rdyB s i = (decide (kin s.tasks i 0 = 0) && decide (kin s.tasks i 1 = 0))) := by unfold Hid; rw [HFF.out, d3]; rfl
  clear d3 HFF
  refine (hasKid_b X Y s _ _ i 3 _ HM.out HT.out D3.out).mono ?_
  rintro e w1 ⟨rfl, hb1⟩
  have HB1 := (show Hid (Below _ _ _) from hb1)
  clear hb1
  go_wp2_with fail
  cases d0 : decide (0 < kin s.tasks i 0)
  case true =>
    have HF : Hid (rdyB s i = false) := by
      have : ¬ kin s.tasks i 0 = 0 := by have := of_decide_eq_true d0; omega
      unfold Hid; rw [HF3.out, decide_eq_false this]; rfl
    have D0 := (show Hid (_ = _) from d0)
    clear d0
    refine (hasKid_b X Y s _ _ i 0 _ (HM.out.mono HB1.out) (HT.out.mono HB1.out) D0.out).mono ?_
    rintro e w2 ⟨rfl, hb2⟩
    have HB2 := (show Hid (Below w.heap.size w w2) from below_then HB1.out HB1.out.size hb2)
    clear hb2
    go_wp2_with fail
    go_ret
    exact ⟨by rw [HF.out]; rfl, HB2.out⟩
  have D0 := (show Hid (_ = _) from d0)
  have HF0 : Hid (rdyB s i = decide (kin s.tasks i 1 = 0)) := by
    have : kin s.tasks i 0 = 0 := by have := of_decide_eq_false d0; omega
    unfold Hid; rw [HF3.out, decide_eq_true this]; rfl
  clear d0 HF3
  refine (hasKid_b X Y s _ _ i 0 _ (HM.out.mono HB1.out) (HT.out.mono HB1.out) D0.out).mono ?_
  rintro e w2 ⟨rfl, hb2⟩
  have HB2 := (show Hid (Below w.heap.size w w2) from below_then HB1.out HB1.out.size hb2)
  clear hb2
  go_wp2_with fail
  refine (hasKid_b X Y s _ _ i 1 _ (HM.out.mono HB2.out) (HT.out.mono HB2.out) rfl).mono ?_
  rintro e w3 ⟨rfl, hb3⟩
  have HB3 := (show Hid (Below w.heap.size w w3) from below_then HB2.out HB2.out.size hb3)
  clear hb3
  cases d1 : decide (0 < kin s.tasks i 1)
  · have HF : Hid (rdyB s i = true) := by unfold Hid; rw [HF0.out]; exact decide_eq_true (by have := of_decide_eq_false d1; omega)
    go_wp2_with fail
    go_ret
    exact ⟨by rw [HF.out]; rfl, HB3.out⟩
  · have HF : Hid (rdyB s i = false) := by unfold Hid; rw [HF0.out]; exact decide_eq_false (by have := of_decide_eq_true d1; omega)
    go_wp2_with fail
    go_ret
    exact ⟨by rw [HF.out]; rfl, HB3.out⟩

end Go.Proofs.YtdgihncobihbgaaGreat

/-
  Who is ready: one task, of the model; moveOf (by mky.py).
-/
namespace Go.Proofs.YtdgihncobihbgaaGreat
open Go.RowKit
set_option linter.unusedSimpArgs false
set_option linter.unusedVariables false
set_option maxRecDepth 20000

set_option maxHeartbeats 4000000 in
theorem sReady_any (X : Nat) (s : Sy) (sa1 : Option Addr) (sc1 i : Nat) (w : World) (hX1 : w.cell? ⟨X, 3, none⟩ = some (.slice sa1 s.tasks.length sc1)) (hX2 : w.cell? ⟨X, 4, none⟩ = some (.int .i64 s.clock)) (hXl : X < w.heap.size) (hT : TasAt w (.slice sa1 s.tasks.length sc1) s.tasks) (hi : i < s.tasks.length) (hn7 : s.tasks.length ≤ 7) :
    Calls Tryz.prog 47 #[.pointer (some ⟨X, 0, none⟩), .int .i64 (i : Int)] w fun r w' => r = .returned (.bool (rdyB s i)) ∧ Below w.heap.size w w' := by
  have HT := (show Hid (TasAt _ _ _) from hT)
  obtain ⟨a, cap, e, hm, hc⟩ := hT
  injection e with e1 e2 e3
  subst e1 e3
  have hi' : (i : Int) < (s.tasks.length : Int) := by omega
  obtain ⟨b, off, v3, v8, v9, v10, rfl, hbw, c0, c1, c2, c3, c4, c5, c6, c7, c8, c9, c10, c11, c12, h3, h8, h9, h10⟩ := hc i hi
  obtain ⟨a3, e3', rfl, hm3⟩ := h3.shape
  obtain ⟨a8, e8', rfl, hm8⟩ := h8.shape
  obtain ⟨a9, e9', rfl, hm9⟩ := h9.shape
  obtain ⟨a10, e10', rfl, hm10⟩ := h10.shape
  clear hc h3 h8 h9 h10 e2
  by_cases q0 : 200 ≤ s.clock
  · have HF : Hid (rdyB s i = false) := by unfold Hid rdyB; rw [if_pos q0]
    go_enter Tryz.func47, Tryz.ntmps47
    go_wp2_with fail
    (try go_quiet (fail))
    (try go_wp2_with fail)
    go_ret
    exact ⟨by rw [HF.out]; rfl, (by repeat (first | with_reducible exact Below.refl _ _ | (with_reducible refine Below.setCell ?_ ?hs _; case hs => ((try simp); try omega)) | (with_reducible refine Below.alloc ?_ ?hs _; case hs => ((try simp); try omega)) | with_reducible refine Below.drew ?_ | with_reducible refine below_drewN ?_ _))⟩
  by_cases q1 : (nth Ta.z s.tasks i).way = 0
  · have q1' : ((nth Ta.z s.tasks i).way == 0) = true := by simp [q1]
    by_cases q2 : (nth Ta.z s.tasks i).stage = 0
    · have q2' : ((nth Ta.z s.tasks i).stage != 0) = false := by simp [q2]
      have q2'' : ((nth Ta.z s.tasks i).stage == 0) = true := by simp [q2]
      have HF : Hid (rdyB s i = decide ((nth Ta.z s.tasks i).when_ ≤ s.clock)) := by unfold Hid rdyB; rw [if_neg q0, if_pos q1, decide_eq_true q2]; rfl
      clear q1
      go_enter Tryz.func47, Tryz.ntmps47
      go_wp2_with fail
      (try go_quiet (fail))
      (try go_wp2_with fail)
      go_ret
      exact ⟨by rw [HF.out]; rfl, (by repeat (first | with_reducible exact Below.refl _ _ | (with_reducible refine Below.setCell ?_ ?hs _; case hs => ((try simp); try omega)) | (with_reducible refine Below.alloc ?_ ?hs _; case hs => ((try simp); try omega)) | with_reducible refine Below.drew ?_ | with_reducible refine below_drewN ?_ _))⟩
    · have q2' : ((nth Ta.z s.tasks i).stage != 0) = true := by simp [q2]
      have q2'' : ((nth Ta.z s.tasks i).stage == 0) = false := by simp [q2]
      have HF : Hid (rdyB s i = true) := by unfold Hid rdyB; rw [if_neg q0, if_pos q1, decide_eq_false q2]; rfl
      clear q1
      go_enter Tryz.func47, Tryz.ntmps47
      go_wp2_with fail
      (try go_quiet (fail))
      (try go_wp2_with fail)
      go_ret
      exact ⟨by rw [HF.out]; rfl, (by repeat (first | with_reducible exact Below.refl _ _ | (with_reducible refine Below.setCell ?_ ?hs _; case hs => ((try simp); try omega)) | (with_reducible refine Below.alloc ?_ ?hs _; case hs => ((try simp); try omega)) | with_reducible refine Below.drew ?_ | with_reducible refine below_drewN ?_ _))⟩
  have q1' : ((nth Ta.z s.tasks i).way == 0) = false := by simp [q1]
  by_cases q2 : (nth Ta.z s.tasks i).way = 1
  case neg =>
    have q2' : ((nth Ta.z s.tasks i).way == 1) = false := by simp [q2]
    have HF : Hid (rdyB s i = false) := by unfold Hid rdyB; rw [if_neg q0, if_neg q1, if_neg q2]
    go_enter Tryz.func47, Tryz.ntmps47
    go_wp2_with fail
    (try go_quiet (fail))
    (try go_wp2_with fail)
    go_ret
    exact ⟨by rw [HF.out]; rfl, (by repeat (first | with_reducible exact Below.refl _ _ | (with_reducible refine Below.setCell ?_ ?hs _; case hs => ((try simp); try omega)) | (with_reducible refine Below.alloc ?_ ?hs _; case hs => ((try simp); try omega)) | with_reducible refine Below.drew ?_ | with_reducible refine below_drewN ?_ _))⟩
  have q2' : ((nth Ta.z s.tasks i).way == 1) = true := by simp [q2]
  have HFF : Hid (rdyB s i = (decide (0 < kin s.tasks i 3) || (decide (kin s.tasks i 0 = 0) && decide (kin s.tasks i 1 = 0)))) := by unfold Hid rdyB; rw [if_neg q0, if_neg q1, if_pos q2]
  have HQ := (show Hid (_ = _) from q2)
  have K0 := kin_le s.tasks i 0
  have K1 := kin_le s.tasks i 1
  have W1 : IntKind.i64.wrap ((kin s.tasks i 0 : Int) + (kin s.tasks i 1 : Int)) = (kin s.tasks i 0 : Int) + (kin s.tasks i 1 : Int) := by rw [IntKind.wrap_i64]; omega
  clear q2
  have hX1' : ∀ w' : World, Below w.heap.size w w' → w'.cell? ⟨X, 3, none⟩ = some (.slice (some ⟨b, off, none⟩) s.tasks.length sc1) := fun w' hb => by rw [hb.cell (p := ⟨X, 3, none⟩) hXl]; exact hX1
  have HX := (show Hid (∀ w' : World, _) from hX1')
  clear hX1'
  by_cases d3 : 0 < kin s.tasks i 3
  · have d3' : (0 : Int) < (kin s.tasks i 3 : Int) := by omega
    have HF : Hid (rdyB s i = true) := by unfold Hid; rw [HFF.out, decide_eq_true d3]; rfl
    clear HFF d3 K0 K1
    go_enter Tryz.func47, Tryz.ntmps47
    go_wp2_with fail
    refine (kids_any X s.tasks (some ⟨b, off, none⟩) sc1 _ _ _ (HX.out _ (by repeat (first | with_reducible exact Below.refl _ _ | (with_reducible refine Below.setCell ?_ ?hs _; case hs => ((try simp); try omega)) | (with_reducible refine Below.alloc ?_ ?hs _; case hs => ((try simp); try omega)) | with_reducible refine Below.drew ?_ | with_reducible refine below_drewN ?_ _))) (by exact TasAt.mono HT.out (by repeat (first | with_reducible exact Below.refl _ _ | (with_reducible refine Below.setCell ?_ ?hs _; case hs => ((try simp); try omega)) | (with_reducible refine Below.alloc ?_ ?hs _; case hs => ((try simp); try omega)) | with_reducible refine Below.drew ?_ | with_reducible refine below_drewN ?_ _)))).mono ?_
    rintro e w3 ⟨rfl, hw3⟩
    have hw3 := hw3.symm
    subst hw3
    (try go_quiet (fail))
    (try go_wp2_with fail)
    go_ret
    exact ⟨by rw [HF.out]; rfl, (by repeat (first | with_reducible exact Below.refl _ _ | (with_reducible refine Below.setCell ?_ ?hs _; case hs => ((try simp); try omega)) | (with_reducible refine Below.alloc ?_ ?hs _; case hs => ((try simp); try omega)) | with_reducible refine Below.drew ?_ | with_reducible refine below_drewN ?_ _))⟩
  · have d3' : ¬ (0 : Int) < (kin s.tasks i 3 : Int) := by omega
    have HF : Hid (rdyB s i = ((kin s.tasks i 0 : Int) + (kin s.tasks i 1 : Int) == 0)) := by
      unfold Hid; rw [HFF.out, decide_eq_false d3, Bool.false_or, ← Bool.decide_and, Bool.eq_iff_iff]; simp; omega
    clear HFF d3 K0 K1
    go_enter Tryz.func47, Tryz.ntmps47
    go_wp2_with fail
    refine (kids_any X s.tasks (some ⟨b, off, none⟩) sc1 _ _ _ (HX.out _ (by repeat (first | with_reducible exact Below.refl _ _ | (with_reducible refine Below.setCell ?_ ?hs _; case hs => ((try simp); try omega)) | (with_reducible refine Below.alloc ?_ ?hs _; case hs => ((try simp); try omega)) | with_reducible refine Below.drew ?_ | with_reducible refine below_drewN ?_ _))) (by exact TasAt.mono HT.out (by repeat (first | with_reducible exact Below.refl _ _ | (with_reducible refine Below.setCell ?_ ?hs _; case hs => ((try simp); try omega)) | (with_reducible refine Below.alloc ?_ ?hs _; case hs => ((try simp); try omega)) | with_reducible refine Below.drew ?_ | with_reducible refine below_drewN ?_ _)))).mono ?_
    rintro e w3 ⟨rfl, hw3⟩
    have hw3 := hw3.symm
    subst hw3
    go_wp2_with fail
    refine (kids_any X s.tasks (some ⟨b, off, none⟩) sc1 _ _ _ (HX.out _ (by repeat (first | with_reducible exact Below.refl _ _ | (with_reducible refine Below.setCell ?_ ?hs _; case hs => ((try simp); try omega)) | (with_reducible refine Below.alloc ?_ ?hs _; case hs => ((try simp); try omega)) | with_reducible refine Below.drew ?_ | with_reducible refine below_drewN ?_ _))) (by exact TasAt.mono HT.out (by repeat (first | with_reducible exact Below.refl _ _ | (with_reducible refine Below.setCell ?_ ?hs _; case hs => ((try simp); try omega)) | (with_reducible refine Below.alloc ?_ ?hs _; case hs => ((try simp); try omega)) | with_reducible refine Below.drew ?_ | with_reducible refine below_drewN ?_ _)))).mono ?_
    rintro e w3 ⟨rfl, hw3⟩
    have hw3 := hw3.symm
    subst hw3
    go_wp2_with fail
    refine (kids_any X s.tasks (some ⟨b, off, none⟩) sc1 _ _ _ (HX.out _ (by repeat (first | with_reducible exact Below.refl _ _ | (with_reducible refine Below.setCell ?_ ?hs _; case hs => ((try simp); try omega)) | (with_reducible refine Below.alloc ?_ ?hs _; case hs => ((try simp); try omega)) | with_reducible refine Below.drew ?_ | with_reducible refine below_drewN ?_ _))) (by exact TasAt.mono HT.out (by repeat (first | with_reducible exact Below.refl _ _ | (with_reducible refine Below.setCell ?_ ?hs _; case hs => ((try simp); try omega)) | (with_reducible refine Below.alloc ?_ ?hs _; case hs => ((try simp); try omega)) | with_reducible refine Below.drew ?_ | with_reducible refine below_drewN ?_ _)))).mono ?_
    rintro e w3 ⟨rfl, hw3⟩
    have hw3 := hw3.symm
    subst hw3
    go_wp2_with fail
    (try go_quiet (fail))
    (try go_wp2_with fail)
    go_ret
    exact ⟨by rw [HF.out]; rfl, (by repeat (first | with_reducible exact Below.refl _ _ | (with_reducible refine Below.setCell ?_ ?hs _; case hs => ((try simp); try omega)) | (with_reducible refine Below.alloc ?_ ?hs _; case hs => ((try simp); try omega)) | with_reducible refine Below.drew ?_ | with_reducible refine below_drewN ?_ _))⟩

set_option maxHeartbeats 4000000 in
theorem moveOf_any (p : Pr) (pa0 pa1 : Option Addr) (pc0 pc1 : Nat) (Y : Nat) (s : Sy) (b off : Nat) (sc1 i : Nat) (w : World) (hY1 : w.cell? ⟨Y, 1, none⟩ = some (.slice (some ⟨b, off, none⟩) s.tasks.length sc1)) (hY2 : w.cell? ⟨Y, 2, none⟩ = some (.int .i64 s.clock)) (hYl : Y < w.heap.size) (hi : i < s.tasks.length) :
    Calls Tryz.prog 48 #[.agg #[.slice pa0 p.cells.length pc0, .slice pa1 p.bodies.length pc1], .pointer (some ⟨Y, 0, none⟩), .int .i64 (i : Int)] w fun r w' => ∃ X, r = .returned (.pointer (some ⟨X, 0, none⟩)) ∧ MvAt w' X Y s (some ⟨b, off, none⟩) sc1 i ∧ Below w.heap.size w w' := by
  have hi' : (i : Int) < (s.tasks.length : Int) := by omega
  go_enter Tryz.func48, Tryz.ntmps48
  go_wp2_with fail
  go_region
  all_goals
    go_wp2_with fail
    go_ret
    refine ⟨w.heap.size + 1, rfl, ⟨?_, ?_, ?_, ?_, ⟨b, off, rfl, ?_⟩, ?_, ?_⟩, (by repeat (first | with_reducible exact Below.refl _ _ | (with_reducible refine Below.setCell ?_ ?hs _; case hs => ((try simp); try omega)) | (with_reducible refine Below.alloc ?_ ?hs _; case hs => ((try simp); try omega)) | with_reducible refine Below.drew ?_ | with_reducible refine below_drewN ?_ _))⟩
    · simp
    · simp; omega
    · simp [go_sem]
    · simp [go_sem]
    · simp [go_sem]
    · refine (Below.cell (B := w.heap.size) (p := ⟨Y, 1, none⟩) ?_ hYl).trans hY1
      exact (by repeat (first | with_reducible exact Below.refl _ _ | (with_reducible refine Below.setCell ?_ ?hs _; case hs => ((try simp); try omega)) | (with_reducible refine Below.alloc ?_ ?hs _; case hs => ((try simp); try omega)) | with_reducible refine Below.drew ?_ | with_reducible refine below_drewN ?_ _))
    · refine (Below.cell (B := w.heap.size) (p := ⟨Y, 2, none⟩) ?_ hYl).trans hY2
      exact (by repeat (first | with_reducible exact Below.refl _ _ | (with_reducible refine Below.setCell ?_ ?hs _; case hs => ((try simp); try omega)) | (with_reducible refine Below.alloc ?_ ?hs _; case hs => ((try simp); try omega)) | with_reducible refine Below.drew ?_ | with_reducible refine below_drewN ?_ _))

end Go.Proofs.YtdgihncobihbgaaGreat
