import Derived.Test.YtgbgjljflgbcaaaNe07
import Derived.Handy
import Derived.Test.YtgbgjljflgbcaaaNe06
import Derived.Test.YtgbgjljflgbcaaaNe04
namespace Go.Proofs.Ytgbgjljflgbcaaa
open Go.RowKit
set_option linter.unusedSimpArgs false
set_option linter.unusedVariables false
set_option maxRecDepth 20000
def rdyB (s : Sy) (i : Nat) : Bool :=
  if 200 ≤ s.clock then false
  else if (nth Ta.z s.tasks i).way = 0 then (!decide ((nth Ta.z s.tasks i).stage = 0) || decide ((nth Ta.z s.tasks i).when_ ≤ s.clock))
  else if (nth Ta.z s.tasks i).way = 1 then (decide (0 < kin s.tasks i 3) || (decide (kin s.tasks i 0 = 0) && decide (kin s.tasks i 1 = 0)))
  else false
def kq (i way : Int) (u : Ta) : Bool := decide (u.up = i) && decide (u.way = way)
theorem kin_pos {ts : List Ta} {i way : Int} {k : Nat} (hk : k < ts.length) (h : kq i way (nth Ta.z ts k) = true) : 0 < kin ts i way := by
  unfold kin
  rw [List.length_pos_iff_exists_mem]
  refine ⟨nth Ta.z ts k, ?_⟩
  rw [List.mem_filter]
  exact ⟨by rw [nth_eq Ta.z ts k hk]; exact List.getElem_mem hk, h⟩
theorem kin_zero {ts : List Ta} {i way : Int} (h : ∀ k, k < ts.length → kq i way (nth Ta.z ts k) = false) : kin ts i way = 0 := by
  unfold kin
  rw [List.length_eq_zero_iff, List.filter_eq_nil_iff]
  intro u hu
  obtain ⟨k, hk, e⟩ := List.getElem_of_mem hu
  have := h k hk
  rw [nth_eq Ta.z ts k hk, e] at this
  unfold kq at this
  simp [this]
set_option maxHeartbeats 4000000 in
theorem hasKid_any (X Y : Nat) (ts : List Ta) (sa : Option Addr) (sc : Nat) (i way : Int) (w : World) (hX1 : w.cell? ⟨X, 2, none⟩ = some (.pointer (some ⟨Y, 0, none⟩))) (hX2 : w.cell? ⟨X, 3, none⟩ = some (.int .i64 i)) (hY : w.cell? ⟨Y, 1, none⟩ = some (.slice sa ts.length sc)) (hXl : X < w.heap.size) (hYl : Y < w.heap.size) (hT : TasAt w (.slice sa ts.length sc) ts) :
    Calls Try.prog 94 #[.pointer (some ⟨X, 0, none⟩), .int .i64 way] w fun r w' => r = .returned (.bool (decide (0 < kin ts i way))) ∧ Below w.heap.size w w' := by
  obtain ⟨a, cap, e, hm, hc⟩ := hT
  injection e with e1 e2 e3
  subst e1 e3
  clear e2
  go_enter Try.func94, Try.ntmps94
  go_wp2_with fail
  go_loopw [15] (fun q w' => ∃ k : Nat, k ≤ ts.length ∧ q = .int .i64 k ∧ Below w.heap.size w w' ∧ (∀ j, j < k → kq i way (nth Ta.z ts j) = false)) (fun q _ => ts.length - (intOf q).toNat)
  case atStart => exact ⟨0, Nat.zero_le _, rfl, Below.refl _ _, fun j hj => absurd hj (Nat.not_lt_zero _)⟩
  case round =>
    obtain ⟨k, hk, rfl, hb, hall⟩ := hrel
    have HB := (show Hid (Below _ _ _) from hb)
    have hsz := hb.size
    have hXr : X < wr.heap.size := by omega
    rw [← hb.cell (p := ⟨X, 3, none⟩) hXl] at hX2
    by_cases hlt : k < ts.length
    · have hlt' : (k : Int) < (ts.length : Int) := by omega
      obtain ⟨b, off, v3, v8, v9, v10, rfl, hbw', c0, c1, c2, c3, c4, c5, c6, c7, c8, c9, c10, c11, c12, h3, h8, h9, h10⟩ := hc k hlt
      rw [← hb.cell (p := ⟨b, _, none⟩) hbw'] at c0 c1 c2 c3 c4 c5 c6 c7 c8 c9 c10 c11 c12
      have hbr : b < wr.heap.size := by omega
      obtain ⟨a3, e3', rfl, hm3⟩ := h3.shape
      obtain ⟨a8, e8', rfl, hm8⟩ := h8.shape
      obtain ⟨a9, e9', rfl, hm9⟩ := h9.shape
      obtain ⟨a10, e10', rfl, hm10⟩ := h10.shape
      clear hc h3 h8 h9 h10 hb hX1 hY
      by_cases q1 : (nth Ta.z ts k).up = i
      · have q1' : ((nth Ta.z ts k).up == i) = true := by simp [q1]
        have q1b : (i == i) = true := by simp
        by_cases q2 : (nth Ta.z ts k).way = way
        · have q2' : ((nth Ta.z ts k).way == way) = true := by simp [q2]
          have HF : Hid (decide (0 < kin ts i way) = true) := decide_eq_true (kin_pos hlt (by simp [kq, q1, q2]))
          clear q1 q2 hall
          go_wp2_with fail
          (try go_quiet (fail))
          (try go_wp2_with fail)
          go_ret
          exact ⟨by rw [HF.out]; rfl, (by repeat (first | with_reducible exact HB.out | (with_reducible refine Below.setCell ?_ ?hs _; case hs => ((try simp); try omega)) | (with_reducible refine Below.alloc ?_ ?hs _; case hs => ((try simp); try omega)) | with_reducible refine Below.drew ?_ | with_reducible refine below_drewN ?_ _))⟩
        · have q2' : ((nth Ta.z ts k).way == way) = false := by simp [q2]
          have HA : Hid (∀ j, j < k + 1 → kq i way (nth Ta.z ts j) = false) := so_far hall (by simp [kq, q2])
          clear q1 q2 hall
          go_wp2_with fail
          (try go_quiet (fail))
          (try go_wp2_with fail)
          go_roundw
          case rel => exact ⟨k + 1, by omega, by go_num, (by repeat (first | with_reducible exact HB.out | (with_reducible refine Below.setCell ?_ ?hs _; case hs => ((try simp); try omega)) | (with_reducible refine Below.alloc ?_ ?hs _; case hs => ((try simp); try omega)) | with_reducible refine Below.drew ?_ | with_reducible refine below_drewN ?_ _)), HA.out⟩
          case measure => simp [intOf]; omega
      · have q1' : ((nth Ta.z ts k).up == i) = false := by simp [q1]
        have HA : Hid (∀ j, j < k + 1 → kq i way (nth Ta.z ts j) = false) := so_far hall (by simp [kq, q1])
        clear q1 hall
        go_wp2_with fail
        (try go_quiet (fail))
        (try go_wp2_with fail)
        go_roundw
        case rel => exact ⟨k + 1, by omega, by go_num, (by repeat (first | with_reducible exact HB.out | (with_reducible refine Below.setCell ?_ ?hs _; case hs => ((try simp); try omega)) | (with_reducible refine Below.alloc ?_ ?hs _; case hs => ((try simp); try omega)) | with_reducible refine Below.drew ?_ | with_reducible refine below_drewN ?_ _)), HA.out⟩
        case measure => simp [intOf]; omega
    · have hk' : ¬ (k : Int) < (ts.length : Int) := by omega
      have HF : Hid (decide (0 < kin ts i way) = false) := decide_eq_false (by rw [kin_zero (fun j hj => hall j (by omega))]; omega)
      clear hall hc hb hX1 hY
      go_wp2_with fail
      go_ret
      exact ⟨by rw [HF.out]; rfl, HB.out⟩
def MvAt (w : World) (X Y : Nat) (s : Sy) (sa1 : Option Addr) (sc1 : Nat) (i : Nat) : Prop :=
  X < w.heap.size ∧ Y < w.heap.size ∧ w.cell? ⟨X, 2, none⟩ = some (.pointer (some ⟨Y, 0, none⟩)) ∧ w.cell? ⟨X, 3, none⟩ = some (.int .i64 (i : Int)) ∧ (∃ b off, sa1 = some ⟨b, off, none⟩ ∧ w.cell? ⟨X, 4, none⟩ = some (.pointer (some ⟨b, off + i * 13, none⟩))) ∧ w.cell? ⟨Y, 1, none⟩ = some (.slice sa1 s.tasks.length sc1) ∧ w.cell? ⟨Y, 2, none⟩ = some (.int .i64 s.clock)
theorem MvAt.mono {w w' : World} {X Y : Nat} {s : Sy} {sa1 : Option Addr} {sc1 i : Nat} (h : MvAt w X Y s sa1 sc1 i) (hb : Below w.heap.size w w') : MvAt w' X Y s sa1 sc1 i := by
  obtain ⟨h1, h2, h3, h4, ⟨b, off, h5, h6⟩, h7, h8⟩ := h
  rw [← hb.cell (p := ⟨X, _, none⟩) h1] at h3 h4 h6
  rw [← hb.cell (p := ⟨Y, _, none⟩) h2] at h7 h8
  exact ⟨Nat.lt_of_lt_of_le h1 hb.size, Nat.lt_of_lt_of_le h2 hb.size, h3, h4, ⟨b, off, h5, h6⟩, h7, h8⟩
theorem hasKid_b (X Y : Nat) (s : Sy) (sa1 : Option Addr) (sc1 i : Nat) (way : Int) {bb : Bool} (w : World) (h : MvAt w X Y s sa1 sc1 i) (hT : TasAt w (.slice sa1 s.tasks.length sc1) s.tasks) (hk : decide (0 < kin s.tasks (i : Int) way) = bb) :
    Calls Try.prog 94 #[.pointer (some ⟨X, 0, none⟩), .int .i64 way] w fun r w' => r = .returned (.bool bb) ∧ Below w.heap.size w w' := by
  subst hk; exact hasKid_any X Y s.tasks sa1 sc1 i way w h.2.2.1 h.2.2.2.1 h.2.2.2.2.2.1 h.1 h.2.1 hT
set_option maxHeartbeats 4000000 in
theorem ready_any (X Y : Nat) (s : Sy) (sa1 : Option Addr) (sc1 i : Nat) (w : World) (h : MvAt w X Y s sa1 sc1 i) (hT : TasAt w (.slice sa1 s.tasks.length sc1) s.tasks) (hi : i < s.tasks.length) :
    Calls Try.prog 44 #[.pointer (some ⟨X, 0, none⟩)] w fun r w' => r = .returned (.bool (rdyB s i)) ∧ Below w.heap.size w w' := by
  have HM := (show Hid (MvAt _ _ _ _ _ _ _) from h)
  have HT := (show Hid (TasAt _ _ _) from hT)
  obtain ⟨hXl, hYl, hX1, hX2, ⟨b', off', rfl, hX3⟩, hY1, hY2⟩ := h
  obtain ⟨a, cap, e, hm, hc⟩ := hT
  injection e with e1 e2 e3
  subst e1 e3
  obtain ⟨b, off, v3, v8, v9, v10, eb, hbw, c0, c1, c2, c3, c4, c5, c6, c7, c8, c9, c10, c11, c12, h3, h8, h9, h10⟩ := hc i hi
  injection eb with eb
  injection eb with eb1 eb2
  subst eb1 eb2
  clear hc h3 h8 h9 h10 c0 c1 c2 c3 c6 c7 c8 c9 c10 c12 e2
  by_cases q0 : 200 ≤ s.clock
  · have HF : Hid (rdyB s i = false) := by unfold Hid rdyB; rw [if_pos q0]
    go_enter Try.func44, Try.ntmps44
    go_wp2_with fail
    (try go_quiet (fail))
    (try go_wp2_with fail)
    go_ret
    exact ⟨by rw [HF.out]; rfl, (by repeat (first | with_reducible exact Below.refl _ _ | (with_reducible refine Below.setCell ?_ ?hs _; case hs => ((try simp); try omega)) | (with_reducible refine Below.alloc ?_ ?hs _; case hs => ((try simp); try omega)) | with_reducible refine Below.drew ?_ | with_reducible refine below_drewN ?_ _))⟩
  by_cases q1 : (nth Ta.z s.tasks i).way = 0
  · have q1' : ((nth Ta.z s.tasks i).way == 0) = true := by simp [q1]
    by_cases q2 : (nth Ta.z s.tasks i).stage = 0
    · have q2' : ((nth Ta.z s.tasks i).stage != 0) = false := by simp [q2]
      have q2'' : ((nth Ta.z s.tasks i).stage == 0) = true := by simp [q2]
      have HF : Hid (rdyB s i = decide ((nth Ta.z s.tasks i).when_ ≤ s.clock)) := by unfold Hid rdyB; rw [if_neg q0, if_pos q1, decide_eq_true q2]; rfl
      clear q1
      go_enter Try.func44, Try.ntmps44
      go_wp2_with fail
      (try go_quiet (fail))
      (try go_wp2_with fail)
      go_ret
      exact ⟨by rw [HF.out]; rfl, (by repeat (first | with_reducible exact Below.refl _ _ | (with_reducible refine Below.setCell ?_ ?hs _; case hs => ((try simp); try omega)) | (with_reducible refine Below.alloc ?_ ?hs _; case hs => ((try simp); try omega)) | with_reducible refine Below.drew ?_ | with_reducible refine below_drewN ?_ _))⟩
    · have q2' : ((nth Ta.z s.tasks i).stage != 0) = true := by simp [q2]
      have q2'' : ((nth Ta.z s.tasks i).stage == 0) = false := by simp [q2]
      have HF : Hid (rdyB s i = true) := by unfold Hid rdyB; rw [if_neg q0, if_pos q1, decide_eq_false q2]; rfl
      clear q1
      go_enter Try.func44, Try.ntmps44
      go_wp2_with fail
      (try go_quiet (fail))
      (try go_wp2_with fail)
      go_ret
      exact ⟨by rw [HF.out]; rfl, (by repeat (first | with_reducible exact Below.refl _ _ | (with_reducible refine Below.setCell ?_ ?hs _; case hs => ((try simp); try omega)) | (with_reducible refine Below.alloc ?_ ?hs _; case hs => ((try simp); try omega)) | with_reducible refine Below.drew ?_ | with_reducible refine below_drewN ?_ _))⟩
  have q1' : ((nth Ta.z s.tasks i).way == 0) = false := by simp [q1]
  by_cases q2 : (nth Ta.z s.tasks i).way = 1
  case neg =>
    have q2' : ((nth Ta.z s.tasks i).way == 1) = false := by simp [q2]
    have HF : Hid (rdyB s i = false) := by unfold Hid rdyB; rw [if_neg q0, if_neg q1, if_neg q2]
    go_enter Try.func44, Try.ntmps44
    go_wp2_with fail
    (try go_quiet (fail))
    (try go_wp2_with fail)
    go_ret
    exact ⟨by rw [HF.out]; rfl, (by repeat (first | with_reducible exact Below.refl _ _ | (with_reducible refine Below.setCell ?_ ?hs _; case hs => ((try simp); try omega)) | (with_reducible refine Below.alloc ?_ ?hs _; case hs => ((try simp); try omega)) | with_reducible refine Below.drew ?_ | with_reducible refine below_drewN ?_ _))⟩
  have q2' : ((nth Ta.z s.tasks i).way == 1) = true := by simp [q2]
  have HFF : Hid (rdyB s i = (decide (0 < kin s.tasks i 3) || (decide (kin s.tasks i 0 = 0) && decide (kin s.tasks i 1 = 0)))) := by unfold Hid rdyB; rw [if_neg q0, if_neg q1, if_pos q2]
  have HQ := (show Hid (_ = _) from q2)
  clear q2
  go_enter Try.func44, Try.ntmps44
  go_wp2_with fail
  cases d3 : decide (0 < kin s.tasks i 3)
  case true =>
    have HF : Hid (rdyB s i = true) := by unfold Hid; rw [HFF.out, d3]; rfl
    have D3 := (show Hid (_ = _) from d3)
    clear d3
    refine (hasKid_b X Y s _ _ i 3 _ HM.out HT.out D3.out).mono ?_
    rintro e w1 ⟨rfl, hb1⟩
    have HB1 := (show Hid (Below _ _ _) from hb1)
    clear hb1
    go_wp2_with fail
    go_ret
    exact ⟨by rw [HF.out]; rfl, HB1.out⟩
  have D3 := (show Hid (_ = _) from d3)
  have HF3 : Hid (rdyB s i = (decide (kin s.tasks i 0 = 0) && decide (kin s.tasks i 1 = 0))) := by unfold Hid; rw [HFF.out, d3]; rfl
  clear d3 HFF
  refine (hasKid_b X Y s _ _ i 3 _ HM.out HT.out D3.out).mono ?_
  rintro e w1 ⟨rfl, hb1⟩
  have HB1 := (show Hid (Below _ _ _) from hb1)
  clear hb1
  go_wp2_with fail
  cases d0 : decide (0 < kin s.tasks i 0)
  case true =>
    have HF : Hid (rdyB s i = false) := by
      have : ¬ kin s.tasks i 0 = 0 := by have := of_decide_eq_true d0; omega
      unfold Hid; rw [HF3.out, decide_eq_false this]; rfl
    have D0 := (show Hid (_ = _) from d0)
    clear d0
    refine (hasKid_b X Y s _ _ i 0 _ (HM.out.mono HB1.out) (HT.out.mono HB1.out) D0.out).mono ?_
    rintro e w2 ⟨rfl, hb2⟩
    have HB2 := (show Hid (Below w.heap.size w w2) from below_then HB1.out HB1.out.size hb2)
    clear hb2
    go_wp2_with fail
    go_ret
    exact ⟨by rw [HF.out]; rfl, HB2.out⟩
  have D0 := (show Hid (_ = _) from d0)
  have HF0 : Hid (rdyB s i = decide (kin s.tasks i 1 = 0)) := by
    have : kin s.tasks i 0 = 0 := by have := of_decide_eq_false d0; omega
    unfold Hid; rw [HF3.out, decide_eq_true this]; rfl
  clear d0 HF3
  refine (hasKid_b X Y s _ _ i 0 _ (HM.out.mono HB1.out) (HT.out.mono HB1.out) D0.out).mono ?_
  rintro e w2 ⟨rfl, hb2⟩
  have HB2 := (show Hid (Below w.heap.size w w2) from below_then HB1.out HB1.out.size hb2)
  clear hb2
  go_wp2_with fail
  refine (hasKid_b X Y s _ _ i 1 _ (HM.out.mono HB2.out) (HT.out.mono HB2.out) rfl).mono ?_
  rintro e w3 ⟨rfl, hb3⟩
  have HB3 := (show Hid (Below w.heap.size w w3) from below_then HB2.out HB2.out.size hb3)
  clear hb3
  cases d1 : decide (0 < kin s.tasks i 1)
  · have HF : Hid (rdyB s i = true) := by unfold Hid; rw [HF0.out]; exact decide_eq_true (by have := of_decide_eq_false d1; omega)
    go_wp2_with fail
    go_ret
    exact ⟨by rw [HF.out]; rfl, HB3.out⟩
  · have HF : Hid (rdyB s i = false) := by unfold Hid; rw [HF0.out]; exact decide_eq_false (by have := of_decide_eq_true d1; omega)
    go_wp2_with fail
    go_ret
    exact ⟨by rw [HF.out]; rfl, HB3.out⟩
end Go.Proofs.Ytgbgjljflgbcaaa

namespace Go.Proofs.Ytgbgjljflgbcaaa
open Go.RowKit
set_option linter.unusedSimpArgs false
set_option linter.unusedVariables false
structure NpT (p : Pr) (i : Nat) (t : Ta) : Prop where
  body : 0 ≤ t.body ∧ t.body < p.bodies.length
  pc : 0 ≤ t.pc ∧ t.pc ≤ (acts p t).length
  regs : rgB t.regs = true
  old : rgB t.old = true
  up : (i = 0 → t.up = -1) ∧ (0 < i → 0 ≤ t.up ∧ t.up < i)
  reads : puB t.reads p.cells.length = true
  puts : puB t.puts p.cells.length = true
  st : t.stage = 0 ∨ (t.pc < (acts p t).length ∧ (nth Ac.z (acts p t) t.pc.toNat).k = 1 ∧ ((t.stage = 1 ∧ 0 ≤ t.at_ ∧ t.at_ ≤ (nth Ac.z (acts p t) t.pc.toNat).ds.length) ∨ (t.stage = 2 ∧ 0 ≤ t.at_ ∧ t.at_ < t.puts.length) ∨ (t.stage = 3 ∧ 0 < t.puts.length) ∨ (t.stage = 4 ∧ 0 ≤ t.at_ ∧ t.at_ ≤ t.reads.length ∧ 0 < t.puts.length) ∨ (t.stage = 5 ∧ 0 ≤ t.at_ ∧ t.at_ < t.puts.length)))
structure Np (p : Pr) (s : Sy) : Prop where
  ok : okB p = true
  cs : s.cells.length = p.cells.length
  n : 1 ≤ s.tasks.length
  t : ∀ i, i < s.tasks.length → NpT p i (tkN s i)
  c : ∀ j, j < s.cells.length → plB (nth Ce.z s.cells j).num 100 = true
  ck : 0 ≤ s.clock ∧ s.clock ≤ 200
theorem rgB_iff {r : List Int} : rgB r = true ↔ r.length = 3 ∧ ∀ x, x ∈ r → 0 ≤ x ∧ x < 100 := by
  simp [rgB, plB]
theorem Np.of {p : Pr} {s : Sy} (h : mSoB p s = true) : Np p s := by
  rw [← so_eq] at h
  simp only [soB, Bool.and_eq_true] at h
  obtain ⟨⟨⟨⟨h1, h2⟩, h3⟩, h4⟩, h5⟩ := h
  simp only [tksB, Bool.and_eq_true, List.all_eq_true, List.mem_range, inB_iff] at h3
  simp only [cesB, Bool.and_eq_true, decide_eq_true_eq] at h4
  obtain ⟨h4a, h4b⟩ := h4
  refine ⟨h1, h4a, by omega, fun i hi => ?_, fun j hj => ?_, (inB_iff _ _ _).1 h2⟩
  · have ht := h3.2 i hi
    simp only [tkB, tnB, cgB, Bool.and_eq_true, inB_iff, plB_iff'] at ht
    obtain ⟨⟨⟨⟨⟨⟨⟨⟨a1, a2⟩, a3⟩, a4⟩, a5⟩, a6⟩, b⟩, c⟩, ⟨d1, d2⟩, e1, e2, e3, e4, e5, e6⟩ := ht
    refine ⟨a1, a2, a3, a4, ?_, e1, e2, ?_⟩
    · unfold upfB at b
      by_cases hz : i = 0
      · simp [hz] at b ⊢; subst hz; exact b
      · rw [if_neg hz] at b
        simp only [Bool.and_eq_true, plB_iff'] at b
        exact ⟨fun e => absurd e hz, fun _ => b.1⟩
    · by_cases hst : (tkN s i).stage = 0
      · exact .inl hst
      · right
        have hk : (acN p (tkN s i)).k = 1 := by
          simp [hst] at d1; exact d1.2
        unfold acN at hk e3
        by_cases hpc : (tkN s i).pc = ((acts p (tkN s i)).length : Int)
        · rw [if_pos hpc] at hk; simp [Ac.z] at hk
        · rw [if_neg hpc] at hk e3
          refine ⟨by omega, hk, ?_⟩
          unfold atB at e3
          have hs : (tkN s i).stage = 1 ∨ (tkN s i).stage = 2 ∨ (tkN s i).stage = 3 ∨ (tkN s i).stage = 4 ∨ (tkN s i).stage = 5 := by omega
          rcases hs with q | q | q | q | q <;> simp [q, -List.length_eq_zero_iff] at e3 ⊢ <;> (try (simp only [inB_iff, plB_iff'] at e3)) <;> omega
  · revert h4b
    cases holdN s.tasks (List.replicate s.cells.length (-1)) s.tasks.length with
    | none => simp
    | some h =>
      intro h4b
      simp only [List.all_eq_true, List.mem_range] at h4b
      have := h4b j hj
      simp only [ceB, Bool.and_eq_true] at this
      exact this.1.1
theorem puB_nth {xs : List Pu} {c : Int} (h : puB xs c = true) {i : Nat} (hi : i < xs.length) : 0 ≤ (nth Pu.z xs i).c ∧ (nth Pu.z xs i).c < c ∧ 0 ≤ (nth Pu.z xs i).n ∧ (nth Pu.z xs i).n < 100 := by
  have := (puB_iff xs c).1 h i hi
  omega
theorem puB_len {xs : List Pu} {n : Nat} (h : puB xs n = true) : xs.length ≤ n := by
  have key : ∀ k, k < xs.length → (k : Int) ≤ (nth Pu.z xs k).c := by
    intro k
    induction k with
    | zero => intro hk; have := puB_nth h hk; omega
    | succ k ih =>
      intro hk
      have h1 := ih (by omega)
      have h2 := pu_lt h (i := k) (j := k + 1) (by omega) hk
      omega
  rcases Nat.eq_zero_or_pos xs.length with h0 | h0
  · omega
  · have h1 := key (xs.length - 1) (by omega)
    have h2 := puB_nth h (i := xs.length - 1) (by omega)
    omega
end Go.Proofs.Ytgbgjljflgbcaaa

namespace Go.Proofs.Ytgbgjljflgbcaaa
open Go.RowKit
set_option linter.unusedSimpArgs false
set_option linter.unusedVariables false
structure Fr (R B : Nat) (w w' : World) : Prop where
  os : w'.os = w.os
  tape : w'.tape = w.tape
  output : w'.output = w.output
  size : w.heap.size ≤ w'.heap.size
  block : ∀ k, k < B → k ≠ R → w'.heap[k]? = w.heap[k]?
theorem Fr.refl (R B : Nat) (w : World) : Fr R B w w := ⟨rfl, rfl, rfl, Nat.le_refl _, fun _ _ _ => rfl⟩
theorem Fr.trans {R B : Nat} {a b c : World} (h : Fr R B a b) (k : Fr R B b c) : Fr R B a c :=
  ⟨k.os.trans h.os, k.tape.trans h.tape, k.output.trans h.output, Nat.le_trans h.size k.size, fun i hi hR => (k.block i hi hR).trans (h.block i hi hR)⟩
theorem Fr.mono {R B B' : Nat} {w w' : World} (h : Fr R B w w') (hB : B' ≤ B) : Fr R B' w w' := ⟨h.os, h.tape, h.output, h.size, fun k hk hR => h.block k (Nat.lt_of_lt_of_le hk hB) hR⟩
theorem Fr.of_below {R B : Nat} {w w' : World} (h : Below B w w') : Fr R B w w' := ⟨h.os, h.tape, h.output, h.size, fun k hk _ => h.block k hk⟩
theorem Fr.drewN {R B : Nat} {a w : World} (h : Fr R B a w) (n : Nat) : Fr R B a (w.drewN n) := h.trans (Fr.of_below (below_drewN (Below.refl _ _) n))
theorem Fr.drew {R B : Nat} {a w : World} (h : Fr R B a w) : Fr R B a w.drew := h.trans (Fr.of_below (Below.refl _ _).drew)
theorem Fr.alloc {R B : Nat} {a w : World} (h : Fr R B a w) (hB : B ≤ w.heap.size) (o : Obj) : Fr R B a (w.alloc o) := h.trans (Fr.of_below ((Below.refl _ _).alloc hB o))
theorem Fr.setCell {R B : Nat} {a w : World} (h : Fr R B a w) {p : Addr} (hp : B ≤ p.block ∨ p.block = R) (u : Value) : Fr R B a (w.setCell p u) :=
  h.trans ⟨rfl, rfl, rfl, by simp, fun k hk hR => Below.heap_setCell w p u k (by rcases hp with h1 | h1 <;> omega)⟩
theorem Fr.grown {R B : Nat} {a w w' : World} {row : Option Nat} (h : Fr R B a w) (hg : w.grownBy w' row) (hB : B ≤ w.heap.size) (hr : ∀ k, row = some k → B ≤ k) : Fr R B a w' :=
  h.trans ⟨hg.os, hg.tape, hg.output, hg.size, fun k hk _ => hg.block k (by omega) (fun e => by have := hr k e.symm; omega)⟩
theorem Fr.below {R B : Nat} {w w' : World} (h : Fr R B w w') (hR : B ≤ R) : Below B w w' := ⟨h.os, h.tape, h.output, h.size, fun k hk => h.block k hk (by omega)⟩
theorem Fr.cell {R B : Nat} {w w' : World} (h : Fr R B w w') {b o : Nat} (hb : b < B) (hR : b ≠ R) : w'.cell? ⟨b, o, none⟩ = w.cell? ⟨b, o, none⟩ := World.cell?_of_block (w := w) (h.block b hb hR)
theorem Fr.frozen {R B : Nat} {w w' : World} (h : Fr R B w w') {b o : Nat} (hb : b < B) (hR : b ≠ R) : w'.frozen? ⟨b, o, none⟩ = w.frozen? ⟨b, o, none⟩ := World.frozen?_of_block (w := w) (h.block b hb hR)
structure RdAt (B : Nat) (w : World) (R p : Nat) : Prop where
  lt : R < B
  le : B ≤ w.heap.size
  pos : w.cell? ⟨R, 1, none⟩ = some (.int .i64 (p : Int))
  free : w.frozen? ⟨R, 1, none⟩ = false
  code : ∃ a n cap, w.cell? ⟨R, 0, none⟩ = some (.slice a n cap) ∧ n ≤ 2000 ∧ ∀ i, i < n → ∃ b off u, a = some ⟨b, off, none⟩ ∧ b < B ∧ b ≠ R ∧ 0 ≤ u ∧ u ≤ 255 ∧ w.cell? ⟨b, off + i, none⟩ = some (.int .u8 u)
theorem RdAt.below {B : Nat} {w w' : World} {R p : Nat} (h : RdAt B w R p) (hb : Below B w w') : RdAt B w' R p := by
  refine ⟨h.lt, Nat.le_trans h.le hb.size, by rw [hb.cell (p := ⟨R, 1, none⟩) h.lt]; exact h.pos, by rw [hb.frozen (p := ⟨R, 1, none⟩) h.lt]; exact h.free, ?_⟩
  obtain ⟨a, n, cap, h0, hn, hi⟩ := h.code
  refine ⟨a, n, cap, by rw [hb.cell (p := ⟨R, 0, none⟩) h.lt]; exact h0, hn, fun i hlt => ?_⟩
  obtain ⟨b, off, u, e, h1, h2, h3, h4, h5⟩ := hi i hlt
  exact ⟨b, off, u, e, h1, h2, h3, h4, by rw [hb.cell (p := ⟨b, _, none⟩) h1]; exact h5⟩
theorem RdAt.go {B : Nat} {w : World} {R p : Nat} (h : RdAt B w R p) (q : Nat) : RdAt B (w.setCell ⟨R, 1, none⟩ (.int .i64 (q : Int))) R q := by
  refine ⟨h.lt, by simpa using h.le, World.cell?_setCell_same w ⟨R, 1, none⟩ _ h.pos, by simpa using h.free, ?_⟩
  obtain ⟨a, n, cap, h0, hn, hi⟩ := h.code
  refine ⟨a, n, cap, ?_, hn, fun i hlt => ?_⟩
  · rw [World.cell?_setCell_other w ⟨R, 1, none⟩ ⟨R, 0, none⟩ _ (by intro e; injection e; omega)]; exact h0
  · obtain ⟨b, off, u, e, h1, h2, h3, h4, h5⟩ := hi i hlt
    exact ⟨b, off, u, e, h1, h2, h3, h4, by rw [World.cell?_setCell_other w ⟨R, 1, none⟩ ⟨b, _, none⟩ _ (by intro e; injection e with e1; omega)]; exact h5⟩
end Go.Proofs.Ytgbgjljflgbcaaa

namespace Go.Proofs.Ytgbgjljflgbcaaa
open Go.RowKit
set_option linter.unusedSimpArgs false
set_option linter.unusedVariables false
theorem xor_i64_nat (a b : Nat) (ha : a < 1099511627776) (hb : b < 1099511627776) : bits .xor .i64 (a : Int) (b : Int) = ((a ^^^ b : Nat) : Int) := by
  have hx : a ^^^ b < 2 ^ 40 := Nat.xor_lt_two_pow (by omega) (by omega)
  have h1 : (BitVec.ofInt 64 (a : Int)).toNat = a := by
    rw [BitVec.ofInt_natCast, BitVec.toNat_ofNat]; exact Nat.mod_eq_of_lt (by omega)
  have h2 : (BitVec.ofInt 64 (b : Int)).toNat = b := by
    rw [BitVec.ofInt_natCast, BitVec.toNat_ofNat]; exact Nat.mod_eq_of_lt (by omega)
  show IntKind.i64.wrap ((BitVec.ofInt 64 (a : Int) ^^^ BitVec.ofInt 64 (b : Int)).toNat : Int) = _
  rw [BitVec.toNat_xor, h1, h2, IntKind.wrap_i64]
  omega
theorem xor_nonneg (x : Int) (h0 : 0 ≤ x) (h1 : x ≤ 1000000000) : 0 ≤ bits .xor .i64 x (x / 64) := by
  obtain ⟨a, rfl⟩ := Int.eq_ofNat_of_zero_le h0
  have d : ((a : Int) / 64) = ((a / 64 : Nat) : Int) := by omega
  rw [d, xor_i64_nat a (a / 64) (by omega) (by omega)]
  omega
set_option maxHeartbeats 1000000 in
theorem pick_any (B R p : Nat) (n : Int) (w : World) (h : RdAt B w R p) (hp : p ≤ 1000000) (hn : 1 ≤ n) (hn2 : n ≤ 1000000) :
    Calls Try.prog 48 #[.pointer (some ⟨R, 0, none⟩), .int .i64 n] w fun e w' => ∃ q : Int, e = .returned (.int .i64 q) ∧ 0 ≤ q ∧ q < n ∧ RdAt B w' R (p + 1) ∧ Fr R w.heap.size w w' := by
  obtain ⟨a, m, cap, h0, hm, hi⟩ := h.code
  have hpos := h.pos
  have hfree := h.free
  have hn1 : decide (n < 1) = false := by simp; omega
  have HG : Hid (RdAt B (w.setCell ⟨R, 1, none⟩ (.int .i64 ((p : Int) + 1))) R (p + 1)) := by
    have := h.go (p + 1)
    rwa [show ((p + 1 : Nat) : Int) = (p : Int) + 1 from by omega] at this
  have HF : Hid (Fr R w.heap.size w (w.setCell ⟨R, 1, none⟩ (.int .i64 ((p : Int) + 1)))) := (Fr.refl R w.heap.size w).setCell (p := ⟨R, 1, none⟩) (.inr rfl) _
  clear h
  by_cases hm0 : m = 0
  · subst hm0
    clear hi
    go_enter Try.func48, Try.ntmps48
    go_wp2_with fail
    go_ret
    exact ⟨0, rfl, by omega, by omega, HG.out, HF.out⟩
  have g0 : ((m : Int) == 0) = false := by simp; omega
  by_cases hpm : p < m
  · obtain ⟨b, off, u, rfl, hb, hbR, u0, u1, c0⟩ := hi p hpm
    have c1 : (w.setCell ⟨R, 1, none⟩ (.int .i64 ((p : Int) + 1))).cell? ⟨b, off + p, none⟩ = some (.int .u8 u) := by rw [World.cell?_setCell_other w ⟨R, 1, none⟩ ⟨b, _, none⟩ _ (by intro e; injection e with e1; omega)]; exact c0
    clear hi
    go_enter Try.func48, Try.ntmps48
    go_wp2_with fail
    go_ret
    exact ⟨_, rfl, Int.emod_nonneg _ (by omega), Int.emod_lt_of_pos _ (by omega), HG.out, HF.out⟩
  · have hk1 : p % m < m := Nat.mod_lt _ (by omega)
    have hk2 : (p * 7 + 3) % m < m := Nat.mod_lt _ (by omega)
    obtain ⟨b, off, u, rfl, hb, hbR, u0, u1, c0⟩ := hi (p % m) hk1
    obtain ⟨b', off', u', e', hb', hbR', u0', u1', c0'⟩ := hi ((p * 7 + 3) % m) hk2
    simp at e'
    obtain ⟨rfl, rfl⟩ := e'
    have c1 : (w.setCell ⟨R, 1, none⟩ (.int .i64 ((p : Int) + 1))).cell? ⟨b, off + p % m, none⟩ = some (.int .u8 u) := by rw [World.cell?_setCell_other w ⟨R, 1, none⟩ ⟨b, _, none⟩ _ (by intro e; injection e with e1; omega)]; exact c0
    have c2 : (w.setCell ⟨R, 1, none⟩ (.int .i64 ((p : Int) + 1))).cell? ⟨b, off + (p * 7 + 3) % m, none⟩ = some (.int .u8 u') := by rw [World.cell?_setCell_other w ⟨R, 1, none⟩ ⟨b, _, none⟩ _ (by intro e; injection e with e1; omega)]; exact c0'
    have q1 : 0 ≤ (p : Int) % (m : Int) := Int.emod_nonneg _ (by omega)
    have q2 : (p : Int) % (m : Int) < (m : Int) := Int.emod_lt_of_pos _ (by omega)
    have q3 : 0 ≤ ((p : Int) * 7 + 3) % (m : Int) := Int.emod_nonneg _ (by omega)
    have q4 : ((p : Int) * 7 + 3) % (m : Int) < (m : Int) := Int.emod_lt_of_pos _ (by omega)
    have q5 : 0 ≤ (p : Int) / (m : Int) := Int.ediv_nonneg (by omega) (by omega)
    have q6 : (p : Int) / (m : Int) ≤ 1000000 := Int.le_trans (Int.ediv_le_self _ (by omega)) (by omega)
    have t1 : ((p : Int) % (m : Int)).toNat = p % m := by omega
    have t2 : (((p : Int) * 7 + 3) % (m : Int)).toNat = (p * 7 + 3) % m := by
      have : ((p : Int) * 7 + 3) % (m : Int) = (((p * 7 + 3) % m : Nat) : Int) := by push_cast; rfl
      rw [this]; exact Int.toNat_natCast _
    clear hi c0 c0'
    go_enter Try.func48, Try.ntmps48
    go_wp2_with fail
    have HX : Hid (0 ≤ bits .xor .i64 (u * 131 + u' * 1117 + (p : Int) * 29 + (p : Int) / (m : Int) * 53) ((u * 131 + u' * 1117 + (p : Int) * 29 + (p : Int) / (m : Int) * 53) / 64)) := xor_nonneg _ (by omega) (by omega)
    go_quiet (fail)
    go_wp2_with fail
    go_ret
    exact ⟨_, rfl, Int.tmod_nonneg _ HX.out, Int.tmod_lt_of_pos _ (by omega), HG.out.below (below_drewN (Below.refl _ _) _), HF.out.drewN _⟩
end Go.Proofs.Ytgbgjljflgbcaaa
