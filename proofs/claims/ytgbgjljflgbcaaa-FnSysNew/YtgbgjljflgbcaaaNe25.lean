import Derived.Test.YtgbgjljflgbcaaaNe07
namespace Go.Proofs.Ytgbgjljflgbcaaa
open Go.RowKit
set_option linter.unusedSimpArgs false
set_option linter.unusedVariables false
set_option maxRecDepth 20000
set_option maxHeartbeats 400000 in
theorem isLive_v (t : Ta) (b : Bool) (hb : liB t = b) (x0 x1 x2 x5 x6 x7 x11 x12 : Int) (n3 n8 n9 n10 : Nat) (a3 a8 a9 a10 : Option Addr) (c3 c8 c9 c10 : Nat) (w : World) :
    Calls Try.prog 46 #[.agg #[.int .i64 x0, .int .i64 x1, .int .i64 x2, .slice a3 n3 c3, .int .i64 t.way, .int .i64 x5, .int .i64 x6, .int .i64 x7, .slice a8 n8 c8, .slice a9 n9 c9, .slice a10 n10 c10, .int .i64 x11, .int .i64 x12]] w fun r w' => r = .returned (.bool b) ∧ Below w.heap.size w w' := by
  subst hb
  by_cases h1 : t.way = 0
  · have HF : Hid (liB t = true) := by simp [Hid, liB, h1]
    have h1' : (t.way == 0) = true := by simp [h1]
    go_enter Try.func46, Try.ntmps46
    go_wp2_with fail
    go_ret
    exact ⟨by rw [HF.out]; rfl, (by repeat (first | with_reducible exact Below.refl _ _ | (with_reducible refine Below.setCell ?_ ?hs _; case hs => ((try simp); try omega)) | (with_reducible refine Below.alloc ?_ ?hs _; case hs => ((try simp); try omega)) | with_reducible refine Below.drew ?_))⟩
  · have HF : Hid (liB t = decide (t.way = 1)) := by simp [Hid, liB, h1]
    have h1' : (t.way == 0) = false := by simp [h1]
    go_enter Try.func46, Try.ntmps46
    go_wp2_with fail
    go_ret
    exact ⟨by rw [HF.out]; rfl, (by repeat (first | with_reducible exact Below.refl _ _ | (with_reducible refine Below.setCell ?_ ?hs _; case hs => ((try simp); try omega)) | (with_reducible refine Below.alloc ?_ ?hs _; case hs => ((try simp); try omega)) | with_reducible refine Below.drew ?_))⟩
set_option maxHeartbeats 2000000 in
theorem upInForm_any (s : Sy) (sa0 sa1 sa3 : Option Addr) (sc0 sc1 sc3 : Nat) (i : Nat) (w : World) (hT : TasAt w (.slice sa1 s.tasks.length sc1) s.tasks) (hi : i < s.tasks.length) :
    Calls Try.prog 89 #[.agg #[.slice sa0 s.cells.length sc0, .slice sa1 s.tasks.length sc1, .int .i64 s.clock, .slice sa3 s.log.length sc3], .int .i64 (i : Int)] w fun r w' => r = .returned (.bool (upfB s i)) ∧ Below w.heap.size w w' := by
  obtain ⟨a, cap, e, hm, hc⟩ := hT
  injection e with e1 e2 e3
  subst e1 e3
  have hi' : (i : Int) < (s.tasks.length : Int) := by omega
  obtain ⟨b, off, v3, v8, v9, v10, rfl, hbw, c0, c1, c2, c3, c4, c5, c6, c7, c8, c9, c10, c11, c12, h3, h8, h9, h10⟩ := hc i hi
  obtain ⟨a3, e3, rfl, _⟩ := h3.shape
  obtain ⟨a8, e8, rfl, _⟩ := h8.shape
  obtain ⟨a9, e9, rfl, _⟩ := h9.shape
  obtain ⟨a10, e10, rfl, _⟩ := h10.shape
  clear h3 h8 h9 h10
  have hbw1 : b < w.heap.size + 1 := by omega
  by_cases hz : i = 0
  · have HF : Hid (upfB s i = decide ((nth Ta.z s.tasks i).up = -1)) := by unfold Hid upfB; rw [if_pos hz]; rfl
    have hz' : ((i : Int) == 0) = true := by simp [hz]
    clear hz hc
    go_enter Try.func89, Try.ntmps89
    go_wp2_with fail
    go_ret
    exact ⟨by rw [HF.out]; rfl, (by repeat (first | with_reducible exact Below.refl _ _ | (with_reducible refine Below.setCell ?_ ?hs _; case hs => ((try simp); try omega)) | (with_reducible refine Below.alloc ?_ ?hs _; case hs => ((try simp); try omega)) | with_reducible refine Below.drew ?_))⟩
  have hz' : ((i : Int) == 0) = false := by simp [hz]
  have hz2 : ¬ (i : Int) = 0 := by omega
  cases g1 : plB (nth Ta.z s.tasks i).up i
  · have HF : Hid (upfB s i = false) := by unfold Hid upfB tkN; rw [if_neg hz, g1]; rfl
    have G1 := (show Hid (_ = _) from g1)
    clear hz hc g1
    go_enter Try.func89, Try.ntmps89
    go_wp2_with (go_at_call 45; refine (isPlace_b G1.out _).mono ?_; rintro e w' ⟨rfl, hw⟩; have hw := hw.symm; subst hw)
    go_ret
    exact ⟨by rw [HF.out]; rfl, (by repeat (first | with_reducible exact Below.refl _ _ | (with_reducible refine Below.setCell ?_ ?hs _; case hs => ((try simp); try omega)) | (with_reducible refine Below.alloc ?_ ?hs _; case hs => ((try simp); try omega)) | with_reducible refine Below.drew ?_))⟩
  obtain ⟨un, hun⟩ : ∃ un : Nat, (nth Ta.z s.tasks i).up = (un : Int) := ⟨(nth Ta.z s.tasks i).up.toNat, by rw [plB] at g1; simp at g1; omega⟩
  have hui : un < s.tasks.length := by rw [plB] at g1; simp at g1; omega
  have hui' : (un : Int) < (s.tasks.length : Int) := by omega
  have g1' : plB (un : Int) i = true := by rw [← hun]; exact g1
  have G1 := (show Hid (_ = _) from g1')
  clear g1'
  cases g2 : liB (nth Ta.z s.tasks i)
  · have HF : Hid (upfB s i = true) := by unfold Hid upfB tkN; rw [if_neg hz, g1, g2]; rfl
    have G2 := (show Hid (_ = _) from g2)
    clear hz hc g1 g2
    go_enter Try.func89, Try.ntmps89
    go_wp2_with (first | (go_at_call 45; refine (isPlace_b G1.out _).mono ?_; rintro e w' ⟨rfl, hw⟩; have hw := hw.symm; subst hw) | (go_at_call 46; refine (isLive_v (nth Ta.z s.tasks i) _ G2.out _ _ _ _ _ _ _ _ _ _ _ _ _ _ _ _ _ _ _ _ _).mono ?_; rintro e w1 ⟨rfl, hb1⟩; have HB : Hid (Below w.heap.size w w1) := below_then (by repeat (first | with_reducible exact Below.refl _ _ | (with_reducible refine Below.setCell ?_ ?hs _; case hs => ((try simp); try omega)) | (with_reducible refine Below.alloc ?_ ?hs _; case hs => ((try simp); try omega)) | with_reducible refine Below.drew ?_)) (by (try simp); try omega) hb1; clear hb1))
    go_ret
    exact ⟨by rw [HF.out]; rfl, HB.out⟩
  · obtain ⟨b', off', u3, u8, u9, u10, e', hbw', d0, d1, d2, d3, d4, _⟩ := hc un hui
    injection e' with e2; injection e2 with e5 e6; subst e5 e6
    have HF : Hid (upfB s i = decide ((nth Ta.z s.tasks un).way = 1)) := by unfold Hid upfB tkN; rw [if_neg hz, g1, g2, hun]; rfl
    have G2 := (show Hid (_ = _) from g2)
    clear hz hc g1 g2 d0 d1 d2 d3
    go_enter Try.func89, Try.ntmps89
    go_wp2_with (first | (go_at_call 45; refine (isPlace_b G1.out _).mono ?_; rintro e w' ⟨rfl, hw⟩; have hw := hw.symm; subst hw) | (go_at_call 46; refine (isLive_v (nth Ta.z s.tasks i) _ G2.out _ _ _ _ _ _ _ _ _ _ _ _ _ _ _ _ _ _ _ _ _).mono ?_; rintro e w1 ⟨rfl, hb1⟩; have HB : Hid (Below w.heap.size w w1) := below_then (by repeat (first | with_reducible exact Below.refl _ _ | (with_reducible refine Below.setCell ?_ ?hs _; case hs => ((try simp); try omega)) | (with_reducible refine Below.alloc ?_ ?hs _; case hs => ((try simp); try omega)) | with_reducible refine Below.drew ?_)) (by (try simp); try omega) hb1; obtain ⟨hq1, hq2⟩ := bcell hb1; have s1 : w.heap.size < w1.heap.size := (by have := hb1.size; (try simp at this); omega); have s2 : w.heap.size + 1 < w1.heap.size := (by have := hb1.size; (try simp at this); omega); clear hb1))
    go_ret
    exact ⟨by rw [HF.out]; rfl, HB.out⟩
end Go.Proofs.Ytgbgjljflgbcaaa

namespace Go.Proofs.Ytgbgjljflgbcaaa
open Go.RowKit
set_option linter.unusedSimpArgs false
set_option linter.unusedVariables false
set_option maxRecDepth 20000
set_option maxHeartbeats 4000000 in
theorem wayInForm_any (p : Pr) (pa0 pa1 : Option Addr) (pc0 pc1 : Nat) (s : Sy) (sa0 sa1 sa3 : Option Addr) (sc0 sc1 sc3 : Nat) (i bn pn : Nat) (w : World) (hp : PrAt w (.slice pa0 p.cells.length pc0) (.slice pa1 p.bodies.length pc1) p) (hT : TasAt w (.slice sa1 s.tasks.length sc1) s.tasks) (hi : i < s.tasks.length) (hb : (nth Ta.z s.tasks i).body = (bn : Int)) (hbn : bn < p.bodies.length) (hpc : (nth Ta.z s.tasks i).pc = (pn : Int)) (hpn : pn ≤ (nth [] p.bodies bn).length) :
    Calls Try.prog 90 #[.agg #[.slice pa0 p.cells.length pc0, .slice pa1 p.bodies.length pc1], .agg #[.slice sa0 s.cells.length sc0, .slice sa1 s.tasks.length sc1, .int .i64 s.clock, .slice sa3 s.log.length sc3], .int .i64 (i : Int)] w fun r w' => r = .returned (.bool (wyB p s i)) ∧ Below w.heap.size w w' := by
  obtain ⟨a, cap, e, hm, hc⟩ := id hT
  injection e with e1 e2 e3
  subst e1 e3
  have hi' : (i : Int) < (s.tasks.length : Int) := by omega
  obtain ⟨b, off, v3, v8, v9, v10, rfl, hbw, c0, c1, c2, c3, c4, c5, c6, c7, c8, c9, c10, c11, c12, h3, h8, h9, h10⟩ := hc i hi
  obtain ⟨a3, e3, rfl, _⟩ := h3.shape
  obtain ⟨a8, e8, rfl, _⟩ := h8.shape
  obtain ⟨a9, e9, rfl, _⟩ := h9.shape
  obtain ⟨a10, e10, rfl, _⟩ := h10.shape
  have HT := (show Hid (TasAt _ _ _) from hT)
  clear h3 h8 h9 h10 hc hT
  have hbw1 : b < w.heap.size + 1 := by omega
  have hbw2 : b < w.heap.size + 1 + 1 := by omega
  have HP := (show Hid (PrAt _ _ _ _) from hp)
  have HB0 := (show Hid (_ = _) from hb)
  have HC0 := (show Hid (_ = _) from hpc)
  by_cases q1 : (nth Ta.z s.tasks i).way = 1
  · have q1' : ((nth Ta.z s.tasks i).way == 1) = true := by simp [q1]
    clear hp hb hpc
    by_cases q2 : (acN p (nth Ta.z s.tasks i)).k = 2
    · have HF : Hid (wyB p s i = decide ((acN p (nth Ta.z s.tasks i)).ks.length ≤ kno s.tasks i)) := by unfold Hid wyB tkN; rw [if_pos q1]; simp [q2]
      have q2' : ((acN p (nth Ta.z s.tasks i)).k == 2) = true := by simp [q2]
      have Q2 := (show Hid (_ = _) from q2)
      clear q2
      go_enter Try.func90, Try.ntmps90
      go_wp2_with fail
      refine (actNext_v p _ _ _ _ (nth Ta.z s.tasks i) _ _ _ _ _ _ _ _ _ _ _ _ _ _ _ _ _ _ _ _ _ bn pn _ (by exact PrAt.mono HP.out (by repeat (first | with_reducible exact Below.refl _ _ | (with_reducible refine Below.setCell ?_ ?hs _; case hs => ((try simp); try omega)) | (with_reducible refine Below.alloc ?_ ?hs _; case hs => ((try simp); try omega)) | with_reducible refine Below.drew ?_))) HB0.out hbn HC0.out hpn HB0.out HC0.out).mono ?_
      rintro e w1 ⟨ad, cd, ak, ck, rfl, hb1⟩
      have HB : Hid (Below w.heap.size w w1) := below_then (by repeat (first | with_reducible exact Below.refl _ _ | (with_reducible refine Below.setCell ?_ ?hs _; case hs => ((try simp); try omega)) | (with_reducible refine Below.alloc ?_ ?hs _; case hs => ((try simp); try omega)) | with_reducible refine Below.drew ?_)) (by (try simp); try omega) hb1
      obtain ⟨hq1, hq2⟩ := bcell hb1
      have s1 : w.heap.size < w1.heap.size := by have := hb1.size; (try simp at this); omega
      have s2 : w.heap.size + 1 < w1.heap.size := by have := hb1.size; (try simp at this); omega
      have s3 : w.heap.size + 1 + 1 < w1.heap.size := by have := hb1.size; (try simp at this); omega
      have hsz := HB.out.size
      have HT1 : Hid (∀ o, TasAt (w1.alloc o).drew _ _) := fun o => TasAt.mono HT.out ((HB.out.alloc hsz o).drew)
      clear hb1 hq2
      go_wp2_with fail
      go_region_with (go_at_call 125; refine (kidsNotOff_any s _ _ _ _ _ _ _ (HT1.out _)).mono ?_; rintro e w2 ⟨rfl, hb2⟩; have HB2 : Hid (Below w.heap.size w w2) := below_then (by exact (HB.out.alloc hsz _).drew) (by (try simp); try omega) hb2; obtain ⟨hr1, hr2⟩ := bcell hb2; clear hb2 hr2)
      all_goals
        go_wp2_with fail
        go_ret
        exact ⟨by rw [HF.out]; rfl, HB2.out⟩
    · have HF : Hid (wyB p s i = false) := by unfold Hid wyB tkN; rw [if_pos q1]; simp [q2]
      have q2' : ((acN p (nth Ta.z s.tasks i)).k == 2) = false := by simp [q2]
      go_enter Try.func90, Try.ntmps90
      go_wp2_with fail
      refine (actNext_v p _ _ _ _ (nth Ta.z s.tasks i) _ _ _ _ _ _ _ _ _ _ _ _ _ _ _ _ _ _ _ _ _ bn pn _ (by exact PrAt.mono HP.out (by repeat (first | with_reducible exact Below.refl _ _ | (with_reducible refine Below.setCell ?_ ?hs _; case hs => ((try simp); try omega)) | (with_reducible refine Below.alloc ?_ ?hs _; case hs => ((try simp); try omega)) | with_reducible refine Below.drew ?_))) HB0.out hbn HC0.out hpn HB0.out HC0.out).mono ?_
      rintro e w1 ⟨ad, cd, ak, ck, rfl, hb1⟩
      have HB : Hid (Below w.heap.size w w1) := below_then (by repeat (first | with_reducible exact Below.refl _ _ | (with_reducible refine Below.setCell ?_ ?hs _; case hs => ((try simp); try omega)) | (with_reducible refine Below.alloc ?_ ?hs _; case hs => ((try simp); try omega)) | with_reducible refine Below.drew ?_)) (by (try simp); try omega) hb1
      have hsz := HB.out.size
      clear hb1
      go_wp2_with fail
      go_quiet (fail)
      go_wp2_with fail
      go_ret
      exact ⟨by rw [HF.out]; rfl, (by repeat (first | with_reducible exact HB.out | (with_reducible refine Below.setCell ?_ ?hs _; case hs => ((try simp); try omega)) | (with_reducible refine Below.alloc ?_ ?hs _; case hs => ((try simp); try omega)) | with_reducible refine Below.drew ?_ | with_reducible refine below_drewN ?_ _))⟩
  have q1' : ((nth Ta.z s.tasks i).way == 1) = false := by simp [q1]
  by_cases q2 : (nth Ta.z s.tasks i).way = 2
  · have q2' : ((nth Ta.z s.tasks i).way == 2) = true := by simp [q2]
    obtain ⟨pa, pcap, pe, phm, phc⟩ := hp.2
    injection pe with pe1 pe2 pe3
    subst pe1 pe3
    obtain ⟨b2, off2, av, rfl, hbx, d0, ha⟩ := phc bn hbn
    obtain ⟨aa, ac, rfl, hma, _⟩ := ha
    have hbx1 : b2 < w.heap.size + 1 := by omega
    have hbx2 : b2 < w.heap.size + 1 + 1 := by omega
    have hbl : (bn : Int) < (p.bodies.length : Int) := by omega
    have hA : acts p (nth Ta.z s.tasks i) = nth [] p.bodies bn := by unfold acts; rw [hb]; rfl
    have HF : Hid (wyB p s i = ((pn : Int) == ((nth [] p.bodies bn).length : Int))) := by
      unfold Hid wyB tkN; rw [if_neg q1, if_pos q2, hA, hpc]; rfl
    clear phc hA hp HP q1
    go_enter Try.func90, Try.ntmps90
    go_wp2_with fail
    go_quiet (fail)
    go_wp2_with fail
    go_ret
    exact ⟨by rw [HF.out]; rfl, (by repeat (first | with_reducible exact Below.refl _ _ | (with_reducible refine Below.setCell ?_ ?hs _; case hs => ((try simp); try omega)) | (with_reducible refine Below.alloc ?_ ?hs _; case hs => ((try simp); try omega)) | with_reducible refine Below.drew ?_ | with_reducible refine below_drewN ?_ _))⟩
  · have q2' : ((nth Ta.z s.tasks i).way == 2) = false := by simp [q2]
    have HF : Hid (wyB p s i = true) := by unfold Hid wyB tkN; rw [if_neg q1, if_neg q2]
    clear hp HP
    go_enter Try.func90, Try.ntmps90
    go_wp2_with fail
    go_ret
    exact ⟨by rw [HF.out]; rfl, (by repeat (first | with_reducible exact Below.refl _ _ | (with_reducible refine Below.setCell ?_ ?hs _; case hs => ((try simp); try omega)) | (with_reducible refine Below.alloc ?_ ?hs _; case hs => ((try simp); try omega)) | with_reducible refine Below.drew ?_))⟩
end Go.Proofs.Ytgbgjljflgbcaaa
