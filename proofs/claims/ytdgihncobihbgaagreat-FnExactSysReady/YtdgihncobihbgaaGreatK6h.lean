/-
  Tasks in form: the model: l12Act, of one that waits (by mky.py).
-/
import Derived.Test.YtdgihncobihbgaaGreatK6f
namespace Go.Proofs.YtdgihncobihbgaaGreat
open Go.RowKit
set_option linter.unusedSimpArgs false
set_option linter.unusedVariables false
set_option maxRecDepth 20000

set_option maxHeartbeats 8000000 in
theorem l12Act_waits (p : Pr) (pa0 pa1 : Option Addr) (pc0 pc1 : Nat) (s : Sy) (sa0 sa1 sa3 : Option Addr) (sc0 sc1 sc3 : Nat) (i bn pn : Nat) (w : World) (hp : PrAt w (.slice pa0 p.cells.length pc0) (.slice pa1 p.bodies.length pc1) p) (hT : TasAt w (.slice sa1 s.tasks.length sc1) s.tasks) (hi : i < s.tasks.length) (hb : (nth Ta.z s.tasks i).body = (bn : Int)) (hbn : bn < p.bodies.length) (hpc : (nth Ta.z s.tasks i).pc = (pn : Int)) (hpn : pn ≤ (nth [] p.bodies bn).length) (hw1 : (nth Ta.z s.tasks i).way = 1) (hn7 : s.tasks.length ≤ 7) :
    Calls Tryz.prog 63 #[.agg #[.slice pa0 p.cells.length pc0, .slice pa1 p.bodies.length pc1], .agg #[.slice sa0 s.cells.length sc0, .slice sa1 s.tasks.length sc1, .int .i64 s.clock, .slice sa3 s.log.length sc3], .int .i64 (i : Int)] w fun r w' => r = .returned (.bool (mActB p s i)) ∧ Below w.heap.size w w' := by
  obtain ⟨a, cap, e, hm, hc⟩ := id hT
  injection e with e1 e2 e3
  subst e1 e3
  have hi' : (i : Int) < (s.tasks.length : Int) := by omega
  obtain ⟨b, off, v3, v8, v9, v10, rfl, hbw, c0, c1, c2, c3, c4, c5, c6, c7, c8, c9, c10, c11, c12, h3, h8, h9, h10⟩ := hc i hi
  obtain ⟨a3, e3, rfl, _⟩ := h3.shape
  obtain ⟨a8, e8, rfl, _⟩ := h8.shape
  obtain ⟨a9, e9, rfl, _⟩ := h9.shape
  obtain ⟨a10, e10, rfl, _⟩ := h10.shape
  have HT := (show Hid (TasAt _ _ _) from hT)
  clear h3 h8 h9 h10 hc hT
  have hbw1 : b < w.heap.size + 1 := by omega
  have hbw2 : b < w.heap.size + 1 + 1 := by omega
  obtain ⟨pa, pcap, pe, phm, phc⟩ := hp.2
  injection pe with pe1 pe2 pe3
  subst pe1 pe3
  obtain ⟨b2, off2, av, rfl, hbx, d0, ha⟩ := phc bn hbn
  obtain ⟨aa, ac, rfl, hma, hac⟩ := ha
  have hbx1 : b2 < w.heap.size + 1 := by omega
  have hbx2 : b2 < w.heap.size + 1 + 1 := by omega
  have hbx3 : b2 < w.heap.size + 1 + 1 + 1 := by omega
  have hbw3 : b < w.heap.size + 1 + 1 + 1 := by omega
  have hbl : (bn : Int) < (p.bodies.length : Int) := by omega
  have hA : acts p (nth Ta.z s.tasks i) = nth [] p.bodies bn := by unfold acts; rw [hb]; rfl
  have q0 : ((nth Ta.z s.tasks i).way == 0) = false := by simp [hw1]
  have q1 : ((nth Ta.z s.tasks i).way == 1) = true := by simp [hw1]
  have hw0 : ¬ (nth Ta.z s.tasks i).way = 0 := by omega
  have HFF : Hid (mActB p s i = (decide (pn < (nth [] p.bodies bn).length) && decide ((nth Ac.z (nth [] p.bodies bn) pn).k = 2) && decide ((nth Ac.z (nth [] p.bodies bn) pn).ks.length ≤ kin s.tasks i 0 + kin s.tasks i 1 + kin s.tasks i 2 + kin s.tasks i 3))) := by
    unfold Hid mActB tkN; rw [if_neg hw0, if_pos hw1, hA, hpc, Int.toNat_natCast]
    congr 2
    exact decide_eq_decide.2 (by omega)
  have K0 := kin_le s.tasks i 0
  have K1 := kin_le s.tasks i 1
  have K2 := kin_le s.tasks i 2
  have K3 := kin_le s.tasks i 3
  have W1 : IntKind.i64.wrap ((kin s.tasks i 0 : Int) + (kin s.tasks i 1 : Int)) = (kin s.tasks i 0 : Int) + (kin s.tasks i 1 : Int) := by rw [IntKind.wrap_i64]; omega
  have W2 : IntKind.i64.wrap ((kin s.tasks i 0 : Int) + (kin s.tasks i 1 : Int) + (kin s.tasks i 2 : Int)) = (kin s.tasks i 0 : Int) + (kin s.tasks i 1 : Int) + (kin s.tasks i 2 : Int) := by rw [IntKind.wrap_i64]; omega
  have W3 : IntKind.i64.wrap ((kin s.tasks i 0 : Int) + (kin s.tasks i 1 : Int) + (kin s.tasks i 2 : Int) + (kin s.tasks i 3 : Int)) = (kin s.tasks i 0 : Int) + (kin s.tasks i 1 : Int) + (kin s.tasks i 2 : Int) + (kin s.tasks i 3 : Int) := by rw [IntKind.wrap_i64]; omega
  have HW1 := (show Hid (_ = _) from hw1)
  clear phc hA hp hw0 hw1
  by_cases q2 : pn < (nth [] p.bodies bn).length
  case neg =>
    have q2' : ¬ (pn : Int) < ((nth [] p.bodies bn).length : Int) := by omega
    have HF : Hid (mActB p s i = false) := by unfold Hid; rw [HFF.out, decide_eq_false q2]; rfl
    clear hac K0 K1 K2 K3
    go_enter Tryz.func63, Tryz.ntmps63
    go_wp2_with fail
    refine (kids_any (w.heap.size + 1 + 1 + 1) s.tasks (some ⟨b, off, none⟩) sc1 _ _ _ ?h1 ?h2).mono ?_
    case h1 => first | (simp; done) | (simp [go_sem]; done)
    case h2 => exact TasAt.mono HT.out (by repeat (first | with_reducible exact Below.refl _ _ | (with_reducible refine Below.setCell ?_ ?hs _; case hs => ((try simp); try omega)) | (with_reducible refine Below.alloc ?_ ?hs _; case hs => ((try simp); try omega)) | with_reducible refine Below.drew ?_ | with_reducible refine below_drewN ?_ _))
    rintro e w3 ⟨rfl, hw3⟩
    have hw3 := hw3.symm
    subst hw3
    go_wp2_with fail
    refine (kids_any (w.heap.size + 1 + 1 + 1) s.tasks (some ⟨b, off, none⟩) sc1 _ _ _ ?h1 ?h2).mono ?_
    case h1 => first | (simp; done) | (simp [go_sem]; done)
    case h2 => exact TasAt.mono HT.out (by repeat (first | with_reducible exact Below.refl _ _ | (with_reducible refine Below.setCell ?_ ?hs _; case hs => ((try simp); try omega)) | (with_reducible refine Below.alloc ?_ ?hs _; case hs => ((try simp); try omega)) | with_reducible refine Below.drew ?_ | with_reducible refine below_drewN ?_ _))
    rintro e w3 ⟨rfl, hw3⟩
    have hw3 := hw3.symm
    subst hw3
    go_wp2_with fail
    refine (kids_any (w.heap.size + 1 + 1 + 1) s.tasks (some ⟨b, off, none⟩) sc1 _ _ _ ?h1 ?h2).mono ?_
    case h1 => first | (simp; done) | (simp [go_sem]; done)
    case h2 => exact TasAt.mono HT.out (by repeat (first | with_reducible exact Below.refl _ _ | (with_reducible refine Below.setCell ?_ ?hs _; case hs => ((try simp); try omega)) | (with_reducible refine Below.alloc ?_ ?hs _; case hs => ((try simp); try omega)) | with_reducible refine Below.drew ?_ | with_reducible refine below_drewN ?_ _))
    rintro e w3 ⟨rfl, hw3⟩
    have hw3 := hw3.symm
    subst hw3
    go_wp2_with fail
    refine (kids_any (w.heap.size + 1 + 1 + 1) s.tasks (some ⟨b, off, none⟩) sc1 _ _ _ ?h1 ?h2).mono ?_
    case h1 => first | (simp; done) | (simp [go_sem]; done)
    case h2 => exact TasAt.mono HT.out (by repeat (first | with_reducible exact Below.refl _ _ | (with_reducible refine Below.setCell ?_ ?hs _; case hs => ((try simp); try omega)) | (with_reducible refine Below.alloc ?_ ?hs _; case hs => ((try simp); try omega)) | with_reducible refine Below.drew ?_ | with_reducible refine below_drewN ?_ _))
    rintro e w3 ⟨rfl, hw3⟩
    have hw3 := hw3.symm
    subst hw3
    go_wp2_with fail
    (try go_quiet (fail))
    (try go_wp2_with fail)
    go_ret
    exact ⟨by rw [HF.out]; rfl, (by repeat (first | with_reducible exact Below.refl _ _ | (with_reducible refine Below.setCell ?_ ?hs _; case hs => ((try simp); try omega)) | (with_reducible refine Below.alloc ?_ ?hs _; case hs => ((try simp); try omega)) | with_reducible refine Below.drew ?_ | with_reducible refine below_drewN ?_ _))⟩
  have q2' : (pn : Int) < ((nth [] p.bodies bn).length : Int) := by omega
  obtain ⟨b4, off4, dv, kv, rfl, hb4, f0, f1, f2, f3, hd, hk⟩ := hac pn q2
  obtain ⟨ad, cd, rfl, _⟩ := hd.shape
  obtain ⟨ak, ck, rfl, _⟩ := hk.shape
  have hb41 : b4 < w.heap.size + 1 := by omega
  have hb42 : b4 < w.heap.size + 1 + 1 := by omega
  have hb43 : b4 < w.heap.size + 1 + 1 + 1 := by omega
  clear hac hd hk
  by_cases q3 : (nth Ac.z (nth [] p.bodies bn) pn).k = 2
  case neg =>
    have q3' : ((nth Ac.z (nth [] p.bodies bn) pn).k == 2) = false := by simp [q3]
    have HF : Hid (mActB p s i = false) := by unfold Hid; rw [HFF.out, decide_eq_false q3]; simp
    clear K0 K1 K2 K3
    go_enter Tryz.func63, Tryz.ntmps63
    go_wp2_with fail
    refine (kids_any (w.heap.size + 1 + 1 + 1) s.tasks (some ⟨b, off, none⟩) sc1 _ _ _ ?h1 ?h2).mono ?_
    case h1 => first | (simp; done) | (simp [go_sem]; done)
    case h2 => exact TasAt.mono HT.out (by repeat (first | with_reducible exact Below.refl _ _ | (with_reducible refine Below.setCell ?_ ?hs _; case hs => ((try simp); try omega)) | (with_reducible refine Below.alloc ?_ ?hs _; case hs => ((try simp); try omega)) | with_reducible refine Below.drew ?_ | with_reducible refine below_drewN ?_ _))
    rintro e w3 ⟨rfl, hw3⟩
    have hw3 := hw3.symm
    subst hw3
    go_wp2_with fail
    refine (kids_any (w.heap.size + 1 + 1 + 1) s.tasks (some ⟨b, off, none⟩) sc1 _ _ _ ?h1 ?h2).mono ?_
    case h1 => first | (simp; done) | (simp [go_sem]; done)
    case h2 => exact TasAt.mono HT.out (by repeat (first | with_reducible exact Below.refl _ _ | (with_reducible refine Below.setCell ?_ ?hs _; case hs => ((try simp); try omega)) | (with_reducible refine Below.alloc ?_ ?hs _; case hs => ((try simp); try omega)) | with_reducible refine Below.drew ?_ | with_reducible refine below_drewN ?_ _))
    rintro e w3 ⟨rfl, hw3⟩
    have hw3 := hw3.symm
    subst hw3
    go_wp2_with fail
    refine (kids_any (w.heap.size + 1 + 1 + 1) s.tasks (some ⟨b, off, none⟩) sc1 _ _ _ ?h1 ?h2).mono ?_
    case h1 => first | (simp; done) | (simp [go_sem]; done)
    case h2 => exact TasAt.mono HT.out (by repeat (first | with_reducible exact Below.refl _ _ | (with_reducible refine Below.setCell ?_ ?hs _; case hs => ((try simp); try omega)) | (with_reducible refine Below.alloc ?_ ?hs _; case hs => ((try simp); try omega)) | with_reducible refine Below.drew ?_ | with_reducible refine below_drewN ?_ _))
    rintro e w3 ⟨rfl, hw3⟩
    have hw3 := hw3.symm
    subst hw3
    go_wp2_with fail
    refine (kids_any (w.heap.size + 1 + 1 + 1) s.tasks (some ⟨b, off, none⟩) sc1 _ _ _ ?h1 ?h2).mono ?_
    case h1 => first | (simp; done) | (simp [go_sem]; done)
    case h2 => exact TasAt.mono HT.out (by repeat (first | with_reducible exact Below.refl _ _ | (with_reducible refine Below.setCell ?_ ?hs _; case hs => ((try simp); try omega)) | (with_reducible refine Below.alloc ?_ ?hs _; case hs => ((try simp); try omega)) | with_reducible refine Below.drew ?_ | with_reducible refine below_drewN ?_ _))
    rintro e w3 ⟨rfl, hw3⟩
    have hw3 := hw3.symm
    subst hw3
    go_wp2_with fail
    (try go_quiet (fail))
    (try go_wp2_with fail)
    go_ret
    exact ⟨by rw [HF.out]; rfl, (by repeat (first | with_reducible exact Below.refl _ _ | (with_reducible refine Below.setCell ?_ ?hs _; case hs => ((try simp); try omega)) | (with_reducible refine Below.alloc ?_ ?hs _; case hs => ((try simp); try omega)) | with_reducible refine Below.drew ?_ | with_reducible refine below_drewN ?_ _))⟩
  have q3' : ((nth Ac.z (nth [] p.bodies bn) pn).k == 2) = true := by simp [q3]
  have HF3 : Hid (mActB p s i = decide ((nth Ac.z (nth [] p.bodies bn) pn).ks.length ≤ kin s.tasks i 0 + kin s.tasks i 1 + kin s.tasks i 2 + kin s.tasks i 3)) := by unfold Hid; rw [HFF.out, decide_eq_true q2, decide_eq_true q3]; rfl
  have HF : Hid (mActB p s i = decide (((nth Ac.z (nth [] p.bodies bn) pn).ks.length : Int) ≤ (kin s.tasks i 0 : Int) + (kin s.tasks i 1 : Int) + (kin s.tasks i 2 : Int) + (kin s.tasks i 3 : Int))) := by
    unfold Hid; rw [HF3.out]; exact decide_eq_decide.2 (by omega)
  clear K0 K1 K2 K3 HF3 HFF
  go_enter Tryz.func63, Tryz.ntmps63
  go_wp2_with fail
  refine (kids_any (w.heap.size + 1 + 1 + 1) s.tasks (some ⟨b, off, none⟩) sc1 _ _ _ ?h1 ?h2).mono ?_
  case h1 => first | (simp; done) | (simp [go_sem]; done)
  case h2 => exact TasAt.mono HT.out (by repeat (first | with_reducible exact Below.refl _ _ | (with_reducible refine Below.setCell ?_ ?hs _; case hs => ((try simp); try omega)) | (with_reducible refine Below.alloc ?_ ?hs _; case hs => ((try simp); try omega)) | with_reducible refine Below.drew ?_ | with_reducible refine below_drewN ?_ _))
  rintro e w3 ⟨rfl, hw3⟩
  have hw3 := hw3.symm
  subst hw3
  go_wp2_with fail
  refine (kids_any (w.heap.size + 1 + 1 + 1) s.tasks (some ⟨b, off, none⟩) sc1 _ _ _ ?h1 ?h2).mono ?_
  case h1 => first | (simp; done) | (simp [go_sem]; done)
  case h2 => exact TasAt.mono HT.out (by repeat (first | with_reducible exact Below.refl _ _ | (with_reducible refine Below.setCell ?_ ?hs _; case hs => ((try simp); try omega)) | (with_reducible refine Below.alloc ?_ ?hs _; case hs => ((try simp); try omega)) | with_reducible refine Below.drew ?_ | with_reducible refine below_drewN ?_ _))
  rintro e w3 ⟨rfl, hw3⟩
  have hw3 := hw3.symm
  subst hw3
  go_wp2_with fail
  refine (kids_any (w.heap.size + 1 + 1 + 1) s.tasks (some ⟨b, off, none⟩) sc1 _ _ _ ?h1 ?h2).mono ?_
  case h1 => first | (simp; done) | (simp [go_sem]; done)
  case h2 => exact TasAt.mono HT.out (by repeat (first | with_reducible exact Below.refl _ _ | (with_reducible refine Below.setCell ?_ ?hs _; case hs => ((try simp); try omega)) | (with_reducible refine Below.alloc ?_ ?hs _; case hs => ((try simp); try omega)) | with_reducible refine Below.drew ?_ | with_reducible refine below_drewN ?_ _))
  rintro e w3 ⟨rfl, hw3⟩
  have hw3 := hw3.symm
  subst hw3
  go_wp2_with fail
  refine (kids_any (w.heap.size + 1 + 1 + 1) s.tasks (some ⟨b, off, none⟩) sc1 _ _ _ ?h1 ?h2).mono ?_
  case h1 => first | (simp; done) | (simp [go_sem]; done)
  case h2 => exact TasAt.mono HT.out (by repeat (first | with_reducible exact Below.refl _ _ | (with_reducible refine Below.setCell ?_ ?hs _; case hs => ((try simp); try omega)) | (with_reducible refine Below.alloc ?_ ?hs _; case hs => ((try simp); try omega)) | with_reducible refine Below.drew ?_ | with_reducible refine below_drewN ?_ _))
  rintro e w3 ⟨rfl, hw3⟩
  have hw3 := hw3.symm
  subst hw3
  go_wp2_with fail
  (try go_quiet (fail))
  (try go_wp2_with fail)
  go_ret
  exact ⟨by rw [HF.out]; rfl, (by repeat (first | with_reducible exact Below.refl _ _ | (with_reducible refine Below.setCell ?_ ?hs _; case hs => ((try simp); try omega)) | (with_reducible refine Below.alloc ?_ ?hs _; case hs => ((try simp); try omega)) | with_reducible refine Below.drew ?_ | with_reducible refine below_drewN ?_ _))⟩

end Go.Proofs.YtdgihncobihbgaaGreat
