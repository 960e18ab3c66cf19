/-
  TreeOk of the model (by mka1.py).
-/
import Derived.Test.YtnbgonmdjgapnaaA4
namespace Go.Proofs.Ytnbgonmdjgapnaa
open Go.RowKit
set_option linter.unusedSimpArgs false
set_option linter.unusedVariables false
set_option maxRecDepth 20000

theorem plW_mem {f : Nat → Bool} {n : Nat} {x : Int} : x ∈ plW f n ↔ ∃ i : Nat, i < n ∧ f i = true ∧ x = (i : Int) := by
  unfold plW
  constructor
  · intro h
    obtain ⟨i, hi, rfl⟩ := List.mem_map.1 h
    obtain ⟨h1, h2⟩ := List.mem_filter.1 hi
    exact ⟨i, List.mem_range.1 h1, h2, rfl⟩
  · rintro ⟨i, h1, h2, rfl⟩
    exact List.mem_map.2 ⟨i, List.mem_filter.2 ⟨List.mem_range.2 h1, h2⟩, rfl⟩
theorem live_at {s : Sy} {k : Nat} (h : k < (liveL s).length) : ∃ j : Nat, nth 0 (liveL s) k = (j : Int) ∧ j < s.tasks.length ∧ lvB (nth Ta.z s.tasks j) = true := by
  have hm : nth 0 (liveL s) k ∈ liveL s := by rw [nth_eq 0 (liveL s) k h]; exact List.getElem_mem h
  obtain ⟨i, h1, h2, h3⟩ := plW_mem.1 hm
  exact ⟨i, h3, h1, h2⟩
theorem tokB_live {s : Sy} (h : ∀ i, i < (liveL s).length → upB s (nth Ta.z s.tasks (nth 0 (liveL s) i).toNat) = false) : tokB s = true := by
  refine tokB_yes fun j hj => ?_
  cases hl : lvB (nth Ta.z s.tasks j)
  · rfl
  · have hm : (j : Int) ∈ liveL s := plW_mem.2 ⟨j, hj, hl, rfl⟩
    obtain ⟨i, hi, e⟩ := List.getElem_of_mem hm
    have := h i hi
    rw [nth_eq 0 (liveL s) i hi, e] at this
    simpa using this
theorem inB_pl (n : Int) (e : Nat) : inB n 0 ((e : Int) - 1) = plB n e := by
  unfold inB plB
  congr 1
  apply propext
  omega

set_option maxHeartbeats 4000000 in
theorem sTreeOk_any (s : Sy) (ac at' al : Option Addr) (cc ct cl : Nat) (w : World) (h : TasAt w (.slice at' s.tasks.length ct) s.tasks) (hn : s.tasks.length ≤ 1048576) :
    Calls Try.prog 50 #[.agg #[.slice ac s.cells.length cc, .slice at' s.tasks.length ct, .int .i64 s.clock, .slice al s.log.length cl]] w fun r w' => r = .returned (.bool (tokB s)) ∧ Below w.heap.size w w' := by
  have HTA := (show Hid (TasAt _ _ _) from h)
  obtain ⟨at'', ct'', e0, hm, hc⟩ := h
  injection e0 with e1 e2 e3
  subst e1 e3
  clear e2
  go_enter Try.func50, Try.ntmps50
  go_wp2_with fail
  refine (sTreeLive_any s _ _ _ _ _ _ _ (by exact HTA.out.mono (by repeat (first | with_reducible exact Below.refl _ _ | (with_reducible refine Below.setCell ?_ ?hs _; case hs => ((try simp); try omega)) | (with_reducible refine Below.alloc ?_ ?hs _; case hs => ((try simp); try omega)) | with_reducible refine Below.drew ?_ | with_reducible refine below_drewN ?_ _))) hn).mono ?_
  rintro e w1 ⟨v1, rfl, ho1, hb1⟩
  obtain ⟨va, vc, rfl, hvc⟩ := own_shape ho1
  have x1 : w1.cell? ⟨w.heap.size, 1, none⟩ = some (.slice at' s.tasks.length ct) := by rw [hb1.cell (p := ⟨w.heap.size, 1, none⟩) (by (try simp); try omega)]; simp [go_sem]
  have hz1 : w.heap.size < w1.heap.size := by have := hb1.size; simp at this; omega
  have HL := (show Hid (IntsAt _ _ _) from ho1.at)
  have HB1 : Hid (Below w.heap.size w w1) := below_then (by repeat (first | with_reducible exact Below.refl _ _ | (with_reducible refine Below.setCell ?_ ?hs _; case hs => ((try simp); try omega)) | (with_reducible refine Below.alloc ?_ ?hs _; case hs => ((try simp); try omega)) | with_reducible refine Below.drew ?_ | with_reducible refine below_drewN ?_ _)) (by (try simp); try omega) hb1
  have hll : (liveL s).length ≤ 1048576 := Nat.le_trans (plW_len _ _) hn
  clear ho1 hb1
  go_wp2_with fail
  go_loopw [4] (fun q w' => ∃ (k : Nat), k ≤ (liveL s).length ∧ q = .int .i64 k ∧ Hid (∀ i, i < k → upB s (nth Ta.z s.tasks (nth 0 (liveL s) i).toNat) = false) ∧ Below w1.heap.size w1 w') (fun q _ => (liveL s).length - (intOf q).toNat)
  case atStart => exact ⟨0, Nat.zero_le _, rfl, fun i hi => by omega, Below.refl _ _⟩
  case round =>
    obtain ⟨k, hk, rfl, HX, hb⟩ := hrel
    have x1r : wr.cell? ⟨w.heap.size, 1, none⟩ = some (.slice at' s.tasks.length ct) := by rw [hb.cell (p := ⟨w.heap.size, 1, none⟩) hz1]; exact x1
    have hbw : Below w.heap.size w wr := below_then HB1.out HB1.out.size hb
    by_cases hlt : k < (liveL s).length
    · have hlt' : (k : Int) < ((liveL s).length : Int) := by omega
      obtain ⟨j, hj, hjl, hjv⟩ := live_at hlt
      have hjl' : (j : Int) < (s.tasks.length : Int) := by omega
      obtain ⟨la, lc, el, _, hlc⟩ := HL.out
      injection el with el1 el2 el3
      subst el1 el3
      clear el2
      obtain ⟨lb, lo, rfl, hlb, cl0⟩ := hlc k hlt
      rw [← hb.cell (p := ⟨lb, _, none⟩) hlb, hj] at cl0
      obtain ⟨b, off, _, _, _, _, rfl, hbw', _, _, c2, _, c4, _⟩ := hc j hjl
      rw [← hbw.cell (p := ⟨b, _, none⟩) hbw'] at c2 c4
      have HJ := (show Hid (_ = _) from hj)
      have HB := (show Hid (Below _ _ _) from hb)
      have HBW := (show Hid (Below _ _ _) from hbw)
      have HC := (show Hid (∀ i, i < s.tasks.length → _) from hc)
      clear hj hb hc hlc
      cases q2 : plB (nth Ta.z s.tasks j).up s.tasks.length
      · have Q2 : Hid (inB (nth Ta.z s.tasks j).up 0 ((s.tasks.length : Int) - 1) = false) := (inB_pl _ _).trans q2
        have HT : Hid (∀ i, i < k + 1 → upB s (nth Ta.z s.tasks (nth 0 (liveL s) i).toNat) = false) := fun i hi => by
          by_cases e : i = k
          · subst e; rw [HJ.out, Int.toNat_natCast]; unfold upB; rw [q2]; rfl
          · exact HX.out i (by omega)
        clear q2 hbw
        go_wp2_with fail
        go_quiet (fail)
        go_wp2_with fail
        refine (lin_is Q2.out _).mono ?_
        rintro e w2 ⟨rfl, hw⟩
        have hw := hw.symm
        subst hw
        go_wp2_with fail
        go_roundw
        case rel => exact ⟨k + 1, by omega, by go_num, HT, (by repeat (first | with_reducible exact HB.out | (with_reducible refine Below.setCell ?_ ?hs _; case hs => ((try simp); try omega)) | (with_reducible refine Below.alloc ?_ ?hs _; case hs => ((try simp); try omega)) | with_reducible refine Below.drew ?_ | with_reducible refine below_drewN ?_ _))⟩
        case measure => simp [intOf]; omega
      have Q2 : Hid (inB (nth Ta.z s.tasks j).up 0 ((s.tasks.length : Int) - 1) = true) := (inB_pl _ _).trans q2
      obtain ⟨i2, hi2, hil⟩ := plB_nat q2
      have hil' : (i2 : Int) < (s.tasks.length : Int) := by omega
      obtain ⟨b', off', _, _, _, _, eb, _, _, _, _, _, d4, _⟩ := HC.out i2 hil
      injection eb with eb
      injection eb with eb1 eb2
      subst eb1 eb2
      rw [← hbw.cell (p := ⟨b, _, none⟩) hbw'] at d4
      have HI := (show Hid (_ = _) from hi2)
      rw [hi2] at c2 Q2
      clear hi2
      by_cases q3 : (nth Ta.z s.tasks i2).way = 1
      · have HT : Hid (∀ i, i < k + 1 → upB s (nth Ta.z s.tasks (nth 0 (liveL s) i).toNat) = false) := fun i hi => by
          by_cases e : i = k
          · subst e; rw [HJ.out, Int.toNat_natCast]; unfold upB; rw [HI.out]; simp [q3]
          · exact HX.out i (by omega)
        have q3' : ((nth Ta.z s.tasks i2).way == 1) = true := by simp [q3]
        clear q2 q3 hbw
        go_wp2_with fail
        go_quiet (fail)
        go_wp2_with fail
        refine (lin_is Q2.out _).mono ?_
        rintro e w2 ⟨rfl, hw⟩
        have hw := hw.symm
        subst hw
        go_wp2_with fail
        go_roundw
        case rel => exact ⟨k + 1, by omega, by go_num, HT, (by repeat (first | with_reducible exact HB.out | (with_reducible refine Below.setCell ?_ ?hs _; case hs => ((try simp); try omega)) | (with_reducible refine Below.alloc ?_ ?hs _; case hs => ((try simp); try omega)) | with_reducible refine Below.drew ?_ | with_reducible refine below_drewN ?_ _))⟩
        case measure => simp [intOf]; omega
      · have HT : Hid (tokB s = false) := tokB_no hjl hjv (by unfold upB; rw [q2, HI.out]; simp [q3])
        have q3' : ((nth Ta.z s.tasks i2).way == 1) = false := by simp [q3]
        clear q2 q3 hbw
        go_wp2_with fail
        go_quiet (fail)
        go_wp2_with fail
        refine (lin_is Q2.out _).mono ?_
        rintro e w2 ⟨rfl, hw⟩
        have hw := hw.symm
        subst hw
        go_wp2_with fail
        go_ret
        exact ⟨by rw [HT.out]; first | done | rfl, (by repeat (first | with_reducible exact HBW.out | (with_reducible refine Below.setCell ?_ ?hs _; case hs => ((try simp); try omega)) | (with_reducible refine Below.alloc ?_ ?hs _; case hs => ((try simp); try omega)) | with_reducible refine Below.drew ?_ | with_reducible refine below_drewN ?_ _))⟩
    · have hk' : ¬ (k : Int) < ((liveL s).length : Int) := by omega
      have HT : Hid (tokB s = true) := tokB_live (by rw [show (liveL s).length = k by omega]; exact HX.out)
      have HW := (show Hid (Below _ _ _) from hbw)
      clear hc hbw hb
      go_wp2_with fail
      go_ret
      exact ⟨by rw [HT.out]; first | done | rfl, HW.out⟩

end Go.Proofs.Ytnbgonmdjgapnaa
