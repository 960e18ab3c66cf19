/-
  TreeLive of the model (by mka1.py).
-/
import Derived.Test.YtnbgonmdjgapnaaA1
namespace Go.Proofs.Ytnbgonmdjgapnaa
open Go.RowKit
set_option linter.unusedSimpArgs false
set_option linter.unusedVariables false
set_option maxRecDepth 20000

set_option maxHeartbeats 2000000 in
theorem sTreeLive_any (s : Sy) (ac at' al : Option Addr) (cc ct cl : Nat) (w : World) (h : TasAt w (.slice at' s.tasks.length ct) s.tasks) (hn : s.tasks.length ≤ 1048576) :
    Calls Try.prog 46 #[.agg #[.slice ac s.cells.length cc, .slice at' s.tasks.length ct, .int .i64 s.clock, .slice al s.log.length cl]] w fun r w' => ∃ v, r = .returned v ∧ OwnInt w.heap.size w' v (liveL s) ∧ Below w.heap.size w w' := by
  obtain ⟨i0, hi, hz0, hz1, hz2⟩ := info_parts Try.info_int
  obtain ⟨at'', ct'', e0, hm, hc⟩ := h
  injection e0 with e1 e2 e3
  subst e1 e3
  clear e2
  go_enter Try.func46, Try.ntmps46
  go_wp2_with fail
  go_loopw [3, 4] (fun o q w' => ∃ (k : Nat) (xs : List Int), k ≤ s.tasks.length ∧ q = .int .i64 k ∧ xs = plW (fun i => lvB (nth Ta.z s.tasks i)) k ∧ OwnInt (w.heap.size + 1) w' o xs ∧ Below (w.heap.size + 1) (w.alloc (.cells #[.slice ac s.cells.length cc, .slice at' s.tasks.length ct, .int .i64 s.clock, .slice al s.log.length cl] 32)) w') (fun _ q _ => s.tasks.length - (intOf q).toNat)
  case atStart => exact ⟨0, [], Nat.zero_le _, rfl, rfl, own_made0 _ _ _ _ (by simp) (by simp), (Below.refl _ _).alloc (by simp) _⟩
  case round =>
    obtain ⟨k, xs, hk, rfl, hxs, hown, hb⟩ := hrel
    have hkl : xs.length ≤ k := by rw [hxs]; exact plW_len _ _
    have HX := (show Hid (xs = _) from hxs)
    clear hxs
    have hbw : Below w.heap.size w wr := ((Below.refl _ _).alloc (Nat.le_refl _) _).trans (hb.mono (by omega))
    have hsz : w.heap.size + 1 ≤ wr.heap.size := by have := hb.size; simpa using this
    have hsz' : w.heap.size < wr.heap.size := by omega
    have e1 : wr.cell? ⟨w.heap.size, 1, none⟩ = some (.slice at' s.tasks.length ct) := by rw [hb.cell (p := ⟨w.heap.size, 1, none⟩) (by simp)]; simp
    have HOW := (show Hid (OwnInt _ _ _ _) from hown)
    have HB := (show Hid (Below _ _ _) from hb)
    clear hown hb
    by_cases hlt : k < s.tasks.length
    · have hlt' : (k : Int) < (s.tasks.length : Int) := by omega
      obtain ⟨b, off, v3, v8, v9, v10, rfl, hbw', c0, c1, c2, c3, c4, c5, c6, c7, c8, c9, c10, c11, c12, h3, h8, h9, h10⟩ := hc k hlt
      rw [← hbw.cell (p := ⟨b, _, none⟩) hbw'] at c0 c1 c2 c3 c4 c5 c6 c7 c8 c9 c10 c11 c12
      obtain ⟨a3, e3', rfl, hm3⟩ := h3.shape
      obtain ⟨a8, e8', rfl, hm8⟩ := h8.shape
      obtain ⟨a9, e9', rfl, hm9⟩ := h9.shape
      obtain ⟨a10, e10', rfl, hm10⟩ := h10.shape
      clear hc h3 h8 h9 h10
      clear hbw
      by_cases q1 : (nth Ta.z s.tasks k).way = 0
      case pos =>
        have q1' : ((nth Ta.z s.tasks k).way == 0) = true := by simp [q1]
        have HT : Hid (plW (fun i => lvB (nth Ta.z s.tasks i)) (k + 1) = plW (fun i => lvB (nth Ta.z s.tasks i)) k ++ [(k : Int)]) := by unfold Hid; rw [plW_succ]; simp [lvB, q1]
        go_wp2_with (at_builtin; refine wpList_append_own _ rfl _ _ 23 rfl (w.heap.size + 1) 3 i0 (.int .i64 0) 1 8 Try.underlying23 hi hz0 hz1 hz2 rfl (by decide) _ _ _ rfl (own_below HOW.out (by repeat (first | with_reducible exact Below.refl _ _ | (with_reducible refine Below.setCell ?_ ?hs _; case hs => ((try simp); try omega)) | (with_reducible refine Below.alloc ?_ ?hs _; case hs => ((try simp); try omega)) | with_reducible refine Below.drew ?_ | with_reducible refine below_drewN ?_ _)) (Nat.le_refl _)) ⟨wr.heap.size, 0, none⟩ 1 1 [.int .i64 (k : Int)] rfl rfl (fun j u hj => by match j, hj with | 0, hj => simp at hj; subst hj; simp [Addr.add]) (fun u hu => by simp at hu; subst hu; rfl) ?a3 ?a4 ?a5 ?_)
        case a3 => unfold maxLen; omega
        case a4 => omega
        case a5 => (try simp); omega
        intro v' w4 hown' hgrow _
        have HO4 : Hid (OwnInt (w.heap.size + 1) w4 v' (xs ++ [(k : Int)])) := OwnInt.snoc hown'
        have hge : ∀ g, u3.ownBlock = some g → w.heap.size + 1 ≤ g := fun g hg => (HOW.out.lt g hg).1
        have HB4 : Hid (Below (w.heap.size + 1) (w.alloc _) w4) := Below.grown (by repeat (first | with_reducible exact HB.out | (with_reducible refine Below.setCell ?_ ?hs _; case hs => ((try simp); try omega)) | (with_reducible refine Below.alloc ?_ ?hs _; case hs => ((try simp); try omega)) | with_reducible refine Below.drew ?_ | with_reducible refine below_drewN ?_ _)) hgrow (by simp; omega) hge
        clear hown' hgrow HOW HB hge c0 c1 c2 c3 c4 c5 c6 c7 c8 c9 c10 c11 c12 e1
        go_wp2_with fail
        go_roundw
        case rel => exact ⟨k + 1, _, by omega, by go_num, by rw [HT.out, HX.out], HO4.out, HB4.out⟩
        case measure => simp [intOf]; omega
      have q1' : ((nth Ta.z s.tasks k).way == 0) = false := by simp [q1]
      by_cases q2 : (nth Ta.z s.tasks k).way = 1
      case pos =>
        have q2' : ((nth Ta.z s.tasks k).way == 1) = true := by simp [q2]
        have HT : Hid (plW (fun i => lvB (nth Ta.z s.tasks i)) (k + 1) = plW (fun i => lvB (nth Ta.z s.tasks i)) k ++ [(k : Int)]) := by unfold Hid; rw [plW_succ]; simp [lvB, q2]
        go_wp2_with (at_builtin; refine wpList_append_own _ rfl _ _ 23 rfl (w.heap.size + 1) 3 i0 (.int .i64 0) 1 8 Try.underlying23 hi hz0 hz1 hz2 rfl (by decide) _ _ _ rfl (own_below HOW.out (by repeat (first | with_reducible exact Below.refl _ _ | (with_reducible refine Below.setCell ?_ ?hs _; case hs => ((try simp); try omega)) | (with_reducible refine Below.alloc ?_ ?hs _; case hs => ((try simp); try omega)) | with_reducible refine Below.drew ?_ | with_reducible refine below_drewN ?_ _)) (Nat.le_refl _)) ⟨wr.heap.size, 0, none⟩ 1 1 [.int .i64 (k : Int)] rfl rfl (fun j u hj => by match j, hj with | 0, hj => simp at hj; subst hj; simp [Addr.add]) (fun u hu => by simp at hu; subst hu; rfl) ?a3 ?a4 ?a5 ?_)
        case a3 => unfold maxLen; omega
        case a4 => omega
        case a5 => (try simp); omega
        intro v' w4 hown' hgrow _
        have HO4 : Hid (OwnInt (w.heap.size + 1) w4 v' (xs ++ [(k : Int)])) := OwnInt.snoc hown'
        have hge : ∀ g, u3.ownBlock = some g → w.heap.size + 1 ≤ g := fun g hg => (HOW.out.lt g hg).1
        have HB4 : Hid (Below (w.heap.size + 1) (w.alloc _) w4) := Below.grown (by repeat (first | with_reducible exact HB.out | (with_reducible refine Below.setCell ?_ ?hs _; case hs => ((try simp); try omega)) | (with_reducible refine Below.alloc ?_ ?hs _; case hs => ((try simp); try omega)) | with_reducible refine Below.drew ?_ | with_reducible refine below_drewN ?_ _)) hgrow (by simp; omega) hge
        clear hown' hgrow HOW HB hge c0 c1 c2 c3 c4 c5 c6 c7 c8 c9 c10 c11 c12 e1
        go_wp2_with fail
        go_roundw
        case rel => exact ⟨k + 1, _, by omega, by go_num, by rw [HT.out, HX.out], HO4.out, HB4.out⟩
        case measure => simp [intOf]; omega
      case neg =>
        have q2' : ((nth Ta.z s.tasks k).way == 1) = false := by simp [q2]
        have HT : Hid (plW (fun i => lvB (nth Ta.z s.tasks i)) (k + 1) = plW (fun i => lvB (nth Ta.z s.tasks i)) k) := by unfold Hid; rw [plW_succ]; simp [lvB, q1, q2]
        go_wp2_with fail
        go_roundw
        case rel => exact ⟨k + 1, xs, by omega, by go_num, by rw [HT.out, HX.out], own_below HOW.out (by repeat (first | with_reducible exact Below.refl _ _ | (with_reducible refine Below.setCell ?_ ?hs _; case hs => ((try simp); try omega)) | (with_reducible refine Below.alloc ?_ ?hs _; case hs => ((try simp); try omega)) | with_reducible refine Below.drew ?_ | with_reducible refine below_drewN ?_ _)) (Nat.le_refl _), (by repeat (first | with_reducible exact HB.out | (with_reducible refine Below.setCell ?_ ?hs _; case hs => ((try simp); try omega)) | (with_reducible refine Below.alloc ?_ ?hs _; case hs => ((try simp); try omega)) | with_reducible refine Below.drew ?_ | with_reducible refine below_drewN ?_ _))⟩
        case measure => simp [intOf]; omega
    · have hk' : ¬ (k : Int) < (s.tasks.length : Int) := by omega
      have HR : Hid (OwnInt (w.heap.size + 1) wr u3 (liveL s)) := by
        have := HOW.out; rw [HX.out, show k = s.tasks.length by omega] at this; exact this
      have HW := (show Hid (Below _ _ _) from hbw)
      clear hc HOW hbw HB
      go_wp2_with fail
      go_ret
      exact ⟨_, rfl, own_base HR.out (by omega), HW.out⟩

end Go.Proofs.Ytnbgonmdjgapnaa
