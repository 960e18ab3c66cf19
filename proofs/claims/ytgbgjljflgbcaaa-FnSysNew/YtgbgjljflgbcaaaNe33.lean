import Derived.Test.YtgbgjljflgbcaaaNe32
import Derived.Deep.QuietTactic
import Derived.BigQuiet
import Derived.Test.YtgbgjljflgbcaaaNe22
import Derived.Test.YtgbgjljflgbcaaaNe05
import Derived.Test.YtgbgjljflgbcaaaNe06
import Derived.OwnWalk
namespace Go.Proofs.Ytgbgjljflgbcaaa
open Go.RowKit
set_option linter.unusedSimpArgs false
set_option linter.unusedVariables false
set_option maxRecDepth 20000
theorem plc_is {n e : Int} {b : Bool} (h : plB n e = b) (w : World) : Calls Try.prog 45 #[.int .i64 n, .int .i64 e] w fun r w' => r = .returned (.bool b) ∧ w' = w := by subst h; exact isPlace_any n e w
def upB (s : Sy) (t : Ta) : Bool := plB t.up s.tasks.length && !decide ((nth Ta.z s.tasks t.up.toNat).way = 1)
def tokB (s : Sy) : Bool := (List.range s.tasks.length).all fun i => !(lvB (nth Ta.z s.tasks i) && upB s (nth Ta.z s.tasks i))
theorem tokB_yes {s : Sy} (h : ∀ i, i < s.tasks.length → (lvB (nth Ta.z s.tasks i) && upB s (nth Ta.z s.tasks i)) = false) : tokB s = true := by
  unfold tokB
  rw [List.all_eq_true]
  intro i hi
  rw [h i (List.mem_range.1 hi)]; rfl
theorem tokB_no {s : Sy} {i : Nat} (hi : i < s.tasks.length) (h1 : lvB (nth Ta.z s.tasks i) = true) (h2 : upB s (nth Ta.z s.tasks i) = true) : tokB s = false := by
  unfold tokB
  rw [List.all_eq_false]
  exact ⟨i, List.mem_range.2 hi, by rw [h1, h2]; simp⟩
theorem plB_nat {n : Int} {e : Nat} (h : plB n e = true) : ∃ j : Nat, n = (j : Int) ∧ j < e := by
  have : 0 ≤ n ∧ n < (e : Int) := by simpa [plB] using h
  exact ⟨n.toNat, by omega, by omega⟩
set_option maxHeartbeats 4000000 in
theorem treeOk_any (s : Sy) (ac at' al : Option Addr) (cc ct cl : Nat) (w : World) (h : TasAt w (.slice at' s.tasks.length ct) s.tasks) :
    Calls Try.prog 18 #[.agg #[.slice ac s.cells.length cc, .slice at' s.tasks.length ct, .int .i64 s.clock, .slice al s.log.length cl]] w fun r w' => r = .returned (.bool (tokB s)) ∧ Below w.heap.size w w' := by
  obtain ⟨at'', ct'', e0, hm, hc⟩ := h
  injection e0 with e1 e2 e3
  subst e1 e3
  clear e2
  go_enter Try.func18, Try.ntmps18
  go_wp2_with fail
  go_loopw [8] (fun q w' => ∃ (k : Nat), k ≤ s.tasks.length ∧ q = .int .i64 k ∧ Hid (∀ i, i < k → (lvB (nth Ta.z s.tasks i) && upB s (nth Ta.z s.tasks i)) = false) ∧ Below (w.heap.size + 1) (w.alloc (.cells #[.slice ac s.cells.length cc, .slice at' s.tasks.length ct, .int .i64 s.clock, .slice al s.log.length cl] 32)) w') (fun q _ => s.tasks.length - (intOf q).toNat)
  case atStart => exact ⟨0, Nat.zero_le _, rfl, fun i hi => by omega, Below.refl _ _⟩
  case round =>
    obtain ⟨k, hk, rfl, HX, hb⟩ := hrel
    have hbw : Below w.heap.size w wr := ((Below.refl _ _).alloc (Nat.le_refl _) _).trans (hb.mono (by omega))
    have hsz : w.heap.size + 1 ≤ wr.heap.size := by have := hb.size; simpa using this
    have hsz' : w.heap.size < wr.heap.size := by omega
    have e1 : wr.cell? ⟨w.heap.size, 1, none⟩ = some (.slice at' s.tasks.length ct) := by rw [hb.cell (p := ⟨w.heap.size, 1, none⟩) (by simp)]; simp
    have HB := (show Hid (Below _ _ _) from hb)
    clear hb
    by_cases hlt : k < s.tasks.length
    · have hlt' : (k : Int) < (s.tasks.length : Int) := by omega
      have hc' := hc
      obtain ⟨b, off, v3, v8, v9, v10, rfl, hbw', c0, c1, c2, c3, c4, c5, c6, c7, c8, c9, c10, c11, c12, h3, h8, h9, h10⟩ := hc k hlt
      rw [← hbw.cell (p := ⟨b, _, none⟩) hbw'] at c0 c1 c2 c3 c4 c5 c6 c7 c8 c9 c10 c11 c12
      obtain ⟨a3, e3', rfl, hm3⟩ := h3.shape
      obtain ⟨a8, e8', rfl, hm8⟩ := h8.shape
      obtain ⟨a9, e9', rfl, hm9⟩ := h9.shape
      obtain ⟨a10, e10', rfl, hm10⟩ := h10.shape
      clear hc h3 h8 h9 h10
      have HC := (show Hid (∀ i, i < s.tasks.length → _) from hc')
      clear hc'
      cases q1 : lvB (nth Ta.z s.tasks k)
      · have HT : Hid (∀ i, i < k + 1 → (lvB (nth Ta.z s.tasks i) && upB s (nth Ta.z s.tasks i)) = false) := fun i hi => by
          by_cases e : i = k
          · subst e; rw [q1]; rfl
          · exact HX.out i (by omega)
        have Q1 := (show Hid (_ = _) from q1)
        clear q1
        go_wp2_with fail
        refine (lv_any (nth Ta.z s.tasks k) _ _ _ _ _ _ _ _ _).mono ?_
        rw [Q1.out]
        rintro e w1 ⟨rfl, hb1⟩
        have hr1 : Below wr.heap.size wr w1 := below_then (by repeat (first | with_reducible exact Below.refl _ _ | (with_reducible refine Below.setCell ?_ ?hs _; case hs => ((try simp); try omega)) | (with_reducible refine Below.alloc ?_ ?hs _; case hs => ((try simp); try omega)) | with_reducible refine Below.drew ?_ | with_reducible refine below_drewN ?_ _)) (by (try simp); try omega) hb1
        have x1 : w1.cell? ⟨w.heap.size, 1, none⟩ = some (.slice (some ⟨b, off, none⟩) s.tasks.length ct) := by rw [hr1.cell (p := ⟨w.heap.size, 1, none⟩) hsz']; exact e1
        have HB1 : Hid (Below (w.heap.size + 1) (w.alloc _) w1) := below_then HB.out hsz hr1
        clear hb1 hr1 HB hbw
        go_wp2_with fail
        go_roundw
        case rel => exact ⟨k + 1, by omega, by go_num, HT, (by repeat (first | with_reducible exact HB1.out | (with_reducible refine Below.setCell ?_ ?hs _; case hs => ((try simp); try omega)) | (with_reducible refine Below.alloc ?_ ?hs _; case hs => ((try simp); try omega)) | with_reducible refine Below.drew ?_ | with_reducible refine below_drewN ?_ _))⟩
        case measure => simp [intOf]; omega
      cases q2 : plB (nth Ta.z s.tasks k).up s.tasks.length
      · have HT : Hid (∀ i, i < k + 1 → (lvB (nth Ta.z s.tasks i) && upB s (nth Ta.z s.tasks i)) = false) := fun i hi => by
          by_cases e : i = k
          · subst e; unfold upB; rw [q2]; simp
          · exact HX.out i (by omega)
        have Q1 := (show Hid (_ = _) from q1)
        have Q2 := (show Hid (_ = _) from q2)
        clear q1 q2
        go_wp2_with fail
        refine (lv_any (nth Ta.z s.tasks k) _ _ _ _ _ _ _ _ _).mono ?_
        rw [Q1.out]
        rintro e w1 ⟨rfl, hb1⟩
        have x2 : w1.cell? ⟨wr.heap.size, 2, none⟩ = some (.int .i64 (nth Ta.z s.tasks k).up) := by rw [hb1.cell (p := ⟨wr.heap.size, 2, none⟩) (by (try simp); try omega)]; simp [go_sem]
        have hr1 : Below wr.heap.size wr w1 := below_then (by repeat (first | with_reducible exact Below.refl _ _ | (with_reducible refine Below.setCell ?_ ?hs _; case hs => ((try simp); try omega)) | (with_reducible refine Below.alloc ?_ ?hs _; case hs => ((try simp); try omega)) | with_reducible refine Below.drew ?_ | with_reducible refine below_drewN ?_ _)) (by (try simp); try omega) hb1
        have x1 : w1.cell? ⟨w.heap.size, 1, none⟩ = some (.slice (some ⟨b, off, none⟩) s.tasks.length ct) := by rw [hr1.cell (p := ⟨w.heap.size, 1, none⟩) hsz']; exact e1
        have HB1 : Hid (Below (w.heap.size + 1) (w.alloc _) w1) := below_then HB.out hsz hr1
        clear hb1 hr1 HB hbw e1 c0 c1 c2 c3 c4 c5 c6 c7 c8 c9 c10 c11 c12
        go_wp2_with fail
        refine (plc_is Q2.out _).mono ?_
        rintro e w2 ⟨rfl, hw⟩
        have hw := hw.symm
        subst hw
        go_wp2_with fail
        go_roundw
        case rel => exact ⟨k + 1, by omega, by go_num, HT, (by repeat (first | with_reducible exact HB1.out | (with_reducible refine Below.setCell ?_ ?hs _; case hs => ((try simp); try omega)) | (with_reducible refine Below.alloc ?_ ?hs _; case hs => ((try simp); try omega)) | with_reducible refine Below.drew ?_ | with_reducible refine below_drewN ?_ _))⟩
        case measure => simp [intOf]; omega
      obtain ⟨j, hj, hjl⟩ := plB_nat q2
      have hjl' : (j : Int) < (s.tasks.length : Int) := by omega
      obtain ⟨b', off', _, _, _, _, eb, _, _, _, _, _, d4, _⟩ := HC.out j hjl
      injection eb with eb
      injection eb with eb1 eb2
      subst eb1 eb2
      have HJ := (show Hid (_ = _) from hj)
      clear hj
      by_cases q3 : (nth Ta.z s.tasks j).way = 1
      · have HT : Hid (∀ i, i < k + 1 → (lvB (nth Ta.z s.tasks i) && upB s (nth Ta.z s.tasks i)) = false) := fun i hi => by
          by_cases e : i = k
          · subst e; unfold upB; rw [HJ.out]; simp [q3]
          · exact HX.out i (by omega)
        have Q1 := (show Hid (_ = _) from q1)
        have Q2 := (show Hid (_ = _) from q2)
        have q3' : ((nth Ta.z s.tasks j).way == 1) = true := by simp [q3]
        clear q1 q2 q3
        go_wp2_with fail
        refine (lv_any (nth Ta.z s.tasks k) _ _ _ _ _ _ _ _ _).mono ?_
        rw [Q1.out]
        rintro e w1 ⟨rfl, hb1⟩
        have x2 : w1.cell? ⟨wr.heap.size, 2, none⟩ = some (.int .i64 (nth Ta.z s.tasks k).up) := by rw [hb1.cell (p := ⟨wr.heap.size, 2, none⟩) (by (try simp); try omega)]; simp [go_sem]
        rw [HJ.out] at x2 Q2
        have hr1 : Below wr.heap.size wr w1 := below_then (by repeat (first | with_reducible exact Below.refl _ _ | (with_reducible refine Below.setCell ?_ ?hs _; case hs => ((try simp); try omega)) | (with_reducible refine Below.alloc ?_ ?hs _; case hs => ((try simp); try omega)) | with_reducible refine Below.drew ?_ | with_reducible refine below_drewN ?_ _)) (by (try simp); try omega) hb1
        have x1 : w1.cell? ⟨w.heap.size, 1, none⟩ = some (.slice (some ⟨b, off, none⟩) s.tasks.length ct) := by rw [hr1.cell (p := ⟨w.heap.size, 1, none⟩) hsz']; exact e1
        have x4 : w1.cell? ⟨b, off + j * 13 + 4, none⟩ = some (.int .i64 (nth Ta.z s.tasks j).way) := by rw [hr1.cell (p := ⟨b, _, none⟩) (Nat.lt_of_lt_of_le hbw' hbw.size), hbw.cell (p := ⟨b, _, none⟩) hbw']; exact d4
        have HB1 : Hid (Below (w.heap.size + 1) (w.alloc _) w1) := below_then HB.out hsz hr1
        clear hb1 hr1 HB hbw e1 c0 c1 c2 c3 c4 c5 c6 c7 c8 c9 c10 c11 c12 d4
        go_wp2_with fail
        refine (plc_is Q2.out _).mono ?_
        rintro e w2 ⟨rfl, hw⟩
        have hw := hw.symm
        subst hw
        go_wp2_with fail
        go_roundw
        case rel => exact ⟨k + 1, by omega, by go_num, HT, (by repeat (first | with_reducible exact HB1.out | (with_reducible refine Below.setCell ?_ ?hs _; case hs => ((try simp); try omega)) | (with_reducible refine Below.alloc ?_ ?hs _; case hs => ((try simp); try omega)) | with_reducible refine Below.drew ?_ | with_reducible refine below_drewN ?_ _))⟩
        case measure => simp [intOf]; omega
      · have HT : Hid (tokB s = false) := tokB_no hlt q1 (by unfold upB; rw [q2, HJ.out]; simp [q3])
        have Q1 := (show Hid (_ = _) from q1)
        have Q2 := (show Hid (_ = _) from q2)
        have q3' : ((nth Ta.z s.tasks j).way == 1) = false := by simp [q3]
        clear q1 q2 q3
        go_wp2_with fail
        refine (lv_any (nth Ta.z s.tasks k) _ _ _ _ _ _ _ _ _).mono ?_
        rw [Q1.out]
        rintro e w1 ⟨rfl, hb1⟩
        have x2 : w1.cell? ⟨wr.heap.size, 2, none⟩ = some (.int .i64 (nth Ta.z s.tasks k).up) := by rw [hb1.cell (p := ⟨wr.heap.size, 2, none⟩) (by (try simp); try omega)]; simp [go_sem]
        rw [HJ.out] at x2 Q2
        have hr1 : Below wr.heap.size wr w1 := below_then (by repeat (first | with_reducible exact Below.refl _ _ | (with_reducible refine Below.setCell ?_ ?hs _; case hs => ((try simp); try omega)) | (with_reducible refine Below.alloc ?_ ?hs _; case hs => ((try simp); try omega)) | with_reducible refine Below.drew ?_ | with_reducible refine below_drewN ?_ _)) (by (try simp); try omega) hb1
        have x1 : w1.cell? ⟨w.heap.size, 1, none⟩ = some (.slice (some ⟨b, off, none⟩) s.tasks.length ct) := by rw [hr1.cell (p := ⟨w.heap.size, 1, none⟩) hsz']; exact e1
        have x4 : w1.cell? ⟨b, off + j * 13 + 4, none⟩ = some (.int .i64 (nth Ta.z s.tasks j).way) := by rw [hr1.cell (p := ⟨b, _, none⟩) (Nat.lt_of_lt_of_le hbw' hbw.size), hbw.cell (p := ⟨b, _, none⟩) hbw']; exact d4
        have HB1 : Hid (Below w.heap.size w w1) := below_then hbw hbw.size hr1
        clear hb1 hr1 HB hbw e1 c0 c1 c2 c3 c4 c5 c6 c7 c8 c9 c10 c11 c12 d4
        go_wp2_with fail
        refine (plc_is Q2.out _).mono ?_
        rintro e w2 ⟨rfl, hw⟩
        have hw := hw.symm
        subst hw
        go_wp2_with fail
        go_ret
        exact ⟨by rw [HT.out]; first | done | rfl, HB1.out⟩
    · have hk' : ¬ (k : Int) < (s.tasks.length : Int) := by omega
      have HT : Hid (tokB s = true) := tokB_yes (by rw [show s.tasks.length = k by omega]; exact HX.out)
      have HW := (show Hid (Below _ _ _) from hbw)
      clear hc hbw HB
      go_wp2_with fail
      go_ret
      exact ⟨by rw [HT.out]; first | done | rfl, HW.out⟩
end Go.Proofs.Ytgbgjljflgbcaaa

namespace Go.Proofs.Ytgbgjljflgbcaaa
open Go.RowKit
set_option linter.unusedSimpArgs false
set_option linter.unusedVariables false
set_option maxRecDepth 20000
theorem map_take {α : Type} (z : α) (f : α → Int) (l : List α) (k : Nat) (h : k < l.length) : (l.map f).take (k + 1) = (l.map f).take k ++ [f (nth z l k)] := by
  rw [← List.map_take, ← List.map_take, take_nth z l k h, List.map_append]; rfl
set_option maxHeartbeats 1000000 in
theorem sysNums_any (s : Sy) (cv tv lv : Value) (w : World) (h : CesAt w cv s.cells) (hc0 : ∃ a c, cv = .slice a s.cells.length c) (ht0 : ∃ a c, tv = .slice a s.tasks.length c) (hl0 : ∃ a c, lv = .slice a s.log.length c) (hn : s.cells.length ≤ 1048576) :
    Calls Try.prog 15 #[.agg #[cv, tv, .int .i64 s.clock, lv]] w fun r w' => ∃ v, r = .returned v ∧ OwnInt w.heap.size w' v (s.cells.map (·.num)) ∧ Below w.heap.size w w' := by
  obtain ⟨i0, hi, hz0, hz1, hz2⟩ := info_parts Try.info_int
  obtain ⟨ac, cc, rfl⟩ := hc0
  obtain ⟨at', ct, rfl⟩ := ht0
  obtain ⟨al, cl, rfl⟩ := hl0
  obtain ⟨a, cap, e, hm, hc⟩ := h
  injection e with e1 e2 e3
  subst e1 e3
  clear e2
  have hml : (s.cells.map (·.num)).length = s.cells.length := by simp
  go_enter Try.func15, Try.ntmps15
  go_wp2_with fail
  go_loopw [3, 9] (fun o q w' => ∃ (k : Nat) (xs : List Int), k ≤ s.cells.length ∧ q = .int .i64 k ∧ xs = (s.cells.map (·.num)).take k ∧ OwnInt (w.heap.size + 1) w' o xs ∧ Below (w.heap.size + 1) (w.alloc (.cells #[.slice ac s.cells.length cc, .slice at' s.tasks.length ct, .int .i64 s.clock, .slice al s.log.length cl] 32)) w') (fun _ q _ => s.cells.length - (intOf q).toNat)
  case atStart => exact ⟨0, [], Nat.zero_le _, rfl, rfl, World.ownsRow_nil _ _ _ _, Below.refl _ _⟩
  case round =>
    obtain ⟨k, xs, hk, rfl, hxs, hown, hb⟩ := hrel
    have hkl : xs.length = k := by rw [hxs]; simp; omega
    have HKL := (show Hid (_ = k) from hkl)
    have HX := (show Hid (xs = _) from hxs)
    clear hkl hxs
    have hbw : Below w.heap.size w wr := ((Below.refl _ _).alloc (Nat.le_refl _) _).trans (hb.mono (by omega))
    have hsz : w.heap.size + 1 ≤ wr.heap.size := by have := hb.size; simpa using this
    have e0 : wr.cell? ⟨w.heap.size, 0, none⟩ = some (.slice ac s.cells.length cc) := by rw [hb.cell (p := ⟨w.heap.size, 0, none⟩) (by simp)]; simp
    have HOW := (show Hid (OwnInt _ _ _ _) from hown)
    have HB := (show Hid (Below _ _ _) from hb)
    clear hown hb
    by_cases hlt : k < s.cells.length
    · have hlt' : (k : Int) < (s.cells.length : Int) := by omega
      obtain ⟨b, off, rfl, hbw', c0, c1, c2⟩ := hc k hlt
      rw [← hbw.cell (p := ⟨b, _, none⟩) hbw'] at c0 c1 c2
      have HT : Hid ((s.cells.map (·.num)).take (k + 1) = _) := map_take Ce.z (·.num) s.cells k hlt
      
      clear hc hbw hml
      go_wp2_with (at_builtin; refine wpList_append_own _ rfl _ _ 23 rfl (w.heap.size + 1) 3 i0 (.int .i64 0) 1 8 Try.underlying23 hi hz0 hz1 hz2 rfl (by decide) _ _ _ rfl (own_below HOW.out (by repeat (first | with_reducible exact Below.refl _ _ | (with_reducible refine Below.setCell ?_ ?hs _; case hs => ((try simp); try omega)) | (with_reducible refine Below.alloc ?_ ?hs _; case hs => ((try simp); try omega)) | with_reducible refine Below.drew ?_)) (Nat.le_refl _)) ⟨wr.heap.size + 1, 0, none⟩ 1 1 [.int .i64 (nth Ce.z s.cells k).num] rfl rfl (fun j u hj => by match j, hj with | 0, hj => simp at hj; subst hj; simp [Addr.add]) (fun u hu => by simp at hu; subst hu; rfl) ?a3 ?a4 ?a5 ?_)
      case a3 => have := HKL.out; unfold maxLen; omega
      case a4 => have := HKL.out; omega
      case a5 => (try simp); omega
      intro v' w4 hown' hgrow _
      have HO4 : Hid (OwnInt (w.heap.size + 1) w4 v' (xs ++ [(nth Ce.z s.cells k).num])) := OwnInt.snoc hown'
      have hge : ∀ g, u3.ownBlock = some g → w.heap.size + 1 ≤ g := fun g hg => (HOW.out.lt g hg).1
      have HB4 : Hid (Below (w.heap.size + 1) (w.alloc _) w4) := Below.grown (by repeat (first | with_reducible exact HB.out | (with_reducible refine Below.setCell ?_ ?hs _; case hs => ((try simp); try omega)) | (with_reducible refine Below.alloc ?_ ?hs _; case hs => ((try simp); try omega)) | with_reducible refine Below.drew ?_)) hgrow (by simp; omega) hge
      clear hown' hgrow HOW HB hge c0 c1 c2 e0
      go_wp2_with fail
      go_roundw
      case rel => exact ⟨k + 1, _, by omega, by go_num, by rw [HT.out, HX.out], HO4.out, HB4.out⟩
      case measure => simp [intOf]; omega
    · have hk' : ¬ (k : Int) < (s.cells.length : Int) := by omega
      have HR : Hid (OwnInt (w.heap.size + 1) wr u3 (s.cells.map (·.num))) := by
        have := HOW.out; rw [HX.out, List.take_of_length_le (by simp; omega)] at this; exact this
      have HW := (show Hid (Below _ _ _) from hbw)
      clear hc HOW hbw HB
      go_wp2_with fail
      go_ret
      exact ⟨_, rfl, own_base HR.out (by omega), HW.out⟩
end Go.Proofs.Ytgbgjljflgbcaaa
