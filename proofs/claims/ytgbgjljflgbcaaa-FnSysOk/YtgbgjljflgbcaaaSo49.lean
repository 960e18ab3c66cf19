import Derived.Test.YtgbgjljflgbcaaaSo48
import Derived.Deep.QuietTactic
import Derived.BigQuiet
import Derived.Test.YtgbgjljflgbcaaaSo01
namespace Go.Proofs.Ytgbgjljflgbcaaa
set_option maxHeartbeats 8000000
open Go.RowKit
set_option linter.unusedSimpArgs false
set_option linter.unusedVariables false
set_option maxRecDepth 20000
theorem plc_is {n e : Int} {b : Bool} (h : plB n e = b) (w : World) : Calls Try.prog 45 #[.int .i64 n, .int .i64 e] w fun r w' => r = .returned (.bool b) /\ w' = w := by subst h; exact isPlace_any n e w
def upB (s : Sy) (t : Ta) : Bool := plB t.up s.tasks.length && !decide ((nth Ta.z s.tasks t.up.toNat).way = 1)
def tokB (s : Sy) : Bool := (List.range s.tasks.length).all fun i => !(lvB (nth Ta.z s.tasks i) && upB s (nth Ta.z s.tasks i))
theorem tokB_yes {s : Sy} (h : ∀ i, i < s.tasks.length -> (lvB (nth Ta.z s.tasks i) && upB s (nth Ta.z s.tasks i)) = false) : tokB s = true := by
 unfold tokB
 rw [List.all_eq_true]
 intro i hi
 rw [h i (List.mem_range.1 hi)]; rfl
theorem tokB_no {s : Sy} {i : Nat} (hi : i < s.tasks.length) (h1 : lvB (nth Ta.z s.tasks i) = true) (h2 : upB s (nth Ta.z s.tasks i) = true) : tokB s = false := by
 unfold tokB
 rw [List.all_eq_false]
 exact ⟨i, List.mem_range.2 hi, by rw [h1, h2]; simp⟩
theorem plB_nat {n : Int} {e : Nat} (h : plB n e = true) : ∃ j : Nat, n = (j : Int) /\ j < e := by
 have : 0 <= n /\ n < (e : Int) := by simpa [plB] using h
 exact ⟨n.toNat, by omega, by omega⟩
theorem treeOk_any (s : Sy) (ac at' al : Option Addr) (cc ct cl : Nat) (w : World) (h : TasAt w (.slice at' s.tasks.length ct) s.tasks) :
   Calls Try.prog 18 #[.agg #[.slice ac s.cells.length cc, .slice at' s.tasks.length ct, .int .i64 s.clock, .slice al s.log.length cl]] w fun r w' => r = .returned (.bool (tokB s)) /\ Below w.heap.size w w' := by
 obtain ⟨at'', ct'', e0, hm, hc⟩ := h
 injection e0 with e1 e2 e3
 subst e1 e3
 clear e2
 go_enter Try.func18, Try.ntmps18
 go_wp2_with fail
 go_loopw [8] (fun q w' => ∃ (k : Nat), k <= s.tasks.length /\ q = .int .i64 k /\ Hid (∀ i, i < k -> (lvB (nth Ta.z s.tasks i) && upB s (nth Ta.z s.tasks i)) = false) /\ Below (w.heap.size + 1) (w.alloc (.cells #[.slice ac s.cells.length cc, .slice at' s.tasks.length ct, .int .i64 s.clock, .slice al s.log.length cl] 32)) w') (fun q _ => s.tasks.length - (intOf q).toNat)
 case atStart => exact ⟨0, Nat.zero_le _, rfl, fun i hi => by omega, Below.refl _ _⟩
 case round =>
   obtain ⟨k, hk, rfl, HX, hb⟩ := hrel
   have hbw : Below w.heap.size w wr := ((Below.refl _ _).alloc (Nat.le_refl _) _).trans (hb.mono (by omega))
   have hsz : w.heap.size + 1 <= wr.heap.size := by have := hb.size; simpa using this
   have hsz' : w.heap.size < wr.heap.size := by omega
   have e1 : wr.cell? ⟨w.heap.size, 1, none⟩ = some (.slice at' s.tasks.length ct) := by rw [hb.cell (p := ⟨w.heap.size, 1, none⟩) (by simp)]; simp
   have HB := (show Hid (Below _ _ _) from hb)
   clear hb
   by_cases hlt : k < s.tasks.length
   . have hlt' : (k : Int) < (s.tasks.length : Int) := by omega
     have hc' := hc
     obtain ⟨b, off, v3, v8, v9, v10, rfl, hbw', c0, c1, c2, c3, c4, c5, c6, c7, c8, c9, c10, c11, c12, h3, h8, h9, h10⟩ := hc k hlt
     rw [<- hbw.cell (p := ⟨b, _, none⟩) hbw'] at c0 c1 c2 c3 c4 c5 c6 c7 c8 c9 c10 c11 c12
     obtain ⟨a3, e3', rfl, hm3⟩ := h3.shape
     obtain ⟨a8, e8', rfl, hm8⟩ := h8.shape
     obtain ⟨a9, e9', rfl, hm9⟩ := h9.shape
     obtain ⟨a10, e10', rfl, hm10⟩ := h10.shape
     clear hc h3 h8 h9 h10
     have HC := (show Hid (∀ i, i < s.tasks.length -> _) from hc')
     clear hc'
     cases q1 : lvB (nth Ta.z s.tasks k)
     . have HT : Hid (∀ i, i < k + 1 -> (lvB (nth Ta.z s.tasks i) && upB s (nth Ta.z s.tasks i)) = false) := fun i hi => by
         by_cases e : i = k
         . subst e; rw [q1]; rfl
         . exact HX.out i (by omega)
       have Q1 := (show Hid (_ = _) from q1)
       clear q1
       go_wp2_with fail
       refine (lv_any (nth Ta.z s.tasks k) _ _ _ _ _ _ _ _ _).mono ?_
       rw [Q1.out]
       rintro e w1 ⟨rfl, hb1⟩
       have hr1 : Below wr.heap.size wr w1 := below_then bq0 (by (try simp); try omega) hb1
       have x1 : w1.cell? ⟨w.heap.size, 1, none⟩ = some (.slice (some ⟨b, off, none⟩) s.tasks.length ct) := by rw [hr1.cell (p := ⟨w.heap.size, 1, none⟩) hsz']; exact e1
       have HB1 : Hid (Below (w.heap.size + 1) (w.alloc _) w1) := below_then HB.out hsz hr1
       clear hb1 hr1 HB hbw
       go_wp2_with fail
       go_roundw
       case rel => exact ⟨k + 1, by omega, by go_num, HT, (bqx HB1.out)⟩
       case measure => simp [intOf]; omega
     cases q2 : plB (nth Ta.z s.tasks k).up s.tasks.length
     . have HT : Hid (∀ i, i < k + 1 -> (lvB (nth Ta.z s.tasks i) && upB s (nth Ta.z s.tasks i)) = false) := fun i hi => by
         by_cases e : i = k
         . subst e; unfold upB; rw [q2]; simp
         . exact HX.out i (by omega)
       have Q1 := (show Hid (_ = _) from q1)
       have Q2 := (show Hid (_ = _) from q2)
       clear q1 q2
       go_wp2_with fail
       refine (lv_any (nth Ta.z s.tasks k) _ _ _ _ _ _ _ _ _).mono ?_
       rw [Q1.out]
       rintro e w1 ⟨rfl, hb1⟩
       have x2 : w1.cell? ⟨wr.heap.size, 2, none⟩ = some (.int .i64 (nth Ta.z s.tasks k).up) := by rw [hb1.cell (p := ⟨wr.heap.size, 2, none⟩) (by (try simp); try omega)]; simp [go_sem]
       have hr1 : Below wr.heap.size wr w1 := below_then bq0 (by (try simp); try omega) hb1
       have x1 : w1.cell? ⟨w.heap.size, 1, none⟩ = some (.slice (some ⟨b, off, none⟩) s.tasks.length ct) := by rw [hr1.cell (p := ⟨w.heap.size, 1, none⟩) hsz']; exact e1
       have HB1 : Hid (Below (w.heap.size + 1) (w.alloc _) w1) := below_then HB.out hsz hr1
       clear hb1 hr1 HB hbw e1 c0 c1 c2 c3 c4 c5 c6 c7 c8 c9 c10 c11 c12
       go_wp2_with fail
       refine (plc_is Q2.out _).mono ?_
       rintro e w2 ⟨rfl, hw⟩
       have hw := hw.symm
       subst hw
       go_wp2_with fail
       go_roundw
       case rel => exact ⟨k + 1, by omega, by go_num, HT, (bqx HB1.out)⟩
       case measure => simp [intOf]; omega
     obtain ⟨j, hj, hjl⟩ := plB_nat q2
     have hjl' : (j : Int) < (s.tasks.length : Int) := by omega
     obtain ⟨b', off', _, _, _, _, eb, _, _, _, _, _, d4, _⟩ := HC.out j hjl
     injection eb with eb
     injection eb with eb1 eb2
     subst eb1 eb2
     have HJ := (show Hid (_ = _) from hj)
     clear hj
     by_cases q3 : (nth Ta.z s.tasks j).way = 1
     . have HT : Hid (∀ i, i < k + 1 -> (lvB (nth Ta.z s.tasks i) && upB s (nth Ta.z s.tasks i)) = false) := fun i hi => by
         by_cases e : i = k
         . subst e; unfold upB; rw [HJ.out]; simp [q3]
         . exact HX.out i (by omega)
       have Q1 := (show Hid (_ = _) from q1)
       have Q2 := (show Hid (_ = _) from q2)
       have q3' : ((nth Ta.z s.tasks j).way == 1) = true := by simp [q3]
       clear q1 q2 q3
       go_wp2_with fail
       refine (lv_any (nth Ta.z s.tasks k) _ _ _ _ _ _ _ _ _).mono ?_
       rw [Q1.out]
       rintro e w1 ⟨rfl, hb1⟩
       have x2 : w1.cell? ⟨wr.heap.size, 2, none⟩ = some (.int .i64 (nth Ta.z s.tasks k).up) := by rw [hb1.cell (p := ⟨wr.heap.size, 2, none⟩) (by (try simp); try omega)]; simp [go_sem]
       rw [HJ.out] at x2 Q2
       have hr1 : Below wr.heap.size wr w1 := below_then bq0 (by (try simp); try omega) hb1
       have x1 : w1.cell? ⟨w.heap.size, 1, none⟩ = some (.slice (some ⟨b, off, none⟩) s.tasks.length ct) := by rw [hr1.cell (p := ⟨w.heap.size, 1, none⟩) hsz']; exact e1
       have x4 : w1.cell? ⟨b, off + j * 13 + 4, none⟩ = some (.int .i64 (nth Ta.z s.tasks j).way) := by rw [hr1.cell (p := ⟨b, _, none⟩) (Nat.lt_of_lt_of_le hbw' hbw.size), hbw.cell (p := ⟨b, _, none⟩) hbw']; exact d4
       have HB1 : Hid (Below (w.heap.size + 1) (w.alloc _) w1) := below_then HB.out hsz hr1
       clear hb1 hr1 HB hbw e1 c0 c1 c2 c3 c4 c5 c6 c7 c8 c9 c10 c11 c12 d4
       go_wp2_with fail
       refine (plc_is Q2.out _).mono ?_
       rintro e w2 ⟨rfl, hw⟩
       have hw := hw.symm
       subst hw
       go_wp2_with fail
       go_roundw
       case rel => exact ⟨k + 1, by omega, by go_num, HT, (bqx HB1.out)⟩
       case measure => simp [intOf]; omega
     . have HT : Hid (tokB s = false) := tokB_no hlt q1 (by unfold upB; rw [q2, HJ.out]; simp [q3])
       have Q1 := (show Hid (_ = _) from q1)
       have Q2 := (show Hid (_ = _) from q2)
       have q3' : ((nth Ta.z s.tasks j).way == 1) = false := by simp [q3]
       clear q1 q2 q3
       go_wp2_with fail
       refine (lv_any (nth Ta.z s.tasks k) _ _ _ _ _ _ _ _ _).mono ?_
       rw [Q1.out]
       rintro e w1 ⟨rfl, hb1⟩
       have x2 : w1.cell? ⟨wr.heap.size, 2, none⟩ = some (.int .i64 (nth Ta.z s.tasks k).up) := by rw [hb1.cell (p := ⟨wr.heap.size, 2, none⟩) (by (try simp); try omega)]; simp [go_sem]
       rw [HJ.out] at x2 Q2
       have hr1 : Below wr.heap.size wr w1 := below_then bq0 (by (try simp); try omega) hb1
       have x1 : w1.cell? ⟨w.heap.size, 1, none⟩ = some (.slice (some ⟨b, off, none⟩) s.tasks.length ct) := by rw [hr1.cell (p := ⟨w.heap.size, 1, none⟩) hsz']; exact e1
       have x4 : w1.cell? ⟨b, off + j * 13 + 4, none⟩ = some (.int .i64 (nth Ta.z s.tasks j).way) := by rw [hr1.cell (p := ⟨b, _, none⟩) (Nat.lt_of_lt_of_le hbw' hbw.size), hbw.cell (p := ⟨b, _, none⟩) hbw']; exact d4
       have HB1 : Hid (Below w.heap.size w w1) := below_then hbw hbw.size hr1
       clear hb1 hr1 HB hbw e1 c0 c1 c2 c3 c4 c5 c6 c7 c8 c9 c10 c11 c12 d4
       go_wp2_with fail
       refine (plc_is Q2.out _).mono ?_
       rintro e w2 ⟨rfl, hw⟩
       have hw := hw.symm
       subst hw
       go_wp2_with fail
       go_ret
       exact ⟨by rw [HT.out]; first | done | rfl, HB1.out⟩
   . have hk' : ¬ (k : Int) < (s.tasks.length : Int) := by omega
     have HT : Hid (tokB s = true) := tokB_yes (by rw [show s.tasks.length = k by omega]; exact HX.out)
     have HW := (show Hid (Below _ _ _) from hbw)
     clear hc hbw HB
     go_wp2_with fail
     go_ret
     exact ⟨by rw [HT.out]; first | done | rfl, HW.out⟩
end Go.Proofs.Ytgbgjljflgbcaaa
