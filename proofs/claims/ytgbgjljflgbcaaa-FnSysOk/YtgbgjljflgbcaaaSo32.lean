import Derived.Test.YtgbgjljflgbcaaaSo31
import Derived.Test.YtgbgjljflgbcaaaSo01
import Derived.Test.YtgbgjljflgbcaaaSo06
namespace Go.Proofs.Ytgbgjljflgbcaaa
set_option maxHeartbeats 8000000
open Go.RowKit
set_option linter.unusedSimpArgs false
set_option linter.unusedVariables false
set_option maxRecDepth 20000
theorem holds_b (t : Ta) {bb : Bool} (a3 a8 a9 a10 : Option Addr) (c3 c8 c9 c10 : Nat) (c : Int) (w : World) (h : PusAt w (.slice a10 t.puts.length c10) t.puts) (hs : t.stage = 0 \/ t.stage = 1 \/ t.stage = 2 \/ t.stage = 3 \/ t.stage = 4 \/ t.stage = 5) (nu : t.puts.length <= 1048576) (hb : mHoB t c = bb) : Calls Try.prog 105 #[.agg #[.int .i64 t.body, .int .i64 t.pc, .int .i64 t.up, .slice a3 t.regs.length c3, .int .i64 t.way, .int .i64 t.stage, .int .i64 t.at_, .int .i64 t.since, .slice a8 t.old.length c8, .slice a9 t.reads.length c9, .slice a10 t.puts.length c10, .int .i64 t.when_, .int .i64 t.from_], .int .i64 c] w fun r w' => r = .returned (.bool bb) /\ Below w.heap.size w w' := by
 subst hb; exact l12Holds_any t a3 a8 a9 a10 c3 c8 c9 c10 c w h hs nu
theorem l12Cells_any (s : Sy) (sa0 sa1 sa3 : Option Addr) (sc0 sc1 sc3 : Nat) (w : World) (hC : CesAt w (.slice sa0 s.cells.length sc0) s.cells) (hT : TasAt w (.slice sa1 s.tasks.length sc1) s.tasks) (hn : s.cells.length <= 1048576) (htn : s.tasks.length <= 1048576) (hf : ∀ i, i < s.tasks.length -> ((nth Ta.z s.tasks i).stage = 0 \/ (nth Ta.z s.tasks i).stage = 1 \/ (nth Ta.z s.tasks i).stage = 2 \/ (nth Ta.z s.tasks i).stage = 3 \/ (nth Ta.z s.tasks i).stage = 4 \/ (nth Ta.z s.tasks i).stage = 5) /\ (nth Ta.z s.tasks i).puts.length <= 1048576) :
   Calls Try.prog 54 #[.agg #[.slice sa0 s.cells.length sc0, .slice sa1 s.tasks.length sc1, .int .i64 s.clock, .slice sa3 s.log.length sc3]] w fun r w' => r = .returned (.bool (mCesB s)) /\ Below w.heap.size w w' := by
 obtain ⟨a, cap, e, hm, hc⟩ := hC
 injection e with e1 e2 e3
 subst e1 e3
 clear e2
 obtain ⟨ta, tcap, te, thm, thc⟩ := hT
 injection te with te1 te2 te3
 subst te1 te3
 clear te2
 have HFA := (show Hid (∀ i, i < s.tasks.length -> _) from hf)
 clear hf
 go_enter Try.func54, Try.ntmps54
 go_wp2_with fail
 go_loopw [3] (fun q w' => ∃ i : Nat, i <= s.cells.length /\ q = .int .i64 i /\ Below (w.heap.size + 1) (w.alloc (.cells #[.slice sa0 s.cells.length sc0, .slice sa1 s.tasks.length sc1, .int .i64 s.clock, .slice sa3 s.log.length sc3] 32)) w' /\ (∀ j, j < i -> mCeB s j = true)) (fun q _ => s.cells.length - (intOf q).toNat)
 case atStart => exact ⟨0, Nat.zero_le _, rfl, Below.refl _ _, fun j hj => absurd hj (Nat.not_lt_zero _)⟩
 case round =>
   obtain ⟨i, hi, rfl, hb, hall⟩ := hrel
   rename World => W0
   have hsz : w.heap.size + 1 <= W0.heap.size := by have := hb.size; simpa using this
   have z0 : w.heap.size < W0.heap.size := by omega
   have hbw : Below w.heap.size w W0 := ((Below.refl _ _).alloc (Nat.le_refl _) _).trans (hb.mono (by omega))
   have e0 : W0.cell? ⟨w.heap.size, 0, none⟩ = some (.slice sa0 s.cells.length sc0) := by rw [hb.cell (p := ⟨w.heap.size, 0, none⟩) (by simp)]; simp
   have e1 : W0.cell? ⟨w.heap.size, 1, none⟩ = some (.slice sa1 s.tasks.length sc1) := by rw [hb.cell (p := ⟨w.heap.size, 1, none⟩) (by simp)]; simp
   have e2 : W0.cell? ⟨w.heap.size, 2, none⟩ = some (.int .i64 s.clock) := by rw [hb.cell (p := ⟨w.heap.size, 2, none⟩) (by simp)]; simp
   have HB := (show Hid (Below (w.heap.size + 1) _ W0) from hb)
   have HBW := (show Hid (Below w.heap.size w W0) from hbw)
   by_cases hlt : i < s.cells.length
   . have hlt' : (i : Int) < (s.cells.length : Int) := by omega
     obtain ⟨b, off, rfl, hbb, c0, c1, c2⟩ := hc i hlt
     rw [<- hbw.cell (p := ⟨b, _, none⟩) hbb] at c0 c1 c2
     have hbr : b < W0.heap.size := by have := hbw.size; omega
     have HA := (show Hid (∀ j, j < i -> _) from hall)
     have HNO : Hid (mCeB s i = false -> mCesB s = false) := fun hf => by unfold mCesB; rw [List.all_eq_false]; exact ⟨i, List.mem_range.2 hlt, by simp [hf]⟩
     clear hall hb
     cases g1 : inB (nth Ce.z s.cells i).num 0 99
     . have HN : Hid (mCesB s = false) := HNO.out (by rw [in_pl100] at g1; unfold mCeB; simp [g1])
       have G1 := (show Hid (_ = _) from g1)
       clear g1 hc thc hbw
       go_wp2_with (go_at_call 52; with_reducible refine (l6In_b G1.out _).mono ?_; rintro e w' ⟨rfl, hw⟩; have hw := hw.symm; subst hw)
       go_ret
       exact ⟨by rw [HN.out]; rfl, (bqx HBW.out)⟩
     have P1 := (show Hid (_ = _) from (in_pl100 (nth Ce.z s.cells i).num).symm.trans g1)
     have G1 := (show Hid (_ = _) from g1)
     clear g1
     cases g2 : inB (nth Ce.z s.cells i).time 0 s.clock
     . have HN : Hid (mCesB s = false) := HNO.out (by unfold mCeB; simp [g2])
       have G2 := (show Hid (_ = _) from g2)
       clear g2 hc thc hbw
       go_wp2_with (first | (go_at_call 52; with_reducible refine (l6In_b G1.out _).mono ?_; rintro e w' ⟨rfl, hw⟩; have hw := hw.symm; subst hw) | (go_at_call 52; with_reducible refine (l6In_b G2.out _).mono ?_; rintro e w' ⟨rfl, hw⟩; have hw := hw.symm; subst hw))
       go_ret
       exact ⟨by rw [HN.out]; rfl, (bqx HBW.out)⟩
     have G2 := (show Hid (_ = _) from g2)
     clear g2
     cases g3 : inB (nth Ce.z s.cells i).lock (-1) ((s.tasks.length : Int) - 1)
     . have HN : Hid (mCesB s = false) := HNO.out (by unfold mCeB; simp [g3])
       have G3 := (show Hid (_ = _) from g3)
       clear g3 hc thc hbw
       go_wp2_with (first | (go_at_call 52; with_reducible refine (l6In_b G1.out _).mono ?_; rintro e w' ⟨rfl, hw⟩; have hw := hw.symm; subst hw) | (go_at_call 52; with_reducible refine (l6In_b G2.out _).mono ?_; rintro e w' ⟨rfl, hw⟩; have hw := hw.symm; subst hw) | (go_at_call 52; with_reducible refine (l6In_b G3.out _).mono ?_; rintro e w' ⟨rfl, hw⟩; have hw := hw.symm; subst hw))
       go_ret
       exact ⟨by rw [HN.out]; rfl, (bqx HBW.out)⟩
     have G3 := (show Hid (_ = _) from g3)
     clear g3
     go_wp2_with (first | (go_at_call 52; with_reducible refine (l6In_b G1.out _).mono ?_; rintro e w' ⟨rfl, hw⟩; have hw := hw.symm; subst hw) | (go_at_call 52; with_reducible refine (l6In_b G2.out _).mono ?_; rintro e w' ⟨rfl, hw⟩; have hw := hw.symm; subst hw) | (go_at_call 52; with_reducible refine (l6In_b G3.out _).mono ?_; rintro e w' ⟨rfl, hw⟩; have hw := hw.symm; subst hw))
     go_loopw [5] (fun q w' => ∃ k : Nat, k <= s.tasks.length /\ q = .int .i64 k /\ Below (W0.heap.size + 1) (W0.alloc (.cells #[.int .i64 (nth Ce.z s.cells i).num, .int .i64 (nth Ce.z s.cells i).time, .int .i64 (nth Ce.z s.cells i).lock] 45)) w' /\ (∀ j, j < k -> (mHoB (nth Ta.z s.tasks j) i == decide ((nth Ce.z s.cells i).lock = (j : Int))) = true)) (fun q _ => s.tasks.length - (intOf q).toNat)
     case atStart => exact ⟨0, Nat.zero_le _, rfl, Below.refl _ _, fun j hj => absurd hj (Nat.not_lt_zero _)⟩
     case round =>
       obtain ⟨k, hk, rfl, hb2, hall2⟩ := hrel
       have hsz2 : W0.heap.size + 1 <= wr.heap.size := by have := hb2.size; simpa using this
       have hbW : Below W0.heap.size W0 wr := ((Below.refl _ _).alloc (Nat.le_refl _) _).trans (hb2.mono (by omega))
       have x1 : wr.cell? ⟨w.heap.size, 1, none⟩ = some (.slice sa1 s.tasks.length sc1) := by rw [hbW.cell (p := ⟨w.heap.size, 1, none⟩) z0]; exact e1
       have x2 : wr.cell? ⟨W0.heap.size, 2, none⟩ = some (.int .i64 (nth Ce.z s.cells i).lock) := by rw [hb2.cell (p := ⟨W0.heap.size, 2, none⟩) (by simp)]; simp
       have y0 : w.heap.size < wr.heap.size := by omega
       have y1 : W0.heap.size < wr.heap.size := by omega
       have hbw2 : Below w.heap.size w wr := below_then HBW.out HBW.out.size hbW
       have HB2 := (show Hid (Below (W0.heap.size + 1) _ wr) from hb2)
       have HBW2 := (show Hid (Below w.heap.size w wr) from hbw2)
       have HBP := (show Hid (Below (w.heap.size + 1) _ wr) from below_then HB.out hsz hbW)
       by_cases hkl : k < s.tasks.length
       . have hkl' : (k : Int) < (s.tasks.length : Int) := by omega
         obtain ⟨b2, off2, v3, v8, v9, v10, rfl, hbx, d0, d1, d2, d3, d4, d5, d6, d7, d8, d9, d10, d11, d12, h3, h8, h9, h10⟩ := thc k hkl
         rw [<- hbw2.cell (p := ⟨b2, _, none⟩) hbx] at d0 d1 d2 d3 d4 d5 d6 d7 d8 d9 d10 d11 d12
         have hbxr : b2 < wr.heap.size := by have := hbw2.size; omega
         obtain ⟨a3, e3, rfl, _⟩ := h3.shape
         obtain ⟨a8, e8, rfl, _⟩ := h8.shape
         obtain ⟨a9, e9, rfl, _⟩ := h9.shape
         obtain ⟨a10, e10, rfl, _⟩ := h10.shape
         have H10 := (show Hid (PusAt wr.drew _ _) from h10.mono hbw2.drew)
         obtain ⟨hs, hnu⟩ := HFA.out k hkl
         have HS := (show Hid ((nth Ta.z s.tasks k).stage = 0 \/ _) from hs)
         have HA2 := (show Hid (∀ j, j < k -> _) from hall2)
         clear h3 h8 h9 h10 hs hall2 hb2 hbw2 hbW hc thc hbw
         cases g4 : mHoB (nth Ta.z s.tasks k) i
         . by_cases g5 : (nth Ce.z s.cells i).lock = (k : Int)
           . have G4 := (show Hid (_ = _) from g4)
             clear g4
             have g5' : ((nth Ce.z s.cells i).lock == (k : Int)) = true := by simp [g5]
             have D5 : Hid (decide ((nth Ce.z s.cells i).lock = (k : Int)) = true) := decide_eq_true g5
             have Q5 := (show Hid _ from g5)
             clear g5
             have HN : Hid (mCesB s = false) := HNO.out (by
               have hx : ((List.range s.tasks.length).all fun k => mHoB (nth Ta.z s.tasks k) i == decide ((nth Ce.z s.cells i).lock = (k : Int))) = false := by
                 rw [List.all_eq_false]; exact ⟨k, List.mem_range.2 hkl, by rw [G4.out, D5.out]; decide⟩
               unfold mCeB; rw [hx, Bool.and_false])
             go_wp2_with fail
             go_region_with (go_at_call 105; refine (holds_b (nth Ta.z s.tasks k) _ _ _ _ _ _ _ _ _ _ H10.out HS.out hnu G4.out).mono ?_; rintro e w2 ⟨rfl, hb3⟩; have HB3 : Hid (Below (W0.heap.size + 1) (W0.alloc (.cells #[.int .i64 (nth Ce.z s.cells i).num, .int .i64 (nth Ce.z s.cells i).time, .int .i64 (nth Ce.z s.cells i).lock] 45)) w2) := below_drewed HB2.out hsz2 hb3; have HW3 : Hid (Below w.heap.size w w2) := below_drewed HBW2.out HBW2.out.size hb3; have x2' : w2.cell? ⟨W0.heap.size, 2, none⟩ = some (.int .i64 (nth Ce.z s.cells i).lock) := (hb3.cell (p := ⟨W0.heap.size, 2, none⟩) y1).trans x2; clear hb3)
             all_goals
               go_wp2_with fail
               go_ret
               exact ⟨by rw [HN.out]; rfl, HW3.out⟩
           . have G4 := (show Hid (_ = _) from g4)
             clear g4
             have g5' : ((nth Ce.z s.cells i).lock == (k : Int)) = false := by simp [g5]
             have D5 : Hid (decide ((nth Ce.z s.cells i).lock = (k : Int)) = false) := decide_eq_false g5
             have Q5 := (show Hid _ from g5)
             clear g5
             have HA3 : Hid (∀ j, j < k + 1 -> (mHoB (nth Ta.z s.tasks j) i == decide ((nth Ce.z s.cells i).lock = (j : Int))) = true) := so_far HA2.out (by rw [G4.out, D5.out]; rfl)
             go_wp2_with fail
             go_region_with (go_at_call 105; refine (holds_b (nth Ta.z s.tasks k) _ _ _ _ _ _ _ _ _ _ H10.out HS.out hnu G4.out).mono ?_; rintro e w2 ⟨rfl, hb3⟩; have HB3 : Hid (Below (W0.heap.size + 1) (W0.alloc (.cells #[.int .i64 (nth Ce.z s.cells i).num, .int .i64 (nth Ce.z s.cells i).time, .int .i64 (nth Ce.z s.cells i).lock] 45)) w2) := below_drewed HB2.out hsz2 hb3; have HW3 : Hid (Below w.heap.size w w2) := below_drewed HBW2.out HBW2.out.size hb3; have x2' : w2.cell? ⟨W0.heap.size, 2, none⟩ = some (.int .i64 (nth Ce.z s.cells i).lock) := (hb3.cell (p := ⟨W0.heap.size, 2, none⟩) y1).trans x2; clear hb3)
             all_goals
               go_wp2_with fail
               go_roundw
               case rel => exact ⟨k + 1, by omega, by go_num, HB3.out, HA3.out⟩
               case measure => simp [intOf]; omega
         . by_cases g5 : (nth Ce.z s.cells i).lock = (k : Int)
           . have G4 := (show Hid (_ = _) from g4)
             clear g4
             have g5' : ((nth Ce.z s.cells i).lock == (k : Int)) = true := by simp [g5]
             have D5 : Hid (decide ((nth Ce.z s.cells i).lock = (k : Int)) = true) := decide_eq_true g5
             have Q5 := (show Hid _ from g5)
             clear g5
             have HA3 : Hid (∀ j, j < k + 1 -> (mHoB (nth Ta.z s.tasks j) i == decide ((nth Ce.z s.cells i).lock = (j : Int))) = true) := so_far HA2.out (by rw [G4.out, D5.out]; rfl)
             go_wp2_with fail
             go_region_with (go_at_call 105; refine (holds_b (nth Ta.z s.tasks k) _ _ _ _ _ _ _ _ _ _ H10.out HS.out hnu G4.out).mono ?_; rintro e w2 ⟨rfl, hb3⟩; have HB3 : Hid (Below (W0.heap.size + 1) (W0.alloc (.cells #[.int .i64 (nth Ce.z s.cells i).num, .int .i64 (nth Ce.z s.cells i).time, .int .i64 (nth Ce.z s.cells i).lock] 45)) w2) := below_drewed HB2.out hsz2 hb3; have HW3 : Hid (Below w.heap.size w w2) := below_drewed HBW2.out HBW2.out.size hb3; have x2' : w2.cell? ⟨W0.heap.size, 2, none⟩ = some (.int .i64 (nth Ce.z s.cells i).lock) := (hb3.cell (p := ⟨W0.heap.size, 2, none⟩) y1).trans x2; clear hb3)
             all_goals
               go_wp2_with fail
               go_roundw
               case rel => exact ⟨k + 1, by omega, by go_num, HB3.out, HA3.out⟩
               case measure => simp [intOf]; omega
           . have G4 := (show Hid (_ = _) from g4)
             clear g4
             have g5' : ((nth Ce.z s.cells i).lock == (k : Int)) = false := by simp [g5]
             have D5 : Hid (decide ((nth Ce.z s.cells i).lock = (k : Int)) = false) := decide_eq_false g5
             have Q5 := (show Hid _ from g5)
             clear g5
             have HN : Hid (mCesB s = false) := HNO.out (by
               have hx : ((List.range s.tasks.length).all fun k => mHoB (nth Ta.z s.tasks k) i == decide ((nth Ce.z s.cells i).lock = (k : Int))) = false := by
                 rw [List.all_eq_false]; exact ⟨k, List.mem_range.2 hkl, by rw [G4.out, D5.out]; decide⟩
               unfold mCeB; rw [hx, Bool.and_false])
             go_wp2_with fail
             go_region_with (go_at_call 105; refine (holds_b (nth Ta.z s.tasks k) _ _ _ _ _ _ _ _ _ _ H10.out HS.out hnu G4.out).mono ?_; rintro e w2 ⟨rfl, hb3⟩; have HB3 : Hid (Below (W0.heap.size + 1) (W0.alloc (.cells #[.int .i64 (nth Ce.z s.cells i).num, .int .i64 (nth Ce.z s.cells i).time, .int .i64 (nth Ce.z s.cells i).lock] 45)) w2) := below_drewed HB2.out hsz2 hb3; have HW3 : Hid (Below w.heap.size w w2) := below_drewed HBW2.out HBW2.out.size hb3; have x2' : w2.cell? ⟨W0.heap.size, 2, none⟩ = some (.int .i64 (nth Ce.z s.cells i).lock) := (hb3.cell (p := ⟨W0.heap.size, 2, none⟩) y1).trans x2; clear hb3)
             all_goals
               go_wp2_with fail
               go_ret
               exact ⟨by rw [HN.out]; rfl, HW3.out⟩
       . have HCe : Hid (mCeB s i = true) := by
           have hx : ((List.range s.tasks.length).all fun k => mHoB (nth Ta.z s.tasks k) i == decide ((nth Ce.z s.cells i).lock = (k : Int))) = true := by
             rw [List.all_eq_true]; intro j hj; exact hall2 j (by have := List.mem_range.1 hj; omega)
           unfold Hid mCeB; rw [P1.out, G2.out, G3.out, hx]; rfl
         have HA4 : Hid (∀ j, j < i + 1 -> mCeB s j = true) := so_far HA.out HCe.out
         clear hall2 hb2 hbw2 hbW hc thc hbw
         go_wp2_with fail
         go_roundw
         case rel => exact ⟨i + 1, by omega, by go_num, HBP.out, HA4.out⟩
         case measure => simp [intOf]; omega
   . have HN : Hid (mCesB s = true) := by unfold Hid mCesB; rw [List.all_eq_true]; intro j hj; exact hall j (by have := List.mem_range.1 hj; omega)
     clear hc hall hb
     go_wp2_with fail
     go_ret
     exact ⟨by rw [HN.out]; rfl, HBW.out⟩

set_option maxRecDepth 20000
theorem list_b {v : Value} {xs : List Pu} {c : Nat} {b : Bool} (h : puB xs c = b) (w : World) (hi : PusAt w v xs) (hc : c <= 1048576) : Calls Try.prog 101 #[v, .int .i64 (c : Int)] w fun r w' => r = .returned (.bool b) /\ Below w.heap.size w w' := by subst h; exact l12List_any v xs c w hi hc
theorem l12Log_any (p : Pr) (pa0 pa1 : Option Addr) (pc0 pc1 : Nat) (s : Sy) (sa0 sa1 sa3 : Option Addr) (sc0 sc1 sc3 : Nat) (w : World) (hp : PrAt w (.slice pa0 p.cells.length pc0) (.slice pa1 p.bodies.length pc1) p) (hT : TasAt w (.slice sa1 s.tasks.length sc1) s.tasks) (hE : EnsAt w (.slice sa3 s.log.length sc3) s.log) (hcl : s.cells.length <= 1048576) (htk : s.tasks.length <= 1048576) (hbd : ∀ i, i < s.tasks.length -> ∃ bn : Nat, (nth Ta.z s.tasks i).body = (bn : Int) /\ bn < p.bodies.length) :
   Calls Try.prog 55 #[.agg #[.slice pa0 p.cells.length pc0, .slice pa1 p.bodies.length pc1], .agg #[.slice sa0 s.cells.length sc0, .slice sa1 s.tasks.length sc1, .int .i64 s.clock, .slice sa3 s.log.length sc3]] w fun r w' => r = .returned (.bool (mLgB p s)) /\ Below w.heap.size w w' := by
 have HP := (show Hid (PrAt _ _ _ _) from hp)
 have HT := (show Hid (TasAt _ _ _) from hT)
 have HBD := (show Hid (∀ i, i < s.tasks.length -> _) from hbd)
 obtain ⟨a, cap, e, hm, hc⟩ := hE
 injection e with e1 e2 e3
 subst e1 e3
 clear hp hT hbd e2
 go_enter Try.func55, Try.ntmps55
 go_wp2_with fail
 go_loopw [5] (fun q w' => ∃ k : Nat, k <= s.log.length /\ q = .int .i64 k /\ Below (w.heap.size + 2) ((w.alloc (.cells #[.slice pa0 p.cells.length pc0, .slice pa1 p.bodies.length pc1] 26)).alloc (.cells #[.slice sa0 s.cells.length sc0, .slice sa1 s.tasks.length sc1, .int .i64 s.clock, .slice sa3 s.log.length sc3] 32)) w' /\ (∀ j, j < k -> mEnB p s j = true)) (fun q _ => s.log.length - (intOf q).toNat)
 case atStart => exact ⟨0, Nat.zero_le _, rfl, Below.refl _ _, fun j hj => absurd hj (Nat.not_lt_zero _)⟩
 case round =>
   obtain ⟨k, hk, rfl, hb, hall⟩ := hrel
   have hbw : Below w.heap.size w wr := below_then bq0 (by (try simp); try omega) (hb.mono (by simp))
   have hsz : w.heap.size + 2 <= wr.heap.size := by have := hb.size; simpa using this
   have z0 : w.heap.size < wr.heap.size := by omega
   have z1 : w.heap.size + 1 < wr.heap.size := by omega
   have b01 : wr.cell? ⟨w.heap.size, 1, none⟩ = some (.slice pa1 p.bodies.length pc1) := by rw [hb.cell (p := ⟨w.heap.size, 1, none⟩) (by simp)]; simp [go_sem]
   have b10 : wr.cell? ⟨w.heap.size + 1, 0, none⟩ = some (.slice sa0 s.cells.length sc0) := by rw [hb.cell (p := ⟨w.heap.size + 1, 0, none⟩) (by simp)]; simp [go_sem]
   have b11 : wr.cell? ⟨w.heap.size + 1, 1, none⟩ = some (.slice sa1 s.tasks.length sc1) := by rw [hb.cell (p := ⟨w.heap.size + 1, 1, none⟩) (by simp)]; simp [go_sem]
   have b12 : wr.cell? ⟨w.heap.size + 1, 2, none⟩ = some (.int .i64 s.clock) := by rw [hb.cell (p := ⟨w.heap.size + 1, 2, none⟩) (by simp)]; simp [go_sem]
   have b13 : wr.cell? ⟨w.heap.size + 1, 3, none⟩ = some (.slice sa3 s.log.length sc3) := by rw [hb.cell (p := ⟨w.heap.size + 1, 3, none⟩) (by simp)]; simp [go_sem]
   have HB := (show Hid (Below (w.heap.size + 2) _ wr) from hb)
   have HBW := (show Hid (Below w.heap.size w wr) from hbw)
   by_cases hlt : k < s.log.length
   . have hlt' : (k : Int) < (s.log.length : Int) := by omega
     obtain ⟨b, off, v3, v4, rfl, hbb, c0, c1, c2, c3, c4, c5, h3, h4⟩ := hc k hlt
     rw [<- hbw.cell (p := ⟨b, _, none⟩) hbb] at c0 c1 c2 c3 c4 c5
     have hbr : b < wr.heap.size := by have := hbw.size; omega
     obtain ⟨a3, e3, rfl, _⟩ := h3.shape
     obtain ⟨a4, e4, rfl, _⟩ := h4.shape
     have H3 := (show Hid (PusAt _ _ _) from h3)
     have H4 := (show Hid (PusAt _ _ _) from h4)
     have HA := (show Hid (∀ j, j < k -> _) from hall)
     have HNO : Hid (mEnB p s k = false -> mLgB p s = false) := fun hf => by unfold mLgB; rw [List.all_eq_false]; exact ⟨k, List.mem_range.2 hlt, by simp [hf]⟩
     clear h3 h4 hall hb
     cases g1 : inB (nth En.z s.log k).task 0 ((s.tasks.length : Int) - 1)
     . have HN : Hid (mLgB p s = false) := HNO.out (by rw [in_pl] at g1; unfold mEnB enN; simp [g1])
       have G1 := (show Hid (_ = _) from g1)
       clear g1 hc hbw
       go_wp2_with fail
       refine (l6In_b G1.out _).mono ?_
       rintro e wq ⟨rfl, hw⟩
       have hw := hw.symm
       subst hw
       go_wp2_with fail
       go_ret
       exact ⟨by rw [HN.out]; rfl, (bqx HBW.out)⟩
     have p1 := g1
     rw [in_pl] at p1
     obtain ⟨tn, htn⟩ : ∃ tn : Nat, (nth En.z s.log k).task = (tn : Int) := ⟨(nth En.z s.log k).task.toNat, by rw [plB] at p1; simp at p1; omega⟩
     have htl : tn < s.tasks.length := by rw [plB] at p1; simp at p1; omega
     have htl' : (tn : Int) < (s.tasks.length : Int) := by omega
     have g1' : inB (tn : Int) 0 ((s.tasks.length : Int) - 1) = true := by rw [<- htn]; exact g1
     have G1 := (show Hid (_ = _) from g1')
     have HG1 := (show Hid (_ = _) from p1)
     obtain ⟨bn, hbn, hbl⟩ := HBD.out tn htl
     have hbl' : (bn : Int) < (p.bodies.length : Int) := by omega
     obtain ⟨ta, tcap, te, thm, thc⟩ := HT.out
     injection te with te1 te2 te3
     subst te1 te3
     obtain ⟨b2, off2, w3, w8, w9, w10, rfl, hbx, d0, _⟩ := thc tn htl
     obtain ⟨pa, pcap, pe, phm, phc⟩ := HP.out.2
     injection pe with pe1 pe2 pe3
     subst pe1 pe3
     obtain ⟨b3, off3, av, rfl, hby, f0, ha⟩ := phc bn hbl
     obtain ⟨aa, aac, rfl, hma, _⟩ := ha
     rw [<- hbw.cell (p := ⟨b2, _, none⟩) hbx] at d0
     rw [<- hbw.cell (p := ⟨b3, _, none⟩) hby] at f0
     have hbx' : b2 < wr.heap.size := by have := hbw.size; omega
     have hby' : b3 < wr.heap.size := by have := hbw.size; omega
     have HACT : Hid ((acts p (tkN s (enN s k).task.toNat)).length = (nth [] p.bodies bn).length) := by
       unfold Hid acts tkN enN; rw [htn, Int.toNat_natCast, hbn]; rfl
     have hwa : IntKind.i64.wrap (((nth [] p.bodies bn).length : Int) - 1) = ((nth [] p.bodies bn).length : Int) - 1 := by rw [IntKind.wrap_i64]; omega
     clear g1 g1' p1 hc thc phc te2 pe2 hbw
     cases g2 : inB (nth En.z s.log k).when_ 0 s.clock
     . have HN : Hid (mLgB p s = false) := HNO.out (by unfold mEnB enN; simp [g2])
       have G2 := (show Hid (_ = _) from g2)
       clear g2
       go_wp2_with fail
       refine (l6In_b G1.out _).mono ?_
       rintro e wq ⟨rfl, hw⟩
       have hw := hw.symm
       subst hw
       go_wp2_with fail
       refine (l6In_b G2.out _).mono ?_
       rintro e wq ⟨rfl, hw⟩
       have hw := hw.symm
       subst hw
       go_wp2_with fail
       go_ret
       exact ⟨by rw [HN.out]; rfl, (bqx HBW.out)⟩
     have G2 := (show Hid (_ = _) from g2)
     clear g2
     cases g3 : inB (nth En.z s.log k).from_ 0 k
     . have HN : Hid (mLgB p s = false) := HNO.out (by unfold mEnB enN; simp [g3])
       have G3 := (show Hid (_ = _) from g3)
       clear g3
       go_wp2_with fail
       refine (l6In_b G1.out _).mono ?_
       rintro e wq ⟨rfl, hw⟩
       have hw := hw.symm
       subst hw
       go_wp2_with fail
       refine (l6In_b G2.out _).mono ?_
       rintro e wq ⟨rfl, hw⟩
       have hw := hw.symm
       subst hw
       go_wp2_with fail
       refine (l6In_b G3.out _).mono ?_
       rintro e wq ⟨rfl, hw⟩
       have hw := hw.symm
       subst hw
       go_wp2_with fail
       go_ret
       exact ⟨by rw [HN.out]; rfl, (bqx HBW.out)⟩
     have G3 := (show Hid (_ = _) from g3)
     clear g3
     cases g4 : puB (nth En.z s.log k).reads s.cells.length
     . have HN : Hid (mLgB p s = false) := HNO.out (by unfold mEnB enN; simp [g4])
       have G4 := (show Hid (_ = _) from g4)
       clear g4
       go_wp2_with fail
       refine (l6In_b G1.out _).mono ?_
       rintro e wq ⟨rfl, hw⟩
       have hw := hw.symm
       subst hw
       go_wp2_with fail
       refine (l6In_b G2.out _).mono ?_
       rintro e wq ⟨rfl, hw⟩
       have hw := hw.symm
       subst hw
       go_wp2_with fail
       refine (l6In_b G3.out _).mono ?_
       rintro e wq ⟨rfl, hw⟩
       have hw := hw.symm
       subst hw
       go_wp2_with fail
       refine (list_b G4.out _ (by exact PusAt.mono H3.out (bqx HBW.out)) hcl).mono ?_
       rintro e w1 ⟨rfl, hc1⟩
       have HW1 : Hid (Below w.heap.size w w1) := below_then (bqx HBW.out) (by (try simp); try omega) hc1
       have HV1 : Hid (Below (w.heap.size + 2) ((w.alloc (.cells #[.slice pa0 p.cells.length pc0, .slice (some ⟨b3, off3, none⟩) p.bodies.length pc1] 26)).alloc (.cells #[.slice sa0 s.cells.length sc0, .slice (some ⟨b2, off2, none⟩) s.tasks.length sc1, .int .i64 s.clock, .slice (some ⟨b, off, none⟩) s.log.length sc3] 32)) w1) := below_then (bqx HB.out) (by (try simp); try omega) hc1
       obtain ⟨hx1, hy1⟩ := bcell hc1
       have t1a : w.heap.size < w1.heap.size := by have := hc1.size; (try simp at this); omega
       have t1b : w.heap.size + 1 < w1.heap.size := by have := hc1.size; (try simp at this); omega
       have t1d : wr.heap.size < w1.heap.size := by have := hc1.size; (try simp at this); omega
       have t1e : b2 < w1.heap.size := by omega
       have t1f : b3 < w1.heap.size := by omega
       have hsz1 := HW1.out.size
       clear hc1 hy1
       go_wp2_with fail
       go_ret
       exact ⟨by rw [HN.out]; rfl, (bqx HW1.out)⟩
     have G4 := (show Hid (_ = _) from g4)
     clear g4
     cases g5 : puB (nth En.z s.log k).puts s.cells.length
     . have HN : Hid (mLgB p s = false) := HNO.out (by unfold mEnB enN; simp [g5])
       have G5 := (show Hid (_ = _) from g5)
       clear g5
       go_wp2_with fail
       refine (l6In_b G1.out _).mono ?_
       rintro e wq ⟨rfl, hw⟩
       have hw := hw.symm
       subst hw
       go_wp2_with fail
       refine (l6In_b G2.out _).mono ?_
       rintro e wq ⟨rfl, hw⟩
       have hw := hw.symm
       subst hw
       go_wp2_with fail
       refine (l6In_b G3.out _).mono ?_
       rintro e wq ⟨rfl, hw⟩
       have hw := hw.symm
       subst hw
       go_wp2_with fail
       refine (list_b G4.out _ (by exact PusAt.mono H3.out (bqx HBW.out)) hcl).mono ?_
       rintro e w1 ⟨rfl, hc1⟩
       have HW1 : Hid (Below w.heap.size w w1) := below_then (bqx HBW.out) (by (try simp); try omega) hc1
       have HV1 : Hid (Below (w.heap.size + 2) ((w.alloc (.cells #[.slice pa0 p.cells.length pc0, .slice (some ⟨b3, off3, none⟩) p.bodies.length pc1] 26)).alloc (.cells #[.slice sa0 s.cells.length sc0, .slice (some ⟨b2, off2, none⟩) s.tasks.length sc1, .int .i64 s.clock, .slice (some ⟨b, off, none⟩) s.log.length sc3] 32)) w1) := below_then (bqx HB.out) (by (try simp); try omega) hc1
       obtain ⟨hx1, hy1⟩ := bcell hc1
       have t1a : w.heap.size < w1.heap.size := by have := hc1.size; (try simp at this); omega
       have t1b : w.heap.size + 1 < w1.heap.size := by have := hc1.size; (try simp at this); omega
       have t1d : wr.heap.size < w1.heap.size := by have := hc1.size; (try simp at this); omega
       have t1e : b2 < w1.heap.size := by omega
       have t1f : b3 < w1.heap.size := by omega
       have hsz1 := HW1.out.size
       clear hc1 hy1
       go_wp2_with fail
       refine (list_b G5.out _ (by exact PusAt.mono H4.out (bqx HW1.out)) hcl).mono ?_
       rintro e w2 ⟨rfl, hc2⟩
       have HW2 : Hid (Below w.heap.size w w2) := below_then (bqx HW1.out) (by (try simp); try omega) hc2
       have HV2 : Hid (Below (w.heap.size + 2) ((w.alloc (.cells #[.slice pa0 p.cells.length pc0, .slice (some ⟨b3, off3, none⟩) p.bodies.length pc1] 26)).alloc (.cells #[.slice sa0 s.cells.length sc0, .slice (some ⟨b2, off2, none⟩) s.tasks.length sc1, .int .i64 s.clock, .slice (some ⟨b, off, none⟩) s.log.length sc3] 32)) w2) := below_then (bqx HV1.out) (by (try simp); try omega) hc2
       obtain ⟨hx2, hy2⟩ := bcell hc2
       have t2a : w.heap.size < w2.heap.size := by have := hc2.size; (try simp at this); omega
       have t2b : w.heap.size + 1 < w2.heap.size := by have := hc2.size; (try simp at this); omega
       have t2d : wr.heap.size < w2.heap.size := by have := hc2.size; (try simp at this); omega
       have t2e : b2 < w2.heap.size := by omega
       have t2f : b3 < w2.heap.size := by omega
       have hsz2 := HW2.out.size
       clear hc2 hy2
       go_wp2_with fail
       go_ret
       exact ⟨by rw [HN.out]; rfl, (bqx HW2.out)⟩
     have G5 := (show Hid (_ = _) from g5)
     clear g5
     cases g6 : inB (nth En.z s.log k).act 0 (((nth [] p.bodies bn).length : Int) - 1)
     . have HN : Hid (mLgB p s = false) := HNO.out (by rw [in_pl] at g6; unfold mEnB; rw [HACT.out]; unfold enN; simp [g6])
       have G6 := (show Hid (_ = _) from g6)
       clear g6
       go_wp2_with fail
       refine (l6In_b G1.out _).mono ?_
       rintro e wq ⟨rfl, hw⟩
       have hw := hw.symm
       subst hw
       go_wp2_with fail
       refine (l6In_b G2.out _).mono ?_
       rintro e wq ⟨rfl, hw⟩
       have hw := hw.symm
       subst hw
       go_wp2_with fail
       refine (l6In_b G3.out _).mono ?_
       rintro e wq ⟨rfl, hw⟩
       have hw := hw.symm
       subst hw
       go_wp2_with fail
       refine (list_b G4.out _ (by exact PusAt.mono H3.out (bqx HBW.out)) hcl).mono ?_
       rintro e w1 ⟨rfl, hc1⟩
       have HW1 : Hid (Below w.heap.size w w1) := below_then (bqx HBW.out) (by (try simp); try omega) hc1
       have HV1 : Hid (Below (w.heap.size + 2) ((w.alloc (.cells #[.slice pa0 p.cells.length pc0, .slice (some ⟨b3, off3, none⟩) p.bodies.length pc1] 26)).alloc (.cells #[.slice sa0 s.cells.length sc0, .slice (some ⟨b2, off2, none⟩) s.tasks.length sc1, .int .i64 s.clock, .slice (some ⟨b, off, none⟩) s.log.length sc3] 32)) w1) := below_then (bqx HB.out) (by (try simp); try omega) hc1
       obtain ⟨hx1, hy1⟩ := bcell hc1
       have t1a : w.heap.size < w1.heap.size := by have := hc1.size; (try simp at this); omega
       have t1b : w.heap.size + 1 < w1.heap.size := by have := hc1.size; (try simp at this); omega
       have t1d : wr.heap.size < w1.heap.size := by have := hc1.size; (try simp at this); omega
       have t1e : b2 < w1.heap.size := by omega
       have t1f : b3 < w1.heap.size := by omega
       have hsz1 := HW1.out.size
       clear hc1 hy1
       go_wp2_with fail
       refine (list_b G5.out _ (by exact PusAt.mono H4.out (bqx HW1.out)) hcl).mono ?_
       rintro e w2 ⟨rfl, hc2⟩
       have HW2 : Hid (Below w.heap.size w w2) := below_then (bqx HW1.out) (by (try simp); try omega) hc2
       have HV2 : Hid (Below (w.heap.size + 2) ((w.alloc (.cells #[.slice pa0 p.cells.length pc0, .slice (some ⟨b3, off3, none⟩) p.bodies.length pc1] 26)).alloc (.cells #[.slice sa0 s.cells.length sc0, .slice (some ⟨b2, off2, none⟩) s.tasks.length sc1, .int .i64 s.clock, .slice (some ⟨b, off, none⟩) s.log.length sc3] 32)) w2) := below_then (bqx HV1.out) (by (try simp); try omega) hc2
       obtain ⟨hx2, hy2⟩ := bcell hc2
       have t2a : w.heap.size < w2.heap.size := by have := hc2.size; (try simp at this); omega
       have t2b : w.heap.size + 1 < w2.heap.size := by have := hc2.size; (try simp at this); omega
       have t2d : wr.heap.size < w2.heap.size := by have := hc2.size; (try simp at this); omega
       have t2e : b2 < w2.heap.size := by omega
       have t2f : b3 < w2.heap.size := by omega
       have hsz2 := HW2.out.size
       clear hc2 hy2
       go_wp2_with fail
       go_quiet ((go_at_call 52; with_reducible exact Calls.quiet_of_same (l6In_b G6.out _)))
       go_wp2_with fail
       go_ret
       exact ⟨by rw [HN.out]; rfl, (bqx HW2.out)⟩
     have P6 := (show Hid (_ = _) from (in_pl (nth En.z s.log k).act (nth [] p.bodies bn).length).symm.trans g6)
     have G6 := (show Hid (_ = _) from g6)
     clear g6
     have HA1 : Hid (∀ j, j < k + 1 -> mEnB p s j = true) := so_far HA.out (by
       unfold mEnB; rw [HACT.out]; unfold enN; rw [HG1.out, G2.out, G3.out, G4.out, G5.out, P6.out]; rfl)
     go_wp2_with fail
     refine (l6In_b G1.out _).mono ?_
     rintro e wq ⟨rfl, hw⟩
     have hw := hw.symm
     subst hw
     go_wp2_with fail
     refine (l6In_b G2.out _).mono ?_
     rintro e wq ⟨rfl, hw⟩
     have hw := hw.symm
     subst hw
     go_wp2_with fail
     refine (l6In_b G3.out _).mono ?_
     rintro e wq ⟨rfl, hw⟩
     have hw := hw.symm
     subst hw
     go_wp2_with fail
     refine (list_b G4.out _ (by exact PusAt.mono H3.out (bqx HBW.out)) hcl).mono ?_
     rintro e w1 ⟨rfl, hc1⟩
     have HW1 : Hid (Below w.heap.size w w1) := below_then (bqx HBW.out) (by (try simp); try omega) hc1
     have HV1 : Hid (Below (w.heap.size + 2) ((w.alloc (.cells #[.slice pa0 p.cells.length pc0, .slice (some ⟨b3, off3, none⟩) p.bodies.length pc1] 26)).alloc (.cells #[.slice sa0 s.cells.length sc0, .slice (some ⟨b2, off2, none⟩) s.tasks.length sc1, .int .i64 s.clock, .slice (some ⟨b, off, none⟩) s.log.length sc3] 32)) w1) := below_then (bqx HB.out) (by (try simp); try omega) hc1
     obtain ⟨hx1, hy1⟩ := bcell hc1
     have t1a : w.heap.size < w1.heap.size := by have := hc1.size; (try simp at this); omega
     have t1b : w.heap.size + 1 < w1.heap.size := by have := hc1.size; (try simp at this); omega
     have t1d : wr.heap.size < w1.heap.size := by have := hc1.size; (try simp at this); omega
     have t1e : b2 < w1.heap.size := by omega
     have t1f : b3 < w1.heap.size := by omega
     have hsz1 := HW1.out.size
     clear hc1 hy1
     go_wp2_with fail
     refine (list_b G5.out _ (by exact PusAt.mono H4.out (bqx HW1.out)) hcl).mono ?_
     rintro e w2 ⟨rfl, hc2⟩
     have HW2 : Hid (Below w.heap.size w w2) := below_then (bqx HW1.out) (by (try simp); try omega) hc2
     have HV2 : Hid (Below (w.heap.size + 2) ((w.alloc (.cells #[.slice pa0 p.cells.length pc0, .slice (some ⟨b3, off3, none⟩) p.bodies.length pc1] 26)).alloc (.cells #[.slice sa0 s.cells.length sc0, .slice (some ⟨b2, off2, none⟩) s.tasks.length sc1, .int .i64 s.clock, .slice (some ⟨b, off, none⟩) s.log.length sc3] 32)) w2) := below_then (bqx HV1.out) (by (try simp); try omega) hc2
     obtain ⟨hx2, hy2⟩ := bcell hc2
     have t2a : w.heap.size < w2.heap.size := by have := hc2.size; (try simp at this); omega
     have t2b : w.heap.size + 1 < w2.heap.size := by have := hc2.size; (try simp at this); omega
     have t2d : wr.heap.size < w2.heap.size := by have := hc2.size; (try simp at this); omega
     have t2e : b2 < w2.heap.size := by omega
     have t2f : b3 < w2.heap.size := by omega
     have hsz2 := HW2.out.size
     clear hc2 hy2
     go_wp2_with fail
     go_quiet ((go_at_call 52; with_reducible exact Calls.quiet_of_same (l6In_b G6.out _)))
     go_wp2_with fail
     go_roundw
     case rel => exact ⟨k + 1, by omega, by go_num, (bqx HV2.out), HA1.out⟩
     case measure => simp [intOf]; omega
   . have HN : Hid (mLgB p s = true) := by unfold Hid mLgB; rw [List.all_eq_true]; intro j hj; exact hall j (by have := List.mem_range.1 hj; omega)
     clear hc hall hb
     go_wp2_with fail
     go_ret
     exact ⟨by rw [HN.out]; rfl, HBW.out⟩
end Go.Proofs.Ytgbgjljflgbcaaa
