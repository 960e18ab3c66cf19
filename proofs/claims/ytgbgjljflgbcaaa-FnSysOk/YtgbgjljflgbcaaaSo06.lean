import Derived.Test.YtgbgjljflgbcaaaSo05
import Derived.Test.YtgbgjljflgbcaaaSo01
import Derived.Test.YtgbgjljflgbcaaaSo04
import Derived.Handy
namespace Go.Proofs.Ytgbgjljflgbcaaa
set_option maxHeartbeats 8000000
open Go.RowKit
set_option linter.unusedSimpArgs false
set_option linter.unusedVariables false
set_option maxRecDepth 20000
theorem isPlace_b {n e : Int} {b : Bool} (h : plB n e = b) (w : World) : Calls Try.prog 45 #[.int .i64 n, .int .i64 e] w fun r w' => r = .returned (.bool b) /\ w' = w := by subst h; exact isPlace_any n e w
theorem isUpTo_b {n e : Int} {b : Bool} (h : inB n 0 e = b) (w : World) : Calls Try.prog 39 #[.int .i64 n, .int .i64 e] w fun r w' => r = .returned (.bool b) /\ w' = w := by subst h; exact isUpTo_any n e w
theorem regs_b {v : Value} {xs : List Int} {b : Bool} (h : rgB xs = b) (w : World) (hi : IntsAt w v xs) : Calls Try.prog 123 #[v] w fun r w' => r = .returned (.bool b) /\ w' = w := by subst h; exact regsInForm_rg v xs w hi
theorem actNext_g (p : Pr) (pa0 pa1 : Option Addr) (pc0 pc1 : Nat) (t : Ta) (x2 x4 x5 x6 x7 x11 x12 : Int) (n3 n8 n9 n10 : Nat) (a3 a8 a9 a10 : Option Addr) (c3 c8 c9 c10 : Nat) (bn pn : Nat) (w : World) (hp : PrAt w (.slice pa0 p.cells.length pc0) (.slice pa1 p.bodies.length pc1) p) (hb : t.body = (bn : Int)) (hbn : bn < p.bodies.length) (hpc : t.pc = (pn : Int)) (hpn : pn <= (nth [] p.bodies bn).length) :
   Calls Try.prog 124 #[.agg #[.slice pa0 p.cells.length pc0, .slice pa1 p.bodies.length pc1], .agg #[.int .i64 (bn : Int), .int .i64 (pn : Int), .int .i64 x2, .slice a3 n3 c3, .int .i64 x4, .int .i64 x5, .int .i64 x6, .int .i64 x7, .slice a8 n8 c8, .slice a9 n9 c9, .slice a10 n10 c10, .int .i64 x11, .int .i64 x12]] w fun r w' => ∃ ad cd ak ck, r = .returned (.agg #[.int .i64 (acN p t).k, .slice ad (acN p t).ds.length cd, .slice ak (acN p t).ks.length ck, .int .i64 (acN p t).r]) /\ Below w.heap.size w w' := by
 obtain ⟨a, cap, e, hm, hc⟩ := hp.2
 injection e with e1 e2 e3
 subst e1 e3
 obtain ⟨b, off, av, rfl, hbw, c0, ha⟩ := hc bn hbn
 obtain ⟨aa, ac, hav, hma, hac⟩ := ha
 subst hav
 have hA : acts p t = nth [] p.bodies bn := by unfold acts; rw [hb]; rfl
 have hbw1 : b < w.heap.size + 1 := by omega
 have hbw2' : b < w.heap.size + 1 + 1 := by omega
 have hbl : (bn : Int) < (p.bodies.length : Int) := by omega
 have hal : (nth [] p.bodies bn).length <= 9223372036854775807 := hma
 clear hc hp
 by_cases he : pn = (nth [] p.bodies bn).length
 . have HN : Hid (acN p t = Ac.z) := by unfold Hid acN; rw [if_pos (by rw [hA, hpc, he])]
   have he' : ((pn : Int) == ((nth [] p.bodies bn).length : Int)) = true := by rw [he]; simp
   have he2 : (pn : Int) = ((nth [] p.bodies bn).length : Int) := by rw [he]
   clear hac hpc hA he
   rw [HN.out]
   go_enter Try.func124, Try.ntmps124
   go_wp2_with fail
   refine bodyPost_ret (v := .agg #[.int .i64 0, .slice none 0 0, .slice none 0 0, .int .i64 0]) (by simp [results, Try.results124, go_sem]) rfl ⟨⟨none, 0, none, 0, rfl⟩, bq0⟩
 . have hlt : pn < (nth [] p.bodies bn).length := by omega
   obtain ⟨b2, off2, dv, kv, rfl, hbw2, d0, d1, d2, d3, hd, hk⟩ := hac pn hlt
   obtain ⟨ad, cd, rfl, _⟩ := hd.shape
   obtain ⟨ak, ck, rfl, _⟩ := hk.shape
   have hbx1 : b2 < w.heap.size + 1 := by omega
   have hbx2 : b2 < w.heap.size + 1 + 1 := by omega
   have HN : Hid (acN p t = nth Ac.z (nth [] p.bodies bn) pn) := by unfold Hid acN; rw [if_neg (by rw [hA, hpc]; omega), hA, hpc]; rfl
   have he' : ((pn : Int) == ((nth [] p.bodies bn).length : Int)) = false := by simp; omega
   have he2 : ¬ (pn : Int) = ((nth [] p.bodies bn).length : Int) := by omega
   have hlt' : (pn : Int) < ((nth [] p.bodies bn).length : Int) := by omega
   clear hac hA hd hk he
   rw [HN.out]
   go_enter Try.func124, Try.ntmps124
   go_wp2_with fail
   refine bodyPost_ret (v := .agg #[.int .i64 (nth Ac.z (nth [] p.bodies bn) pn).k, .slice ad (nth Ac.z (nth [] p.bodies bn) pn).ds.length cd, .slice ak (nth Ac.z (nth [] p.bodies bn) pn).ks.length ck, .int .i64 (nth Ac.z (nth [] p.bodies bn) pn).r]) (by simp [results, Try.results124, go_sem]) rfl ⟨⟨ad, cd, ak, ck, rfl⟩, bq0⟩
theorem actNext_v (p : Pr) (pa0 pa1 : Option Addr) (pc0 pc1 : Nat) (t : Ta) (x0 x1 x2 x4 x5 x6 x7 x11 x12 : Int) (n3 n8 n9 n10 : Nat) (a3 a8 a9 a10 : Option Addr) (c3 c8 c9 c10 : Nat) (bn pn : Nat) (w : World) (hp : PrAt w (.slice pa0 p.cells.length pc0) (.slice pa1 p.bodies.length pc1) p) (hb : t.body = (bn : Int)) (hbn : bn < p.bodies.length) (hpc : t.pc = (pn : Int)) (hpn : pn <= (nth [] p.bodies bn).length) (h0 : x0 = (bn : Int)) (h1 : x1 = (pn : Int)) :
  Calls Try.prog 124 #[.agg #[.slice pa0 p.cells.length pc0, .slice pa1 p.bodies.length pc1], .agg #[.int .i64 x0, .int .i64 x1, .int .i64 x2, .slice a3 n3 c3, .int .i64 x4, .int .i64 x5, .int .i64 x6, .int .i64 x7, .slice a8 n8 c8, .slice a9 n9 c9, .slice a10 n10 c10, .int .i64 x11, .int .i64 x12]] w fun r w' => ∃ ad cd ak ck, r = .returned (.agg #[.int .i64 (acN p t).k, .slice ad (acN p t).ds.length cd, .slice ak (acN p t).ks.length ck, .int .i64 (acN p t).r]) /\ Below w.heap.size w w' := by
 subst h0 h1
 exact actNext_g p pa0 pa1 pc0 pc1 t x2 x4 x5 x6 x7 x11 x12 n3 n8 n9 n10 a3 a8 a9 a10 c3 c8 c9 c10 bn pn w hp hb hbn hpc hpn

set_option maxRecDepth 20000
theorem l6In_b {n lo hi : Int} {b : Bool} (h : inB n lo hi = b) (w : World) : Calls Try.prog 52 #[.int .i64 n, .int .i64 lo, .int .i64 hi] w fun r w' => r = .returned (.bool b) /\ w' = w := by subst h; exact l6In_any n lo hi w
theorem l2Nums_rg (v : Value) (xs : List Int) (w : World) (h : IntsAt w v xs) :
   Calls Try.prog 100 #[v, .int .i64 3] w fun r w' => r = .returned (.bool (rgB xs)) /\ w' = w := by
 obtain ⟨a, cap, rfl, hm, hc⟩ := h
 go_enter Try.func100, Try.ntmps100
 go_wp2_with fail
 go_loop [5] (fun i => ∃ k : Nat, k <= xs.length /\ i = .int .i64 k /\ (∀ j, j < k -> plB (nth 0 xs j) 100 = true)) (fun i => xs.length - (intOf i).toNat)
 case atStart => exact ⟨0, Nat.zero_le _, rfl, fun j hj => absurd hj (Nat.not_lt_zero _)⟩
 case round =>
   obtain ⟨k, hk, rfl, hall⟩ := hrel
   by_cases hlt : k < xs.length
   . obtain ⟨b, off, rfl, hbw, c0⟩ := hc k hlt
     cases hd : inB (nth 0 xs k) 0 99
     . have HF : Hid (rgB xs = false) := by
         have : xs.all (plB · 100) = false := not_all_nth 0 (plB · 100) xs k hlt (by rw [<- in_pl100]; exact hd)
         simp [Hid, rgB, this]
       clear hc hall
       go_wp2_with (go_at_call 52; refine (l6In_any _ _ _ _).mono ?_; rintro e w' ⟨rfl, rfl⟩)
       go_ret
       exact ⟨by rw [HF.out]; rfl, rfl⟩
     . have HA : Hid (∀ j, j < k + 1 -> plB (nth 0 xs j) 100 = true) := so_far hall (by rw [<- in_pl100]; exact hd)
       clear hc hall
       go_wp2_with (go_at_call 52; refine (l6In_any _ _ _ _).mono ?_; rintro e w' ⟨rfl, rfl⟩)
       go_round
       case rel => exact ⟨k + 1, by omega, by go_num, HA.out⟩
       case measure => simp [intOf]; omega
   . have HF : Hid (rgB xs = ((xs.length : Int) == 3)) := by
       have : xs.all (plB · 100) = true := all_nth 0 (plB · 100) xs (fun j hj => hall j (by omega))
       unfold Hid rgB; rw [this, Bool.and_true]
       by_cases h3 : xs.length = 3 <;> simp [h3]
       omega
     clear hall hc
     go_wp2
     go_ret
     exact ⟨by rw [HF.out]; rfl, rfl⟩
theorem l12List_any (v : Value) (xs : List Pu) (c : Nat) (w : World) (h : PusAt w v xs) (hcb : c <= 1048576) :
   Calls Try.prog 101 #[v, .int .i64 (c : Int)] w fun r w' => r = .returned (.bool (puB xs c)) /\ Below w.heap.size w w' := by
 obtain ⟨a, cap, rfl, hm, hc⟩ := h
 have hwc : IntKind.i64.wrap ((c : Int) - 1) = (c : Int) - 1 := by rw [IntKind.wrap_i64]; omega
 go_enter Try.func101, Try.ntmps101
 go_wp2_with fail
 go_loopw [5] (fun q w' => ∃ k : Nat, k <= xs.length /\ q = .int .i64 k /\ Below w.heap.size w w' /\ (∀ j, j < k -> (plB (nth Pu.z xs j).c c && plB (nth Pu.z xs j).n 100 && (decide (j = 0) || decide ((nth Pu.z xs (j - 1)).c < (nth Pu.z xs j).c))) = true)) (fun q _ => xs.length - (intOf q).toNat)
 case atStart => exact ⟨0, Nat.zero_le _, rfl, Below.refl _ _, fun j hj => absurd hj (Nat.not_lt_zero _)⟩
 case round =>
   obtain ⟨k, hk, rfl, hb, hall⟩ := hrel
   have HB := (show Hid (Below _ _ _) from hb)
   have hsz := hb.size
   by_cases hlt : k < xs.length
   . have hlt' : (k : Int) < (xs.length : Int) := by omega
     obtain ⟨b, off, rfl, hbw, c0, c1⟩ := hc k hlt
     rw [<- hb.cell (p := ⟨b, _, none⟩) hbw] at c0 c1
     have hbr : b < wr.heap.size := by omega
     cases h1 : inB (nth Pu.z xs k).c 0 ((c : Int) - 1)
     . have HF : Hid (puB xs c = false) := puB_no hlt (by rw [in_pl] at h1; simp [h1])
       have G1 := (show Hid (_ = _) from h1)
       clear hc hall hb h1
       go_wp2_with fail
       go_quiet ((go_at_call 52; with_reducible exact Calls.quiet_of_same (l6In_b G1.out _)))
       go_wp2_with fail
       go_ret
       exact ⟨by rw [HF.out]; rfl, (bqx HB.out)⟩
     have P1 := (show Hid (_ = _) from (in_pl (nth Pu.z xs k).c c).symm.trans h1)
     have G1 := (show Hid (_ = _) from h1)
     clear h1
     cases h2 : inB (nth Pu.z xs k).n 0 99
     . have HF : Hid (puB xs c = false) := puB_no hlt (by rw [in_pl100] at h2; simp [h2])
       have G2 := (show Hid (_ = _) from h2)
       clear hc hall hb h2
       go_wp2_with fail
       go_quiet ((first | (go_at_call 52; with_reducible exact Calls.quiet_of_same (l6In_b G1.out _)) | (go_at_call 52; with_reducible exact Calls.quiet_of_same (l6In_b G2.out _))))
       go_wp2_with fail
       go_ret
       exact ⟨by rw [HF.out]; rfl, (bqx HB.out)⟩
     have P2 := (show Hid (_ = _) from (in_pl100 (nth Pu.z xs k).n).symm.trans h2)
     have G2 := (show Hid (_ = _) from h2)
     clear h2
     by_cases hk0 : k = 0
     . have HA : Hid (∀ j, j < k + 1 -> (plB (nth Pu.z xs j).c c && plB (nth Pu.z xs j).n 100 && (decide (j = 0) || decide ((nth Pu.z xs (j - 1)).c < (nth Pu.z xs j).c))) = true) := so_far hall (by rw [P1.out, P2.out]; simp [hk0])
       have hk1 : ¬ (0 : Int) < (k : Int) := by omega
       have hk2 : decide (0 < k) = false := by simp [hk0]
       have hk2' : ¬ 0 < k := by omega
       clear hc hall hb hk0
       go_wp2_with fail
       go_quiet ((first | (go_at_call 52; with_reducible exact Calls.quiet_of_same (l6In_b G1.out _)) | (go_at_call 52; with_reducible exact Calls.quiet_of_same (l6In_b G2.out _))))
       go_wp2_with fail
       go_roundw
       case rel => exact ⟨k + 1, by omega, by go_num, (bqx HB.out), HA.out⟩
       case measure => simp [intOf]; omega
     . obtain ⟨m, rfl⟩ : ∃ m, k = m + 1 := ⟨k - 1, by omega⟩
       have hk2 : decide (0 < m + 1) = true := by simp
       have hk1 : (0 : Int) < (m : Int) + 1 := by omega
       have hmm : (m : Int) < (xs.length : Int) := by omega
       have hmm' : (m : Int) + 1 < (xs.length : Int) := by omega
       have hme : ((m + 1 : Nat) : Int) = (m : Int) + 1 := by omega
       obtain ⟨b', off', e', hbw', d0, d1⟩ := hc m (by omega)
       injection e' with e2; injection e2 with e3 e4; subst e3 e4
       rw [<- hb.cell (p := ⟨b, _, none⟩) hbw] at d0
       rw [hme]
       have HME := (show Hid (_ = _) from hme)
       have hwr : IntKind.i64.wrap (m : Int) = (m : Int) := by rw [IntKind.wrap_i64]; omega
       clear hme hlt'
       by_cases h3 : (nth Pu.z xs m).c < (nth Pu.z xs (m + 1)).c
       . have h3' : ¬ (nth Pu.z xs (m + 1)).c <= (nth Pu.z xs m).c := by omega
         have HA : Hid (∀ j, j < m + 1 + 1 -> (plB (nth Pu.z xs j).c c && plB (nth Pu.z xs j).n 100 && (decide (j = 0) || decide ((nth Pu.z xs (j - 1)).c < (nth Pu.z xs j).c))) = true) := so_far hall (by rw [P1.out, P2.out]; simp [h3])
         clear hc hall hb d1 hk0
         go_wp2_with fail
         go_quiet ((first | (go_at_call 52; with_reducible exact Calls.quiet_of_same (l6In_b G1.out _)) | (go_at_call 52; with_reducible exact Calls.quiet_of_same (l6In_b G2.out _))))
         go_wp2_with fail
         go_roundw
         case rel => exact ⟨m + 1 + 1, by omega, by go_num, (bqx HB.out), HA.out⟩
         case measure => simp [intOf]; omega
       . have h3' : (nth Pu.z xs (m + 1)).c <= (nth Pu.z xs m).c := by omega
         have HF : Hid (puB xs c = false) := puB_no hlt (by rw [P1.out, P2.out]; simp [h3])
         clear hc hall hb d1 hk0
         go_wp2_with fail
         go_quiet ((first | (go_at_call 52; with_reducible exact Calls.quiet_of_same (l6In_b G1.out _)) | (go_at_call 52; with_reducible exact Calls.quiet_of_same (l6In_b G2.out _))))
         go_wp2_with fail
         go_ret
         exact ⟨by rw [HF.out]; rfl, (bqx HB.out)⟩
   . have HF : Hid (puB xs c = true) := puB_yes (fun j hj => hall j (by omega))
     clear hc hall
     go_wp2_with fail
     go_ret
     exact ⟨by rw [HF.out]; rfl, hb⟩
def fdI (xs : List Pu) (c : Int) : Int := match fdP xs c with
 | none => -1
 | some i => (i : Int)
theorem l11Find_any (v : Value) (xs : List Pu) (c : Int) (w : World) (h : PusAt w v xs) :
   Calls Try.prog 136 #[v, .int .i64 c] w fun r w' => r = .returned (.int .i64 (fdI xs c)) /\ w' = w := by
 obtain ⟨a, cap, rfl, hm, hc⟩ := h
 go_enter Try.func136, Try.ntmps136
 go_wp2_with fail
 go_loop [5] (fun i => ∃ k : Nat, k <= xs.length /\ i = .int .i64 k /\ (∀ j, j < k -> (nth Pu.z xs j).c ≠ c)) (fun i => xs.length - (intOf i).toNat)
 case atStart => exact ⟨0, Nat.zero_le _, rfl, fun j hj => absurd hj (Nat.not_lt_zero _)⟩
 case round =>
   obtain ⟨k, hk, rfl, hall⟩ := hrel
   by_cases hlt : k < xs.length
   . have hlt' : (k : Int) < (xs.length : Int) := by omega
     obtain ⟨b, off, rfl, hbw, c0, c1⟩ := hc k hlt
     by_cases he : (nth Pu.z xs k).c = c
     . have he' : ((nth Pu.z xs k).c == c) = true := by simp [he]
       have HF : Hid (fdI xs c = (k : Int)) := by
         have : fdP xs c = some k := by
           unfold fdP; rw [List.find?_range_eq_some]
           exact ⟨by simpa using he, List.mem_range.2 hlt, fun j hj => by simpa using hall j hj⟩
         unfold Hid fdI; rw [this]
       have HE := (show Hid (_ = _) from he)
       clear hc hall he
       go_wp2_with fail
       go_ret
       exact ⟨by rw [HF.out]; rfl, rfl⟩
     . have he' : ((nth Pu.z xs k).c == c) = false := by simp [he]
       have HA : Hid (∀ j, j < k + 1 -> (nth Pu.z xs j).c ≠ c) := so_far hall he
       clear hc hall
       go_wp2_with fail
       go_round
       case rel => exact ⟨k + 1, by omega, by go_num, HA.out⟩
       case measure => simp [intOf]; omega
   . have HF : Hid (fdI xs c = -1) := by
       have : fdP xs c = none := by
         unfold fdP; rw [List.find?_range_eq_none]
         intro j hj; simpa using hall j (by omega)
       unfold Hid fdI; rw [this]
     clear hc hall
     go_wp2_with fail
     go_ret
     exact ⟨by rw [HF.out]; rfl, rfl⟩

set_option maxRecDepth 20000
theorem l12At_any (t : Ta) (a3 a8 a9 a10 : Option Addr) (c3 c8 c9 c10 : Nat) (n : Nat) (w : World) (hs : t.stage = 0 \/ t.stage = 1 \/ t.stage = 2 \/ t.stage = 3 \/ t.stage = 4 \/ t.stage = 5) (nr : t.reads.length <= 1048576) (nu : t.puts.length <= 1048576) :
   Calls Try.prog 134 #[.agg #[.int .i64 t.body, .int .i64 t.pc, .int .i64 t.up, .slice a3 t.regs.length c3, .int .i64 t.way, .int .i64 t.stage, .int .i64 t.at_, .int .i64 t.since, .slice a8 t.old.length c8, .slice a9 t.reads.length c9, .slice a10 t.puts.length c10, .int .i64 t.when_, .int .i64 t.from_], .int .i64 (n : Int)] w fun r w' => r = .returned (.bool (mAtB t n)) /\ Below w.heap.size w w' := by
 by_cases ha : t.at_ = 0
 . have ha' : (t.at_ == 0) = true := by simp [ha]
   have HA := (show Hid (_ = _) from ha)
   clear ha
   cases g4 : inB t.at_ 0 t.reads.length
   all_goals
     have g4z : Hid (inB 0 0 (t.reads.length : Int) = inB t.at_ 0 t.reads.length) := by unfold Hid; rw [HA.out]
     rw [g4] at g4z
     rcases hs with e | e | e | e | e | e
     all_goals
       rw [e]
       go_enter Try.func134, Try.ntmps134
       go_wp2_with (go_at_call 52; refine (l6In_any _ _ _ _).mono ?_; rintro e w' ⟨rfl, hw⟩; have hw := hw.symm; subst hw)
       go_ret
       exact ⟨by simp [mAtB, e, HA.out, g4z.out, in_pl] <;> first | rfl | omega | (rw [Bool.eq_iff_iff]; simp; omega) | (cases hr : t.reads <;> cases hu : t.puts <;> simp <;> omega), bq0⟩
 . have ha' : (t.at_ == 0) = false := by simp [ha]
   cases g4 : inB t.at_ 0 t.reads.length
   all_goals
     rcases hs with e | e | e | e | e | e
     all_goals
       rw [e]
       go_enter Try.func134, Try.ntmps134
       go_wp2_with (go_at_call 52; refine (l6In_any _ _ _ _).mono ?_; rintro e w' ⟨rfl, hw⟩; have hw := hw.symm; subst hw)
       go_ret
       exact ⟨by simp [mAtB, e, ha, g4, in_pl] <;> first | rfl | omega | (rw [Bool.eq_iff_iff]; simp; omega) | (cases hr : t.reads <;> cases hu : t.puts <;> simp <;> omega), bq0⟩
theorem l12Times_any (t : Ta) (a3 a8 a9 a10 : Option Addr) (c3 c8 c9 c10 : Nat) (s : Sy) (sa0 sa1 sa3 : Option Addr) (sc0 sc1 sc3 : Nat) (w : World) (hs : t.stage = 0 \/ t.stage = 1 \/ t.stage = 2 \/ t.stage = 3 \/ t.stage = 4 \/ t.stage = 5) (h0 : 0 <= s.clock) (h200 : s.clock <= 200) (hll : s.log.length <= 1048576) :
   Calls Try.prog 102 #[.agg #[.int .i64 t.body, .int .i64 t.pc, .int .i64 t.up, .slice a3 t.regs.length c3, .int .i64 t.way, .int .i64 t.stage, .int .i64 t.at_, .int .i64 t.since, .slice a8 t.old.length c8, .slice a9 t.reads.length c9, .slice a10 t.puts.length c10, .int .i64 t.when_, .int .i64 t.from_], .agg #[.slice sa0 s.cells.length sc0, .slice sa1 s.tasks.length sc1, .int .i64 s.clock, .slice sa3 s.log.length sc3]] w fun r w' => r = .returned (.bool (mWhB t s)) /\ Below w.heap.size w w' := by
 cases g1 : inB t.since 0 s.clock
 . have HF : Hid (mWhB t s = false) := by unfold Hid mWhB; simp [g1]
   clear hs
   go_enter Try.func102, Try.ntmps102
   go_wp2_with (go_at_call 52; refine (l6In_any _ _ _ _).mono ?_; rintro e w' ⟨rfl, hw⟩; have hw := hw.symm; subst hw)
   go_ret
   exact ⟨by rw [HF.out]; rfl, bq0⟩
 cases g2 : inB t.from_ 0 s.log.length
 . have HF : Hid (mWhB t s = false) := by unfold Hid mWhB; simp [g2]
   clear hs
   go_enter Try.func102, Try.ntmps102
   go_wp2_with (go_at_call 52; refine (l6In_any _ _ _ _).mono ?_; rintro e w' ⟨rfl, hw⟩; have hw := hw.symm; subst hw)
   go_ret
   exact ⟨by rw [HF.out]; rfl, bq0⟩
 have hs1 : 0 <= t.since := by rw [inB] at g1; simp at g1; omega
 have hs2 : t.since <= 200 := by rw [inB] at g1; simp at g1; omega
 rcases hs with e | e | e | e | e | e
 all_goals
   have E5 := (show Hid (t.stage = _) from e)
   rw [e]
   go_enter Try.func102, Try.ntmps102
   go_wp2_with (go_at_call 52; refine (l6In_any _ _ _ _).mono ?_; rintro e w' ⟨rfl, hw⟩; have hw := hw.symm; subst hw)
   go_ret
   exact ⟨by simp [mWhB, E5.out, g1, g2] <;> first | rfl | omega, bq0⟩
theorem kin_snoc (ts : List Ta) (i way : Int) (t : Ta) : kin (ts ++ [t]) i way = kin ts i way + if t.up = i /\ t.way = way then 1 else 0 := by
 unfold kin
 rw [List.filter_append, List.length_append]
 by_cases h1 : t.up = i <;> by_cases h2 : t.way = way <;> simp [h1, h2]
theorem kin_le (ts : List Ta) (i way : Int) : kin ts i way <= ts.length := List.length_filter_le _ _
theorem kids_any (X : Nat) (ts : List Ta) (sa : Option Addr) (sc : Nat) (i way : Int) (w : World) (hX : w.cell? ⟨X, 3, none⟩ = some (.slice sa ts.length sc)) (hT : TasAt w (.slice sa ts.length sc) ts) :
   Calls Try.prog 135 #[.pointer (some ⟨X, 0, none⟩), .int .i64 i, .int .i64 way] w fun r w' => r = .returned (.int .i64 (kin ts i way)) /\ w' = w := by
 obtain ⟨a, cap, e, hm, hc⟩ := hT
 injection e with e1 e2 e3
 subst e1 e3
 clear e2
 go_enter Try.func135, Try.ntmps135
 go_wp2_with fail
 go_loop [7, 8] (fun u q => ∃ (k n : Nat), k <= ts.length /\ q = .int .i64 k /\ u = .int .i64 n /\ n = kin (ts.take k) i way) (fun _ q => ts.length - (intOf q).toNat)
 case atStart => exact ⟨0, 0, Nat.zero_le _, rfl, rfl, by simp [kin]⟩
 case round =>
   obtain ⟨k, n, hk, rfl, rfl, hn⟩ := hrel
   have hnk : n <= k := by rw [hn]; exact Nat.le_trans (kin_le _ _ _) (List.length_take_le _ _)
   have HN := (show Hid (n = _) from hn)
   clear hn
   by_cases hlt : k < ts.length
   . have hlt' : (k : Int) < (ts.length : Int) := by omega
     obtain ⟨b, off, v3, v8, v9, v10, rfl, hbw, c0, c1, c2, c3, c4, _⟩ := hc k hlt
     have HS : Hid (kin (ts.take (k + 1)) i way = kin (ts.take k) i way + if (nth Ta.z ts k).up = i /\ (nth Ta.z ts k).way = way then 1 else 0) := by unfold Hid; rw [take_nth Ta.z _ _ hlt]; exact kin_snoc _ _ _ _
     clear hc
     by_cases q1 : (nth Ta.z ts k).up = i
     . have q1' : ((nth Ta.z ts k).up == i) = true := by simp [q1]
       by_cases q2 : (nth Ta.z ts k).way = way
       . have q2' : ((nth Ta.z ts k).way == way) = true := by simp [q2]
         have HS' : Hid (kin (ts.take (k + 1)) i way = n + 1) := by unfold Hid; rw [HS.out, <- HN.out]; simp [q1, q2]
         have Q1 := (show Hid (_ = i) from q1)
         have Q2 := (show Hid (_ = way) from q2)
         clear q1 q2
         go_wp2_with fail
         go_round
         case rel => exact ⟨k + 1, n + 1, by omega, by go_num, by go_num, HS'.out.symm⟩
         case measure => simp [intOf]; omega
       . have q2' : ((nth Ta.z ts k).way == way) = false := by simp [q2]
         have HS' : Hid (kin (ts.take (k + 1)) i way = n) := by unfold Hid; rw [HS.out, <- HN.out]; simp [q2]
         have Q1 := (show Hid (_ = i) from q1)
         clear q1
         go_wp2_with fail
         go_round
         case rel => exact ⟨k + 1, n, by omega, by go_num, rfl, HS'.out.symm⟩
         case measure => simp [intOf]; omega
     . have q1' : ((nth Ta.z ts k).up == i) = false := by simp [q1]
       have HS' : Hid (kin (ts.take (k + 1)) i way = n) := by unfold Hid; rw [HS.out, <- HN.out]; simp [q1]
       go_wp2_with fail
       go_round
       case rel => exact ⟨k + 1, n, by omega, by go_num, rfl, HS'.out.symm⟩
       case measure => simp [intOf]; omega
   . have HF : Hid (kin ts i way = n) := by
       have := HN.out; rw [List.take_of_length_le (by omega)] at this; exact this.symm
     clear hc
     go_wp2_with fail
     go_ret
     exact ⟨by rw [HF.out]; rfl, rfl⟩
theorem l12Up_any (s : Sy) (sa0 sa1 sa3 : Option Addr) (sc0 sc1 sc3 : Nat) (i : Nat) (w : World) (hT : TasAt w (.slice sa1 s.tasks.length sc1) s.tasks) (hi : i < s.tasks.length) :
   Calls Try.prog 103 #[.agg #[.slice sa0 s.cells.length sc0, .slice sa1 s.tasks.length sc1, .int .i64 s.clock, .slice sa3 s.log.length sc3], .int .i64 (i : Int)] w fun r w' => r = .returned (.bool (upfB s i)) /\ Below w.heap.size w w' := by
 obtain ⟨a, cap, e, hm, hc⟩ := hT
 injection e with e1 e2 e3
 subst e1 e3
 have hi' : (i : Int) < (s.tasks.length : Int) := by omega
 obtain ⟨b, off, v3, v8, v9, v10, rfl, hbw, c0, c1, c2, c3, c4, c5, c6, c7, c8, c9, c10, c11, c12, h3, h8, h9, h10⟩ := hc i hi
 obtain ⟨a3, e3, rfl, _⟩ := h3.shape
 obtain ⟨a8, e8, rfl, _⟩ := h8.shape
 obtain ⟨a9, e9, rfl, _⟩ := h9.shape
 obtain ⟨a10, e10, rfl, _⟩ := h10.shape
 clear h3 h8 h9 h10
 have hbw1 : b < w.heap.size + 1 := by omega
 by_cases hz : i = 0
 . have HF : Hid (upfB s i = decide ((nth Ta.z s.tasks i).up = -1)) := by unfold Hid upfB; rw [if_pos hz]; rfl
   have hz' : ((i : Int) == 0) = true := by simp [hz]
   clear hz hc
   go_enter Try.func103, Try.ntmps103
   go_wp2_with fail
   go_ret
   exact ⟨by rw [HF.out]; rfl, bq0⟩
 have hz' : ((i : Int) == 0) = false := by simp [hz]
 have hz2 : ¬ (i : Int) = 0 := by omega
 cases g1 : inB (nth Ta.z s.tasks i).up 0 ((i : Int) - 1)
 . have HF : Hid (upfB s i = false) := by rw [in_pl] at g1; unfold Hid upfB tkN; rw [if_neg hz, g1]; rfl
   have G1 := (show Hid (_ = _) from g1)
   clear hz hc g1
   go_enter Try.func103, Try.ntmps103
   go_wp2_with (go_at_call 52; refine (l6In_b G1.out _).mono ?_; rintro e w' ⟨rfl, hw⟩; have hw := hw.symm; subst hw)
   go_ret
   exact ⟨by rw [HF.out]; rfl, bq0⟩
 have p1 := g1
 rw [in_pl] at p1
 obtain ⟨un, hun⟩ : ∃ un : Nat, (nth Ta.z s.tasks i).up = (un : Int) := ⟨(nth Ta.z s.tasks i).up.toNat, by rw [plB] at p1; simp at p1; omega⟩
 have hui : un < s.tasks.length := by rw [plB] at p1; simp at p1; omega
 have hui' : (un : Int) < (s.tasks.length : Int) := by omega
 have G1 : Hid (inB (un : Int) 0 ((i : Int) - 1) = true) := by unfold Hid; rw [<- hun]; exact g1
 obtain ⟨b', off', u3, u8, u9, u10, e', hbw', d0, d1, d2, d3, d4, _⟩ := hc un hui
 injection e' with e2; injection e2 with e5 e6; subst e5 e6
 have HF : Hid (upfB s i = (!liB (nth Ta.z s.tasks i) || decide ((nth Ta.z s.tasks un).way = 1))) := by unfold Hid upfB tkN; rw [if_neg hz, p1, hun]; rfl
 clear hz hc g1 p1 d0 d1 d2 d3
 by_cases q1 : (nth Ta.z s.tasks i).way = 0
 . have q1' : ((nth Ta.z s.tasks i).way == 0) = true := by simp [q1]
   have HL : Hid (liB (nth Ta.z s.tasks i) = true) := by simp [Hid, liB, q1]
   have Q1 := (show Hid (_ = _) from q1)
   clear q1
   go_enter Try.func103, Try.ntmps103
   go_wp2_with (go_at_call 52; refine (l6In_b G1.out _).mono ?_; rintro e w' ⟨rfl, hw⟩; have hw := hw.symm; subst hw)
   go_ret
   exact ⟨by rw [HF.out, HL.out]; rfl, bq0⟩
 have q1' : ((nth Ta.z s.tasks i).way == 0) = false := by simp [q1]
 by_cases q2 : (nth Ta.z s.tasks i).way = 1
 . have q2' : ((nth Ta.z s.tasks i).way == 1) = true := by simp [q2]
   have HL : Hid (liB (nth Ta.z s.tasks i) = true) := by simp [Hid, liB, q2]
   have Q2 := (show Hid (_ = _) from q2)
   clear q2
   go_enter Try.func103, Try.ntmps103
   go_wp2_with (go_at_call 52; refine (l6In_b G1.out _).mono ?_; rintro e w' ⟨rfl, hw⟩; have hw := hw.symm; subst hw)
   go_ret
   exact ⟨by rw [HF.out, HL.out]; rfl, bq0⟩
 . have q2' : ((nth Ta.z s.tasks i).way == 1) = false := by simp [q2]
   have HL : Hid (liB (nth Ta.z s.tasks i) = false) := by simp [Hid, liB, q1, q2]
   go_enter Try.func103, Try.ntmps103
   go_wp2_with (go_at_call 52; refine (l6In_b G1.out _).mono ?_; rintro e w' ⟨rfl, hw⟩; have hw := hw.symm; subst hw)
   go_ret
   exact ⟨by rw [HF.out, HL.out]; rfl, bq0⟩


def Small (a : Ac) : Prop := a.ds.length <= 1048576 /\ a.ks.length <= 1048576
def SmallB (acts : List Ac) : Prop := acts.length <= 1048576 /\ ∀ j, j < acts.length -> Small (nth Ac.z acts j)
def SmallP (p : Pr) : Prop := p.cells.length <= 1048576 /\ p.bodies.length <= 1048576 /\ ∀ j, j < p.bodies.length -> SmallB (nth [] p.bodies j)

set_option maxRecDepth 20000


set_option maxRecDepth 20000
def SmSy (s : Sy) : Prop := s.cells.length <= 1048576 /\ SmsTa s.tasks /\ SmsEn s.log


set_option maxRecDepth 20000

def SyAt (w : World) (cv tv lv : Value) (s : Sy) : Prop := CesAt w cv s.cells /\ TasAt w tv s.tasks /\ EnsAt w lv s.log
def SyOn (S : Nat -> Prop) (w : World) (cv tv lv : Value) (s : Sy) : Prop := CesOn S w cv s.cells /\ TasOn S w tv s.tasks /\ EnsOn S w lv s.log
theorem SyAt.mono {w w' : World} {cv tv lv : Value} {s : Sy} (h : SyAt w cv tv lv s) (hb : Below w.heap.size w w') : SyAt w' cv tv lv s := ⟨h.1.mono hb, h.2.1.mono hb, h.2.2.mono hb⟩
theorem SyOn.at {S : Nat -> Prop} {w : World} {cv tv lv : Value} {s : Sy} (h : SyOn S w cv tv lv s) : SyAt w cv tv lv s := ⟨h.1.at, h.2.1.at, h.2.2.at⟩


set_option maxRecDepth 20000
def rdyB (s : Sy) (i : Nat) : Bool :=
 if 200 <= s.clock then false
 else if (nth Ta.z s.tasks i).way = 0 then (!decide ((nth Ta.z s.tasks i).stage = 0) || decide ((nth Ta.z s.tasks i).when_ <= s.clock))
 else if (nth Ta.z s.tasks i).way = 1 then (decide (0 < kin s.tasks i 3) || (decide (kin s.tasks i 0 = 0) && decide (kin s.tasks i 1 = 0)))
 else false
end Go.Proofs.Ytgbgjljflgbcaaa
