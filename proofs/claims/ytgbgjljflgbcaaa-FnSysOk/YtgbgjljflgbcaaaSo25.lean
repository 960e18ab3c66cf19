import Derived.Test.YtgbgjljflgbcaaaSo24
import Derived.Laws.ResultCell
import Derived.Test.YtgbgjljflgbcaaaSo01
import Derived.Deep.LoopGhost
namespace Go.Proofs.Ytgbgjljflgbcaaa
set_option maxHeartbeats 8000000
open Go.RowKit
set_option linter.unusedSimpArgs false
set_option linter.unusedVariables false
set_option maxRecDepth 20000
theorem act_yes (X B : Nat) (pc pb : Value) (p : Pr) (s : Sy) (i : Nat) (w : World) (h : SW X B w pc pb p s) (hi : i < s.tasks.length) (hnp : Np p s) (hlt : (tkN s i).pc < (acts p (tkN s i)).length) :
  Calls Try.prog 147 #[.pointer (some ⟨X, 0, none⟩), .int .i64 (i : Int)] w fun r w' => ∃ dv kv, r = .returned (.tuple #[.agg #[.int .i64 (nth Ac.z (acts p (tkN s i)) (tkN s i).pc.toNat).k, dv, kv, .int .i64 (nth Ac.z (acts p (tkN s i)) (tkN s i).pc.toNat).r], .bool true]) /\ DeedsOn (fun b => b < X) w dv (nth Ac.z (acts p (tkN s i)) (tkN s i).pc.toNat).ds /\ IntsOn (fun b => b < X) w kv (nth Ac.z (acts p (tkN s i)) (tkN s i).pc.toNat).ks /\ Below w.heap.size w w' := by
 have hT := hnp.t i hi
 obtain ⟨bn, hbn⟩ : ∃ k : Nat, (tkN s i).body = (k : Int) := ⟨(tkN s i).body.toNat, by have := hT.body; omega⟩
 obtain ⟨pn, hpn⟩ : ∃ k : Nat, (tkN s i).pc = (k : Int) := ⟨(tkN s i).pc.toNat, by have := hT.pc; omega⟩
 have hbl : bn < p.bodies.length := by have := hT.body; omega
 have hbl' : (bn : Int) < (p.bodies.length : Int) := by omega
 have ea : acts p (tkN s i) = nth [] p.bodies bn := by unfold acts; rw [hbn, Int.toNat_natCast]
 clear hT hnp
 rw [ea, hpn] at hlt
 obtain ⟨pa, pcp, rfl, _, hbs⟩ := h.pr.2
 obtain ⟨b1, o1, av, rfl, _, hb1, d1, hac⟩ := hbs bn hbl
 have h1c := h.c1
 obtain ⟨aa, acp, rfl, _, has⟩ := hac
 have hpl : pn < (nth [] p.bodies bn).length := by omega
 have hpl' : ¬ (pn : Int) ≥ ((nth [] p.bodies bn).length : Int) := by omega
 have hpl2 : (pn : Int) < ((nth [] p.bodies bn).length : Int) := by omega
 obtain ⟨b2, o2, dv, kv, rfl, _, hb2, e0, e1, e2, e3, hdv, hkv⟩ := has pn hpl
 obtain ⟨da, dc, rfl, _⟩ := hdv.shape
 obtain ⟨ka, kc, rfl, _⟩ := hkv.shape
 have HA : Hid (nth Ac.z (acts p (tkN s i)) (tkN s i).pc.toNat = nth Ac.z (nth [] p.bodies bn) pn) := by unfold Hid; rw [ea, hpn, Int.toNat_natCast]
 have HDV := (show Hid (DeedsOn _ _ _ _) from hdv)
 have HKV := (show Hid (IntsOn _ _ _ _) from hkv)
 clear has hdv hkv hlt ea
 obtain ⟨f, cv, g, cap, lv, T, L, V, h1, h2, h3, h4, h5, h6, h7, h8, h9⟩ := h.tk hi
 obtain ⟨a3, c3, a8, c8, a9, c9, a10, c10, rfl⟩ := h7.ti.shapes
 obtain ⟨t0, t1, t2, t3, t4, t5, t6, t7, t8, t9, t10, t11, t12⟩ := h7.cells
 simp only at t3 t8 t9 t10
 have tz := h7.fz
 have hi' : (i : Int) < (s.tasks.length : Int) := by omega
 have hX := h.lt
 have hB := h.le
 have hgB := h7.ge
 have hgl := h7.lt
 have hXl : X < w.heap.size := by omega
 have hXg : X ≠ g := by omega
 have HTI := (show Hid (TIn _ _ _ _ _) from h7.ti)
 have HK := (show Hid (f g = .t /\ ∀ b, cv.ownBlock = some b -> f b = .c) from ⟨h7.key, h1.c.2⟩)
 have HS := (show Hid (SW _ _ _ _ _ _ _) from h)
 clear h1 h2 h3 h7 h8 h9 h
 rw [hbn] at t0
 rw [hpn] at t1
 clear hbn hbs
 clear hpn
 rw [HA.out]
 go_enter Try.func147, Try.ntmps147
 go_wp2_with fail
 go_quiet (fail)
 go_wp2_with fail
 (try simp only [Exit.inBlock, Exit.then])
 refine bodyPost_ret (v := .tuple #[.agg #[.int .i64 (nth Ac.z (nth [] p.bodies bn) pn).k, .slice da (nth Ac.z (nth [] p.bodies bn) pn).ds.length dc, .slice ka (nth Ac.z (nth [] p.bodies bn) pn).ks.length kc, .int .i64 (nth Ac.z (nth [] p.bodies bn) pn).r], .bool true]) ?_ rfl ⟨_, _, rfl, HDV.out, HKV.out, bq0⟩
 rw [results_cell_tmp rfl]
 go_simp
theorem act_no (X B : Nat) (pc pb : Value) (p : Pr) (s : Sy) (i : Nat) (w : World) (h : SW X B w pc pb p s) (hi : i < s.tasks.length) (hnp : Np p s) (hlt : ¬ (tkN s i).pc < (acts p (tkN s i)).length) :
  Calls Try.prog 147 #[.pointer (some ⟨X, 0, none⟩), .int .i64 (i : Int)] w fun r w' => r = .returned (.tuple #[.agg #[.int .i64 0, .slice none 0 0, .slice none 0 0, .int .i64 0], .bool false]) /\ Below w.heap.size w w' := by
 have hT := hnp.t i hi
 obtain ⟨bn, hbn⟩ : ∃ k : Nat, (tkN s i).body = (k : Int) := ⟨(tkN s i).body.toNat, by have := hT.body; omega⟩
 obtain ⟨pn, hpn⟩ : ∃ k : Nat, (tkN s i).pc = (k : Int) := ⟨(tkN s i).pc.toNat, by have := hT.pc; omega⟩
 have hbl : bn < p.bodies.length := by have := hT.body; omega
 have hbl' : (bn : Int) < (p.bodies.length : Int) := by omega
 have ea : acts p (tkN s i) = nth [] p.bodies bn := by unfold acts; rw [hbn, Int.toNat_natCast]
 clear hT hnp
 rw [ea, hpn] at hlt
 obtain ⟨pa, pcp, rfl, _, hbs⟩ := h.pr.2.at
 obtain ⟨b1, o1, av, rfl, hb1, d1, hac⟩ := hbs bn hbl
 have h1c := h.c1
 obtain ⟨aa, acp, rfl, _, has⟩ := hac
 have hpl' : (pn : Int) ≥ ((nth [] p.bodies bn).length : Int) := by omega
 clear has hlt ea
 obtain ⟨f, cv, g, cap, lv, T, L, V, h1, h2, h3, h4, h5, h6, h7, h8, h9⟩ := h.tk hi
 obtain ⟨a3, c3, a8, c8, a9, c9, a10, c10, rfl⟩ := h7.ti.shapes
 obtain ⟨t0, t1, t2, t3, t4, t5, t6, t7, t8, t9, t10, t11, t12⟩ := h7.cells
 simp only at t3 t8 t9 t10
 have tz := h7.fz
 have hi' : (i : Int) < (s.tasks.length : Int) := by omega
 have hX := h.lt
 have hB := h.le
 have hgB := h7.ge
 have hgl := h7.lt
 have hXl : X < w.heap.size := by omega
 have hXg : X ≠ g := by omega
 have HTI := (show Hid (TIn _ _ _ _ _) from h7.ti)
 have HK := (show Hid (f g = .t /\ ∀ b, cv.ownBlock = some b -> f b = .c) from ⟨h7.key, h1.c.2⟩)
 have HS := (show Hid (SW _ _ _ _ _ _ _) from h)
 clear h1 h2 h3 h7 h8 h9 h
 rw [hbn] at t0
 rw [hpn] at t1
 clear hbn hbs
 clear hpn
 go_enter Try.func147, Try.ntmps147
 go_wp2_with fail
 go_quiet (fail)
 go_wp2_with fail
 (try simp only [Exit.inBlock, Exit.then])
 refine bodyPost_ret (v := .tuple #[.agg #[.int .i64 0, .slice none 0 0, .slice none 0 0, .int .i64 0], .bool false]) ?_ rfl ⟨rfl, bq0⟩
 rw [results_cell_tmp rfl]
 go_simp

set_option maxRecDepth 20000
theorem okB_cells {p : Pr} (h : okB p = true) : p.cells.length <= 4 := by
 simp only [okB, foB, csB, Bool.and_eq_true, inB_iff, decide_eq_true_eq] at h
 omega
theorem wr_left {s : Sy} {i : Nat} (hi : i < s.tasks.length) (h5 : (tkN (writeS s i) i).stage = 5) : (tkN (writeS s i) i).puts = (tkN s i).puts /\ (tkN (writeS s i) i).at_ = (tkN s i).at_ + 1 := by
 have ET : tkN (write1 s i) i = { tkN s i with at_ := (tkN s i).at_ + 1 } := tkN_same (s := { s with cells := _ }) hi
 have hl : i < (write1 s i).tasks.length := by unfold write1; rw [setTk_len]; exact hi
 unfold writeS at h5 ⊢
 by_cases e : (tkN s i).at_ + 1 = (tkN s i).puts.length
 . rw [if_pos e] at h5
   have e2 : tkN (endS (write1 s i) i (tkN s i).when_) i = endT (tkN (write1 s i) i) := tkN_same (s := { write1 s i with log := _ }) hl
   rw [e2] at h5
   exact absurd h5 (by show ¬ (0 : Int) = 5; omega)
 . rw [if_neg e, ET]; exact ⟨rfl, rfl⟩
theorem wrAll_stop {s : Sy} {i : Nat} (h : (tkN s i).stage ≠ 5) (n : Nat) : wrAll n s i = s := by
 cases n with
 | zero => rfl
 | succ n => unfold wrAll; rw [if_neg h]
theorem off_any (X B : Nat) (pc pb : Value) (p : Pr) (fu : Nat) : ∀ (s : Sy) (i : Nat) (w : World) (h : SW X B w pc pb p s) (hi : i < s.tasks.length) (hnp : Np p s) (hbd : Bd p s) (hf : s.tasks.length <= i + fu),
   Calls Try.prog 157 #[.pointer (some ⟨X, 0, none⟩), .int .i64 (i : Int)] w fun r w' => r = .returned (.tuple #[]) /\ SW X B w' pc pb p (offS fu s i) /\ FrS (SX X B) w w' := by
 induction fu with
 | zero => intro s i w h hi hnp hbd hf; omega
 | succ fu ih =>
   intro s i w h hi hnp hbd hf
   have IH := (show Hid (∀ s, _) from ih)
   have HS0 := (show Hid (SW _ _ _ _ _ _ _) from h)
   have HNP := (show Hid (Np _ _) from hnp)
   have HBD := (show Hid (Bd _ _) from hbd)
   have hl30 : s.tasks.length <= 7 := hbd.n7
   clear ih h hnp hbd
   go_enter Try.func157, Try.ntmps157
   go_wp2_with fail
   go_loopw [4] (fun q w' => ∃ k : Nat, k <= s.tasks.length /\ q = .int .i64 k /\ SW X B w' pc pb p (kidsS (offS fu) s i k) /\ FrS (SX X B) w w') (fun q _ => s.tasks.length - (intOf q).toNat)
   case atStart => exact ⟨0, Nat.zero_le _, rfl, by rw [show kidsS (offS fu) s i 0 = s from rfl]; exact HS0.out, FrS.refl _ _⟩
   case round =>
     obtain ⟨k, hk, rfl, hs, hfr⟩ := hrel
     have hl : (kidsS (offS fu) s i k).tasks.length = s.tasks.length := kidsS_len (offS_len fu) s i k
     have n1 : Hid (Np p (kidsS (offS fu) s i k)) := Np.kids (offS_len fu) (fun s k h hk => h.offS fu hk) HNP.out i k hk
     have b1 : Hid (Bd p (kidsS (offS fu) s i k)) := HBD.out.mono (Lq.kids (offS_len fu) (fun s k h hk => h.offS fu hk) (fun s k h hk => Lq.offS fu h hk) HNP.out i k hk)
     have HE : Hid (kidsS (offS fu) s i (k + 1) = if (tkN (kidsS (offS fu) s i k) k).up = i then offS fu (kidsS (offS fu) s i k) k else kidsS (offS fu) s i k) := kidsS_succ _ _ _ _
     have HO : Hid (k = s.tasks.length -> offS (fu + 1) s i = offB (kidsS (offS fu) s i k) i) := fun e => by rw [e]; rfl
     have HFR := (show Hid (FrS _ _ _) from hfr)
     clear hfr HS0 HNP HBD
     revert hs hl n1 b1 HE HO
     generalize kidsS (offS fu) s i k = s1
     intro hs hl n1 b1 HE HO
     have hi1 : i < s1.tasks.length := by omega
     by_cases hlt : k < s.tasks.length
     . have hk1 : k < s1.tasks.length := by omega
       have hk1' : (k : Int) < (s1.tasks.length : Int) := by omega
       have hup : Hid ((tkN s1 k).up = i -> i < k) := fun e => by
         have := (n1.out.t k hk1).up
         by_cases hz : k = 0
         . have := this.1 hz; omega
         . have := (this.2 (by omega)).2; omega
       obtain ⟨f, cv, g, cap, lv, T, L, V, h1, h2, h3, h4, h5, h6, h7, h8, h9⟩ := hs.tk hk1
       obtain ⟨a3, c3, a8, c8, a9, c9, a10, c10, rfl⟩ := h7.ti.shapes
       obtain ⟨t0, t1, t2, t3, t4, t5, t6, t7, t8, t9, t10, t11, t12⟩ := h7.cells
       simp only at t3 t8 t9 t10
       have tz := h7.fz
       have hi' : (i : Int) < (s1.tasks.length : Int) := by omega
       have hX := hs.lt
       have hB := hs.le
       have hgB := h7.ge
       have hgl := h7.lt
       have hXl : X < wr.heap.size := by omega
       have hXg : X ≠ g := by omega
       have HTI := (show Hid (TIn _ _ _ _ _) from h7.ti)
       have HK := (show Hid (f g = .t /\ ∀ b, cv.ownBlock = some b -> f b = .c) from ⟨h7.key, h1.c.2⟩)
       have HS := (show Hid (SW _ _ _ _ _ _ _) from hs)
       clear h1 h2 h3 h7 h8 h9 hs
       clear t0 t1 t3 t4 t5 t6 t7 t8 t9 t10 t11 t12
       have hwr : IntKind.i64.wrap ((k : Int) + 1) = (k : Int) + 1 := by rw [IntKind.wrap_i64]; omega
       by_cases qu : (tkN s1 k).up = (i : Int)
       . have qu' : ((tkN s1 k).up == (i : Int)) = true := by simp [qu]
         have QU := (show Hid (_ = _) from qu)
         clear qu
         go_wp2_with fail
         refine (IH.out s1 k _ HS.out hk1 n1.out b1.out (by have := hup.out QU.out; omega)).mono ?_
         rintro e w2 ⟨rfl, hs2, hf2⟩
         have HS2 := (show Hid (SW _ _ _ _ _ _ _) from hs2)
         have HF2 : Hid (FrS (SX X B) w w2) := HFR.out.trans hf2
         clear hs2 hf2
         go_wp2_with fail
         go_roundw
         case rel => exact ⟨k + 1, by omega, by go_num, by rw [HE.out, if_pos QU.out]; exact HS2.out, HF2.out⟩
         case measure => simp [intOf]; omega
       . have qu' : ((tkN s1 k).up == (i : Int)) = false := by simp [qu]
         have QU := (show Hid (¬ _) from qu)
         clear qu
         go_wp2_with fail
         go_roundw
         case rel => exact ⟨k + 1, by omega, by go_num, by rw [HE.out, if_neg QU.out]; exact HS.out, HFR.out⟩
         case measure => simp [intOf]; omega
     . have HO1 : Hid (offS (fu + 1) s i = offB s1 i) := HO.out (by omega)
       have hk2 : ¬ (k : Int) < (s1.tasks.length : Int) := by omega
       have hp4 : Hid ((tkN s1 i).puts.length <= 4) := by have := puB_len (n1.out.t i hi1).puts; have := okB_cells n1.out.ok; unfold Hid; omega
       clear HE HO
       obtain ⟨f, cv, g, cap, lv, T, L, V, h1, h2, h3, h4, h5, h6, h7, h8, h9⟩ := hs.tk hi1
       obtain ⟨a3, c3, a8, c8, a9, c9, a10, c10, rfl⟩ := h7.ti.shapes
       obtain ⟨t0, t1, t2, t3, t4, t5, t6, t7, t8, t9, t10, t11, t12⟩ := h7.cells
       simp only at t3 t8 t9 t10
       have tz := h7.fz
       have hi' : (i : Int) < (s1.tasks.length : Int) := by omega
       have hX := hs.lt
       have hB := hs.le
       have hgB := h7.ge
       have hgl := h7.lt
       have hXl : X < wr.heap.size := by omega
       have hXg : X ≠ g := by omega
       have HTI := (show Hid (TIn _ _ _ _ _) from h7.ti)
       have HK := (show Hid (f g = .t /\ ∀ b, cv.ownBlock = some b -> f b = .c) from ⟨h7.key, h1.c.2⟩)
       have HS := (show Hid (SW _ _ _ _ _ _ _) from hs)
       clear h1 h2 h3 h7 h8 h9 hs
       clear t0 t1 t2 t3 t6 t7 t8 t9 t10 t11 t12
       by_cases qw : (tkN s1 i).way ≠ 0 /\ (tkN s1 i).way ≠ 1
       . have HF : Hid (offS (fu + 1) s i = s1) := by unfold Hid; rw [HO1.out]; unfold offB; rw [if_pos qw]
         have qw0 : ((tkN s1 i).way != 0) = true := by simp [qw.1]
         have qw1 : ((tkN s1 i).way != 1) = true := by simp [qw.2]
         clear qw HO1
         go_wp2_with fail
         ((try simp only [Exit.inBlock, Exit.then]); refine bodyPost_ret (results_none rfl _ _ _) rfl ?_)
         exact ⟨rfl, by rw [HF.out]; exact HS.out, HFR.out⟩
       . have HF : Hid (offS (fu + 1) s i = setTk (if (tkN (wrAll 4 s1 i) i).stage ≠ 0 then againS (wrAll 4 s1 i) i else wrAll 4 s1 i) i { tkN (if (tkN (wrAll 4 s1 i) i).stage ≠ 0 then againS (wrAll 4 s1 i) i else wrAll 4 s1 i) i with way := 4 }) := by unfold Hid; rw [HO1.out]; unfold offB; rw [if_neg qw]
         have qw2 : (tkN s1 i).way = 0 \/ (tkN s1 i).way = 1 := by omega
         clear qw HO1
         rcases qw2 with qw | qw
         all_goals
           rw [qw] at t4
           clear qw
           go_wp2_with fail
           go_loopg [] 4 (fun gk w' => ∃ s2 : Sy, SW X B w' pc pb p s2 /\ FrS (SX X B) w w' /\ wrAll gk s2 i = wrAll 4 s1 i /\ Np p s2 /\ Bd p s2 /\ s2.tasks.length = s1.tasks.length /\ ((tkN s2 i).stage = 5 -> (tkN s2 i).puts.length <= gk + (tkN s2 i).at_.toNat))
           case atStart => exact ⟨s1, HS.out, HFR.out, rfl, n1.out, b1.out, rfl, fun _ => by have := hp4.out; omega⟩
           case round =>
             obtain ⟨s2, hs2, hf2, hw2, n2, b2, l2, m2⟩ := hrel
             clear t4 t5 tz h4 h5 h6 hi' hX hB hgB hgl hXl hXg HTI HK HS
             have HN2 := (show Hid (Np _ _) from n2)
             have HB2 := (show Hid (Bd _ _) from b2)
             have HF2 := (show Hid (FrS _ _ _) from hf2)
             have hT := n2.t i (by omega)
             have M2 := (show Hid (_ -> _) from m2)
             have H55 := (show Hid (_ -> _) from fun e => (hT.five e).2)
             have hold : Hid ((tkN s2 i).old.length = 3) := (rgB_iff.1 hT.old).1
             have hn2 : s2.cells.length <= 1048576 := by have := n2.cs; have := okB_cells n2.ok; omega
             have hln2 : s2.log.length <= 1048576 := by have := n2.l28 b2; omega
             have HW2 := (show Hid (_ = _) from hw2)
             have hi2 : i < s2.tasks.length := by omega
             clear n2 b2 hf2 hT m2 hw2
             obtain ⟨fr, cvr, gr, capr, lvr, Tr, Lr, Vr, h1, h2, h3, h4r, h5r, h6r, h7, h8, h9⟩ := hs2.tk hi2
             obtain ⟨a3r, c3r, a8r, c8r, a9r, c9r, a10r, c10r, rfl⟩ := h7.ti.shapes
             obtain ⟨t0r, t1r, t2r, t3r, t4r, t5r, t6r, t7r, t8r, t9r, t10r, t11r, t12r⟩ := h7.cells
             simp only at t3r t8r t9r t10r
             have tzr := h7.fz
             have hi'r : (i : Int) < (s2.tasks.length : Int) := by omega
             have hXr := hs2.lt
             have hBr := hs2.le
             have hgBr := h7.ge
             have hglr := h7.lt
             have hXlr : X < wr.heap.size := by omega
             have hXgr : X ≠ gr := by omega
             have HTIr := (show Hid (TIn _ _ _ _ _) from h7.ti)
             have HKr := (show Hid (fr gr = .t /\ ∀ b, cvr.ownBlock = some b -> fr b = .c) from ⟨h7.key, h1.c.2⟩)
             have HSr := (show Hid (SW _ _ _ _ _ _ _) from hs2)
             clear h1 h2 h3 h7 h8 h9 hs2
             clear t0r t1r t2r t3r t6r t7r t8r t9r t10r t11r t12r
             by_cases q5 : (tkN s2 i).stage = 5
             . have q5' : ((tkN s2 i).stage == 5) = true := by simp [q5]
               have Q5 := (show Hid (_ = _) from q5)
               have hg : 0 < gk := by have := M2.out q5; have := H55.out q5; omega
               clear q5
               go_wp2_with fail
               refine (write_any X B pc pb p s2 i _ HSr.out hi2 HN2.out Q5.out hn2 hln2).mono ?_
               rintro e w3 ⟨rfl, hs3, hf3⟩
               have HS3 := (show Hid (SW _ _ _ _ _ _ _) from hs3)
               have HF3 : Hid (FrS (SX X B) w w3) := HF2.out.trans hf3
               clear hs3 hf3
               go_wp2_with fail
               go_roundg (gk - 1)
               case measure => omega
               case rel =>
                 refine ⟨writeS s2 i, HS3.out, HF3.out, ?_, HN2.out.write hi2 Q5.out, HB2.out.mono (Lq.write HN2.out hi2), by rw [writeS_len]; exact l2, fun e5 => ?_⟩
                 . rw [<- HW2.out]
                   obtain ⟨g', rfl⟩ : ∃ g', gk = g' + 1 := ⟨gk - 1, by omega⟩
                   show wrAll g' _ i = (if (tkN s2 i).stage = 5 then _ else _)
                   rw [if_pos Q5.out]
                 . obtain ⟨a1, a2⟩ := wr_left hi2 e5
                   rw [a1, a2]
                   have := M2.out Q5.out
                   have := H55.out Q5.out
                   omega
             . have q5' : ((tkN s2 i).stage == 5) = false := by simp [q5]
               have HW : wrAll 4 s1 i = s2 := HW2.out.symm.trans (wrAll_stop q5 gk)
               rw [HW] at HF
               clear HW HW2 q5 M2 H55
               by_cases q0 : (tkN s2 i).stage = 0
               . have q0' : ((tkN s2 i).stage != 0) = false := by simp [q0]
                 have HG : Hid (offS (fu + 1) s i = setTk s2 i { tkN s2 i with way := 4 }) := by unfold Hid; rw [HF.out, if_neg (by simp [q0])]
                 clear q0 HF
                 go_wp2_with fail
                 go_end0
                 exact ⟨rfl, by rw [HG.out]; exact HSr.out.scs [(4, 4)] rfl h5r hi2, HF2.out.setCell (Or.inr hgBr) _⟩
               . have q0' : ((tkN s2 i).stage != 0) = true := by simp [q0]
                 have HG : Hid (offS (fu + 1) s i = setTk (againS s2 i) i { tkN (againS s2 i) i with way := 4 }) := by unfold Hid; rw [HF.out, if_pos q0]
                 clear q0 HF
                 go_wp2_with fail
                 refine (again_any X B pc pb p s2 i _ HSr.out hi2 hn2 hold.out).mono ?_
                 rintro e w5 ⟨rfl, A5, hf5⟩
                 have F5 : Hid (FrS (SX X B) w w5) := HF2.out.trans hf5
                 have hi5 : i < (againS s2 i).tasks.length := by rw [againS_len]; exact hi2
                 clear hf5
                 revert A5 HG hi5
                 generalize againS s2 i = s5
                 intro HG A5 hi5
                 obtain ⟨fq, cvq, gq, capq, lvq, Tq, Lq, Vq, h1, h2, h3, h4q, h5q, h6q, h7, h8, h9⟩ := A5.tk hi5
                 obtain ⟨a3q, c3q, a8q, c8q, a9q, c9q, a10q, c10q, rfl⟩ := h7.ti.shapes
                 obtain ⟨t0q, t1q, t2q, t3q, t4q, t5q, t6q, t7q, t8q, t9q, t10q, t11q, t12q⟩ := h7.cells
                 simp only at t3q t8q t9q t10q
                 have tzq := h7.fz
                 have hi'q : (i : Int) < (s5.tasks.length : Int) := by omega
                 have hXq := A5.lt
                 have hBq := A5.le
                 have hgBq := h7.ge
                 have hglq := h7.lt
                 have hXlq : X < w5.heap.size := by omega
                 have hXgq : X ≠ gq := by omega
                 have HTIq := (show Hid (TIn _ _ _ _ _) from h7.ti)
                 have HKq := (show Hid (fq gq = .t /\ ∀ b, cvq.ownBlock = some b -> fq b = .c) from ⟨h7.key, h1.c.2⟩)
                 have HSq := (show Hid (SW _ _ _ _ _ _ _) from A5)
                 clear h1 h2 h3 h7 h8 h9 A5
                 clear t0q t1q t2q t3q t5q t6q t7q t8q t9q t10q t11q t12q
                 go_wp2_with fail
                 go_end0
                 exact ⟨rfl, by rw [HG.out]; exact HSq.out.scs [(4, 4)] rfl h5q hi5, F5.out.setCell (Or.inr hgBq) _⟩
end Go.Proofs.Ytgbgjljflgbcaaa
