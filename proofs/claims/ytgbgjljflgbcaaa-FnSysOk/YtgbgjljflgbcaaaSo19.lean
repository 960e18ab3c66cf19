import Derived.Test.YtgbgjljflgbcaaaSo18
import Derived.Test.YtgbgjljflgbcaaaSo17
import Derived.Test.YtgbgjljflgbcaaaSo01
namespace Go.Proofs.Ytgbgjljflgbcaaa
set_option maxHeartbeats 8000000
open Go.RowKit
set_option linter.unusedSimpArgs false
set_option linter.unusedVariables false
set_option maxRecDepth 20000
theorem pR_nth {f : Nat -> Key} {κ : Key} {B : Nat} {w : World} {a : Option Addr} {n cap : Nat} {xs : List Pu} (h : pR f κ B w (.slice a n cap) xs) {k : Nat} (hk : k < xs.length) : ∃ b, a = some ⟨b, 0, none⟩ /\ B <= b /\ b < w.heap.size /\ w.cell? ⟨b, k * 2, none⟩ = some (.int .i64 (nth Pu.z xs k).c) /\ w.cell? ⟨b, k * 2 + 1, none⟩ = some (.int .i64 (nth Pu.z xs k).n) := by
 obtain ⟨g, c, e, hB, hl, _, _, _, hc, _⟩ := row_cells h (by omega) (by omega)
 injection e with e1 e2 e3
 have hlen : (xs.flatMap puC).length = xs.length * 2 := flat_len 2 puC puC_len xs
 have F := fun q (hq : q < 2) => (hc (k * 2 + q) (by omega)).trans (flat_at 2 puC puC_len Pu.z q hq xs k hk)
 exact ⟨g, e1, hB, hl, F 0 (by omega), F 1 (by omega)⟩
theorem check_any (X B : Nat) (pc pb : Value) (p : Pr) (s : Sy) (i : Nat) (w : World) (h : SW X B w pc pb p s) (hi : i < s.tasks.length) (hnp : Np p s) (hst : (tkN s i).stage = 4) (hn : s.cells.length <= 1048576) :
   Calls Try.prog 162 #[.pointer (some ⟨X, 0, none⟩), .int .i64 (i : Int)] w fun r w' => r = .returned (.tuple #[]) /\ SW X B w' pc pb p (checkS s i) /\ FrS (SX X B) w w' := by
 have hT := hnp.t i hi
 obtain ⟨_, hat0, hat1, _⟩ := hT.four hst
 have hold : (tkN s i).old.length = 3 := (rgB_iff.1 hT.old).1
 have hrl : (tkN s i).reads.length <= 1048576 := by have := puB_len hT.reads; have := hnp.cs; omega
 have hrd := hT.reads
 have hcs := hnp.cs
 obtain ⟨k, hk⟩ : ∃ k : Nat, (tkN s i).at_ = (k : Int) := ⟨(tkN s i).at_.toNat, by omega⟩
 clear hT hnp
 obtain ⟨f, cv, g, cap, lv, T, L, V, h1, h2, h3, h4, h5, h6, h7, h8, h9⟩ := h.tk hi
 obtain ⟨a3, c3, a8, c8, a9, c9, a10, c10, rfl⟩ := h7.ti.shapes
 obtain ⟨t0, t1, t2, t3, t4, t5, t6, t7, t8, t9, t10, t11, t12⟩ := h7.cells
 simp only at t3 t8 t9 t10
 have tz := h7.fz
 have hi' : (i : Int) < (s.tasks.length : Int) := by omega
 have hX := h.lt
 have hB := h.le
 have hgB := h7.ge
 have hgl := h7.lt
 have hXl : X < w.heap.size := by omega
 have hXg : X ≠ g := by omega
 have HTI := (show Hid (TIn _ _ _ _ _) from h7.ti)
 have HK := (show Hid (f g = .t /\ ∀ b, cv.ownBlock = some b -> f b = .c) from ⟨h7.key, h1.c.2⟩)
 have HS := (show Hid (SW _ _ _ _ _ _ _) from h)
 clear h1 h2 h3 h7 h8 h9 h
 rw [hk] at t6
 by_cases hlt : (tkN s i).at_ < (tkN s i).reads.length
 . have hkl : k < (tkN s i).reads.length := by omega
   obtain ⟨b9, e9, b9B, b9l, u0, u1⟩ := pR_nth HTI.out.d hkl
   subst e9
   have hc := puB_nth hrd hkl
   obtain ⟨cn, hcn⟩ : ∃ cn : Nat, (nth Pu.z (tkN s i).reads k).c = (cn : Int) := ⟨(nth Pu.z (tkN s i).reads k).c.toNat, by omega⟩
   have hcl : cn < s.cells.length := by omega
   rw [hcn] at u0
   have HF : Hid (checkS s i = if blindB s i cn then againS s i else setTk s i { tkN s i with at_ := (k : Int) + 1 }) := by
     unfold Hid checkS
     rw [if_pos hlt, hk, Int.toNat_natCast, hcn]
   have hkl' : ¬ (k : Int) ≥ ((tkN s i).reads.length : Int) := by omega
   have hkl2 : (k : Int) < ((tkN s i).reads.length : Int) := by omega
   clear hat0 hat1 hrd hcs hc hcn u1
   go_enter Try.func162, Try.ntmps162
   go_wp2_with fail
   refine (blind_any X B pc pb p s i cn _ (HS.out.alloc _) hi hcl).mono ?_
   rintro e w1 ⟨rfl, hb1⟩
   have HS1 : Hid (SW X B w1 pc pb p s) := (HS.out.alloc _).below hb1
   have HF1 : Hid (FrS (SX X B) w w1) := ((FrS.refl _ _).alloc _).trans (.of_below hb1)
   cases hbl : blindB s i cn
   . have HG : Hid (checkS s i = setTk s i { tkN s i with at_ := (k : Int) + 1 }) := by unfold Hid; rw [HF.out, hbl]; rfl
     clear hbl HF
     have h5w1 : w1.cell? ⟨X, 3, none⟩ = some (.slice (some ⟨g, 0, none⟩) s.tasks.length cap) := by rw [hb1.cell (p := ⟨X, 3, none⟩) (by (try simp); try omega)]; first | exact h5 | simpa [go_sem, hXl, hgl] using h5 | simp [go_sem]
     have t6w1 : w1.cell? ⟨g, i * 13 + 6, none⟩ = some (.int .i64 (k : Int)) := by rw [hb1.cell (p := ⟨g, i * 13 + 6, none⟩) (by (try simp); try omega)]; first | exact t6 | simpa [go_sem, hXl, hgl] using t6 | simp [go_sem]
     have v6w1 : w1.cell? ⟨w.heap.size, 6, none⟩ = some (.int .i64 (k : Int)) := by rw [hb1.cell (p := ⟨w.heap.size, 6, none⟩) (by (try simp); try omega)]; simp [go_sem]
     have zXw1 : X < w1.heap.size := by have := hb1.size; (try simp at this); omega
     have zgw1 : g < w1.heap.size := by have := hb1.size; (try simp at this); omega
     have zwheapsizew1 : w.heap.size < w1.heap.size := by have := hb1.size; (try simp at this); omega
     have tz1 : ∀ o, w1.frozen? ⟨g, o, none⟩ = false := fun o => by rw [hb1.frozen (p := ⟨g, o, none⟩) (by simp; omega)]; simpa [go_sem, hgl] using tz o
     have hwr : IntKind.i64.wrap ((k : Int) + 1) = (k : Int) + 1 := by rw [IntKind.wrap_i64]; omega
     clear hb1 t0 t1 t2 t3 t4 t5 t6 t7 t8 t9 t10 t11 t12 tz h5 u0
     go_wp2_with fail
     go_region
     all_goals
       go_wp2_with fail
       go_end0
       refine ⟨rfl, ?_, (HF1.out.setCell (Or.inr hgB) _).drew⟩
       rw [HG.out]
       exact (HS1.out.scs [(6, (k : Int) + 1)] rfl h5w1 hi).drew
   . have HG : Hid (checkS s i = againS s i) := by unfold Hid; rw [HF.out, hbl]; rfl
     clear hbl HF hb1
     go_wp2_with fail
     refine (again_any X B pc pb p s i _ HS1.out hi hn hold).mono ?_
     rintro e w2 ⟨rfl, hs2, hf2⟩
     have HS2 := (show Hid (SW _ _ _ _ _ _ _) from hs2)
     have HF2 : Hid (FrS (SX X B) w w2) := HF1.out.trans hf2
     clear hs2 hf2
     go_wp2_with fail
     ((try simp only [Exit.inBlock, Exit.then]); refine bodyPost_ret (results_none rfl _ _ _) rfl ?_)
     exact ⟨rfl, by rw [HG.out]; exact HS2.out, HF2.out⟩
 . have hke : (k : Int) ≥ ((tkN s i).reads.length : Int) := by omega
   have HF : Hid (checkS s i = setTk s i { tkN s i with stage := 5, at_ := 0 }) := by unfold Hid checkS; rw [if_neg hlt]
   clear hat0 hat1 hrd hcs hlt
   go_enter Try.func162, Try.ntmps162
   go_wp2_with fail
   refine (stage_any X B pc pb p s i 5 _ (HS.out.alloc _) hi).mono ?_
   rintro e w2 ⟨rfl, hs2, hf2⟩
   have HS2 := (show Hid (SW _ _ _ _ _ _ _) from hs2)
   have HF2 : Hid (FrS (SX X B) w w2) := ((FrS.refl _ _).alloc _).trans hf2
   clear hs2 hf2
   go_wp2_with fail
   ((try simp only [Exit.inBlock, Exit.then]); refine bodyPost_ret (results_none rfl _ _ _) rfl ?_)
   exact ⟨rfl, by rw [HF.out]; exact HS2.out, HF2.out⟩
theorem NpT.pc100 {p : Pr} {i : Nat} {t : Ta} (h : NpT p i t) (ho : okB p = true) : 0 <= t.pc /\ t.pc <= 100 := by
 have h1 := h.pc
 have h2 := h.body
 simp only [okB, foB, Bool.and_eq_true, List.all_eq_true, List.mem_range] at ho
 have := ho.1.2 t.body.toNat (by omega)
 simp only [boB, Bool.and_eq_true, decide_eq_true_eq] at this
 unfold acts at h1
 omega
theorem lock_any (X B : Nat) (pc pb : Value) (p : Pr) (s : Sy) (i : Nat) (w : World) (h : SW X B w pc pb p s) (hi : i < s.tasks.length) (hnp : Np p s) (hst : (tkN s i).stage = 2) (hn : s.cells.length <= 1048576) :
   Calls Try.prog 160 #[.pointer (some ⟨X, 0, none⟩), .int .i64 (i : Int)] w fun r w' => r = .returned (.tuple #[]) /\ SW X B w' pc pb p (lockS s i) /\ FrS (SX X B) w w' := by
 have hT := hnp.t i hi
 obtain ⟨_, hat0, hat1⟩ := hT.two hst
 have hold : (tkN s i).old.length = 3 := (rgB_iff.1 hT.old).1
 have hrl : (tkN s i).reads.length <= 1048576 := by have := puB_len hT.reads; have := hnp.cs; omega
 have hul : (tkN s i).puts.length <= 1048576 := by have := puB_len hT.puts; have := hnp.cs; omega
 have hpu := hT.puts
 have hcs := hnp.cs
 have hpc : 0 <= (tkN s i).pc /\ (tkN s i).pc <= 100 := hT.pc100 hnp.ok
 obtain ⟨k, hk⟩ : ∃ k : Nat, (tkN s i).at_ = (k : Int) := ⟨(tkN s i).at_.toNat, by omega⟩
 clear hT hnp
 obtain ⟨f, cv, g, cap, lv, T, L, V, h1, h2, h3, h4, h5, h6, h7, h8, h9⟩ := h.tk hi
 obtain ⟨a3, c3, a8, c8, a9, c9, a10, c10, rfl⟩ := h7.ti.shapes
 obtain ⟨t0, t1, t2, t3, t4, t5, t6, t7, t8, t9, t10, t11, t12⟩ := h7.cells
 simp only at t3 t8 t9 t10
 have tz := h7.fz
 have hi' : (i : Int) < (s.tasks.length : Int) := by omega
 have hX := h.lt
 have hB := h.le
 have hgB := h7.ge
 have hgl := h7.lt
 have hXl : X < w.heap.size := by omega
 have hXg : X ≠ g := by omega
 have HTI := (show Hid (TIn _ _ _ _ _) from h7.ti)
 have HK := (show Hid (f g = .t /\ ∀ b, cv.ownBlock = some b -> f b = .c) from ⟨h7.key, h1.c.2⟩)
 have HS := (show Hid (SW _ _ _ _ _ _ _) from h)
 clear h1 h2 h3 h7 h8 h9 h
 rw [hk] at t6
 have hkl : k < (tkN s i).puts.length := by omega
 obtain ⟨b10, e10, b10B, b10l, u0, u1⟩ := pR_nth HTI.out.u hkl
 subst e10
 have hc := puB_nth hpu hkl
 have hpn : putN (tkN s i) = nth Pu.z (tkN s i).puts k := by unfold putN; rw [hk, Int.toNat_natCast]
 obtain ⟨cn, hcn⟩ : ∃ cn : Nat, (nth Pu.z (tkN s i).puts k).c = (cn : Int) := ⟨(nth Pu.z (tkN s i).puts k).c.toNat, by omega⟩
 have hcl : cn < s.cells.length := by omega
 have hcl' : (cn : Int) < (s.cells.length : Int) := by omega
 have hkl2 : (k : Int) < ((tkN s i).puts.length : Int) := by omega
 have hce : ceN s (cn : Int) = nth Ce.z s.cells cn := by unfold ceN; rw [Int.toNat_natCast]
 have hwr : IntKind.i64.wrap ((k : Int) + 1) = (k : Int) + 1 := by rw [IntKind.wrap_i64]; omega
 rw [hcn] at u0
 have HOLD := (show Hid (_ = _) from hold)
 clear hold hst
 obtain ⟨gc, kc, x2, gcB, gcl, cc, cz⟩ := HS.out.cs hcl
 obtain ⟨d0, d1, d2⟩ := cc cn hcl
 have hgcg : gc ≠ g := by
   have x2' := x2
   rw [h4] at x2'
   injection x2' with e
   intro q
   have h1 := HK.out.2 gc (by rw [e]; rfl)
   rw [q, HK.out.1] at h1
   cases h1
 have hXgc : X ≠ gc := by omega
 clear cc h4
 by_cases ql : 0 <= (nth Ce.z s.cells cn).lock
 . have HG : Hid (lockS s i = againS s i) := by unfold Hid lockS; rw [hpn, hcn, hce, if_pos ql]
   have ql' : (nth Ce.z s.cells cn).lock ≥ 0 := ql
   clear hat0 hat1 hpu hcs hc hcn hpn hce hk
   go_enter Try.func160, Try.ntmps160
   go_wp2_with fail
   refine (again_any X B pc pb p s i _ (HS.out.alloc _) hi hn HOLD.out).mono ?_
   rintro e w2 ⟨rfl, hs2, hf2⟩
   have HS2 := (show Hid (SW _ _ _ _ _ _ _) from hs2)
   have HF2 : Hid (FrS (SX X B) w w2) := ((FrS.refl _ _).alloc _).trans hf2
   clear hs2 hf2
   go_wp2_with fail
   ((try simp only [Exit.inBlock, Exit.then]); refine bodyPost_ret (results_none rfl _ _ _) rfl ?_)
   exact ⟨rfl, by rw [HG.out]; exact HS2.out, HF2.out⟩
 . have HG : Hid (lockS s i = setTk { s with cells := s.cells.set cn { nth Ce.z s.cells cn with lock := i } } i (if (k : Int) + 1 = (tkN s i).puts.length then { tkN s i with stage := 3, at_ := 0 } else { tkN s i with at_ := (k : Int) + 1 })) := by
     unfold Hid lockS; rw [hpn, hcn, hce, if_neg ql, Int.toNat_natCast, hk]
   have ql' : ¬ (nth Ce.z s.cells cn).lock ≥ 0 := ql
   have hXg' : g ≠ gc := fun e => hgcg e.symm
   have A0 := HS.out.cel x2 hcl (j := 2) (by omega) (.int .i64 (i : Int)) { nth Ce.z s.cells cn with lock := i } rfl
   have G0 : (w.setCell ⟨gc, cn * 3 + 2, none⟩ (.int .i64 (i : Int))).cell? ⟨X, 3, none⟩ = some (.slice (some ⟨g, 0, none⟩) s.tasks.length cap) := by rw [cell_set_blk _ _ _ _ _ _ hXgc]; exact h5
   have A1 := ((A0.scs [(6, (k : Int) + 1)] rfl G0 hi).alloc (.cells #[.int .i64 (tkN s i).body, .int .i64 (tkN s i).pc, .int .i64 (tkN s i).up, .slice a3 (tkN s i).regs.length c3, .int .i64 (tkN s i).way, .int .i64 (tkN s i).stage, .int .i64 (k : Int), .int .i64 (tkN s i).since, .slice a8 (tkN s i).old.length c8, .slice a9 (tkN s i).reads.length c9, .slice (some ⟨b10, 0, none⟩) (tkN s i).puts.length c10, .int .i64 (tkN s i).when_, .int .i64 (tkN s i).from_] 70)).drew
   have A1H := (show Hid (SW _ _ _ _ _ _ _) from A1)
   have FH : Hid (FrS (SX X B) w ((((w.setCell ⟨gc, cn * 3 + 2, none⟩ (.int .i64 (i : Int))).setCell ⟨g, i * 13 + 6, none⟩ (.int .i64 ((k : Int) + 1))).alloc (.cells #[.int .i64 (tkN s i).body, .int .i64 (tkN s i).pc, .int .i64 (tkN s i).up, .slice a3 (tkN s i).regs.length c3, .int .i64 (tkN s i).way, .int .i64 (tkN s i).stage, .int .i64 (k : Int), .int .i64 (tkN s i).since, .slice a8 (tkN s i).old.length c8, .slice a9 (tkN s i).reads.length c9, .slice (some ⟨b10, 0, none⟩) (tkN s i).puts.length c10, .int .i64 (tkN s i).when_, .int .i64 (tkN s i).from_] 70)).drew)) := ((((FrS.refl _ _).setCell (Or.inr gcB) _).setCell (Or.inr hgB) _).alloc _).drew
   clear hat0 hat1 hpu hcs hc hcn hpn hce hk ql A0 A1 G0
   by_cases qe : (k : Int) + 1 = (tkN s i).puts.length
   . have qe' : ((k : Int) + 1 == ((tkN s i).puts.length : Int)) = true := by simp [qe]
     have HG2 : Hid (lockS s i = setTk { s with cells := s.cells.set cn { nth Ce.z s.cells cn with lock := i } } i { tkN s i with stage := 3, at_ := 0 }) := by unfold Hid; rw [HG.out, if_pos qe]
     have QE := (show Hid (_ = _) from qe)
     clear qe HG
     go_enter Try.func160, Try.ntmps160
     go_wp2_with fail
     go_region
     all_goals
       go_wp2_with fail
       refine (stage_any X B pc pb p _ i 3 _ A1H.out (by rw [setTk_len]; exact hi)).mono ?_
       rintro e w2 ⟨rfl, hs2, hf2⟩
       rw [setTk_two, tkN_same (s := { s with cells := s.cells.set cn { nth Ce.z s.cells cn with lock := i } }) hi] at hs2
       have HS2 := (show Hid (SW _ _ _ _ _ _ _) from hs2)
       have HF2 : Hid (FrS (SX X B) w w2) := FH.out.trans hf2
       clear hs2 hf2
       go_wp2_with fail
       go_end0
       exact ⟨rfl, by rw [HG2.out]; exact HS2.out, HF2.out⟩
   . have qe' : ((k : Int) + 1 == ((tkN s i).puts.length : Int)) = false := by simp [qe]
     have HG2 : Hid (lockS s i = setTk { s with cells := s.cells.set cn { nth Ce.z s.cells cn with lock := i } } i { tkN s i with at_ := (k : Int) + 1 }) := by unfold Hid; rw [HG.out, if_neg qe]
     clear qe HG
     go_enter Try.func160, Try.ntmps160
     go_wp2_with fail
     go_region
     all_goals
       go_wp2_with fail
       go_end0
       exact ⟨rfl, by rw [HG2.out]; exact A1H.out, FH.out⟩

set_option maxRecDepth 20000
theorem cells_at (W : World) (M : List Value) (t : TypeId) (H : Nat) (hH : W.heap.size = H) : ∀ j u, M[j]? = some u -> (W.alloc (.cells M.toArray t)).cell? ((⟨H, 0, none⟩ : Addr).add j) = some u := fun j u hu => by
 subst hH
 rw [Go.WideShapes.add_plain, Nat.zero_add]
 simpa using hu
theorem own_blw {C : Nat} {w w' : World} {B : Nat} {e : TypeId} {size : Nat} {v : Value} {n : Nat} {xs : List Value} (h : w.ownsRow B e size v n xs) (hb : Below C w w') (hC : w.heap.size <= C) : w'.ownsRow B e size v n xs :=
 row_heap h fun g hg => hb.block g (Nat.lt_of_lt_of_le (h.lt g hg).2 hC)
theorem l11Add_any (v : Value) (xs : List Pu) (x : Pu) (w : World) (h : PusAt w v xs) (hn : xs.length <= 1048576) :
   Calls Try.prog 170 #[v, .agg #[.int .i64 x.c, .int .i64 x.n]] w fun r w' => ∃ a c, r = .returned (.slice a (addP xs x).length c) /\ w'.ownsRow w.heap.size 52 2 (.slice a (addP xs x).length c) (addP xs x).length ((addP xs x).flatMap puC) /\ Below w.heap.size w w' := by
 obtain ⟨i0, hi, hz0, hz1, hz2⟩ := info_parts (P := Try.prog) (e := 52) (z := .agg #[.int .i64 0, .int .i64 0]) (size := 2) (bytes := 16) (by kernel_rfl)
 obtain ⟨a, cap, rfl, hm, hc⟩ := h
 go_enter Try.func170, Try.ntmps170
 go_wp2_with fail
 go_loopw [5, 6, 7] (fun o d q w' => ∃ (k : Nat) (ys : List Pu) (dn : Bool), k <= xs.length /\ q = .int .i64 k /\ d = .bool dn /\ (xs.take k).foldl (addSt x) ([], false) = (ys, dn) /\ ys.length <= 2 * k /\ w'.ownsRow (w.heap.size + 1) 52 2 o ys.length (ys.flatMap puC) /\ Below (w.heap.size + 1) (w.alloc (.cells #[.int .i64 x.c, .int .i64 x.n] 52)) w') (fun _ _ q _ => xs.length - (intOf q).toNat)
 case atStart => exact ⟨0, [], false, Nat.zero_le _, rfl, rfl, rfl, by simp, by have := own_new (w.alloc (.cells #[.int .i64 x.c, .int .i64 x.n] 52)) 52 2 (by omega); simpa using this, (Below.refl _ _).alloc (by simp) _⟩
 case round =>
   obtain ⟨k, ys, dn, hk, rfl, rfl, hxs, hyl, hown, hb⟩ := hrel
   have HX := (show Hid (_ = _) from hxs)
   have HO := (show Hid (World.ownsRow _ _ _ _ _ _ _) from hown)
   have HB := (show Hid (Below _ _ _) from hb)
   obtain ⟨oa, oc, rfl, _⟩ := own_shape hown
   clear hxs hown hb
   by_cases hlt : k < xs.length
   . have hlt' : (k : Int) < (xs.length : Int) := by omega
     obtain ⟨b, off, rfl, hbw, c0, c1⟩ := hc k hlt
     clear hc
     obtain ⟨q0wr, q1wr⟩ : wr.cell? ⟨w.heap.size, 0, none⟩ = some (.int .i64 x.c) /\ wr.cell? ⟨w.heap.size, 1, none⟩ = some (.int .i64 x.n) := by
       rw [HB.out.cell (p := ⟨w.heap.size, 0, none⟩) (by simp), HB.out.cell (p := ⟨w.heap.size, 1, none⟩) (by simp)]
       simp
     have zzwr : w.heap.size < wr.heap.size := by have := HB.out.size; simp at this; omega
     have c0wr : wr.cell? ⟨b, off + k * 2, none⟩ = some (.int .i64 (nth Pu.z xs k).c) := by rw [HB.out.cell (p := ⟨b, off + k * 2, none⟩) (by show b < w.heap.size + 1; omega)]; simpa [go_sem, hbw] using c0
     have c1wr : wr.cell? ⟨b, off + k * 2 + 1, none⟩ = some (.int .i64 (nth Pu.z xs k).n) := by rw [HB.out.cell (p := ⟨b, off + k * 2 + 1, none⟩) (by show b < w.heap.size + 1; omega)]; simpa [go_sem, hbw] using c1
     have zbwr : b < wr.heap.size := by omega
     have HE : Hid (xs[k] = nth Pu.z xs k) := (nth_eq Pu.z xs k hlt).symm
     by_cases qe : (nth Pu.z xs k).c = x.c
     . have qe1 : ((nth Pu.z xs k).c != x.c) = false := by simp [qe]
       have qg1 : decide ((nth Pu.z xs k).c ≥ x.c) = true := by simp; omega
       cases dn
       . have HT : Hid ([xs[k]].foldl (addSt x) (ys, false) = (ys ++ [x], true)) := by
           unfold Hid; rw [HE.out]; simp [addSt, qe]
         clear HE qe
         go_wp2_with fail
         go_quiet (fail)
         go_wp2_with (at_builtin; refine wpList_append_own _ rfl _ _ 53 rfl (w.heap.size + 1) 52 i0 (.agg #[.int .i64 0, .int .i64 0]) 2 16 Try.underlying53 hi hz0 hz1 hz2 rfl (by decide) _ _ _ rfl (own_blw HO.out bq0 (Nat.le_refl _)) ⟨wr.heap.size, 0, none⟩ 1 1 [.int .i64 x.c, .int .i64 x.n] rfl rfl (cells_at _ [.int .i64 x.c, .int .i64 x.n] _ _ (by first | rfl | simp | simp [go_sem])) (fun u hu => by simp at hu; rcases hu with rfl | rfl <;> rfl) (by unfold maxLen; omega) (by omega) (by (try simp); omega) ?_)
         intro v4 w4 hown' hgrow _
         have HO4 : Hid (World.ownsRow w4 (w.heap.size + 1) 52 2 v4 (ys ++ [x]).length ((ys ++ [x]).flatMap puC)) := by
           unfold Hid
           rw [List.length_append, List.flatMap_append]
           (try rw [hl4])
           first | exact hown' | (simpa [puC] using hown')
         have HB4 : Hid (Below (w.heap.size + 1) (w.alloc (.cells #[.int .i64 x.c, .int .i64 x.n] 52)) w4) := Below.grown (bqx HB.out) hgrow (by (try simp); omega) (fun b hb => (HO.out.lt b hb).1)
         clear hown' hgrow
         obtain ⟨va4, vc4, e4, _⟩ := own_shape HO4.out
         have hl4 : (ys ++ [x]).length = ys.length + 1 := by simp
         rw [hl4] at e4
         subst e4
         have HO4s : Hid (World.ownsRow w4 (w.heap.size + 1) 52 2 (.slice va4 (ys.length + 1) vc4) (ys.length + 1) ((ys ++ [x]).flatMap puC)) := by have := HO4.out; rw [hl4] at this; exact this
         obtain ⟨q0w4, q1w4⟩ : w4.cell? ⟨w.heap.size, 0, none⟩ = some (.int .i64 x.c) /\ w4.cell? ⟨w.heap.size, 1, none⟩ = some (.int .i64 x.n) := by
           rw [HB4.out.cell (p := ⟨w.heap.size, 0, none⟩) (by simp), HB4.out.cell (p := ⟨w.heap.size, 1, none⟩) (by simp)]
           simp
         have zzw4 : w.heap.size < w4.heap.size := by have := HB4.out.size; simp at this; omega
         have c0w4 : w4.cell? ⟨b, off + k * 2, none⟩ = some (.int .i64 (nth Pu.z xs k).c) := by rw [HB4.out.cell (p := ⟨b, off + k * 2, none⟩) (by show b < w.heap.size + 1; omega)]; simpa [go_sem, hbw] using c0
         have c1w4 : w4.cell? ⟨b, off + k * 2 + 1, none⟩ = some (.int .i64 (nth Pu.z xs k).n) := by rw [HB4.out.cell (p := ⟨b, off + k * 2 + 1, none⟩) (by show b < w.heap.size + 1; omega)]; simpa [go_sem, hbw] using c1
         have zbw4 : b < w4.heap.size := by omega
         go_wp2_with fail
         (try go_quiet (fail))
         go_wp2_with fail
         go_roundw
         case rel => exact ⟨k + 1, ys ++ [x], true, by omega, by go_num, rfl, by rw [List.take_succ_eq_append_getElem hlt, List.foldl_append, HX.out]; exact HT.out, (by (try simp); omega), own_blw HO4.out bq0 (Nat.le_refl _), (bqx HB4.out)⟩
         case measure => simp [intOf]; omega
       . have HT : Hid ([xs[k]].foldl (addSt x) (ys, true) = (ys, true)) := by
           unfold Hid; rw [HE.out]; simp [addSt, qe]
         clear HE qe
         go_wp2_with fail
         go_quiet (fail)
         go_wp2_with fail
         (try go_quiet (fail))
         go_wp2_with fail
         go_roundw
         case rel => exact ⟨k + 1, ys, true, by omega, by go_num, rfl, by rw [List.take_succ_eq_append_getElem hlt, List.foldl_append, HX.out]; exact HT.out, (by (try simp); omega), own_blw HO.out bq0 (Nat.le_refl _), (bqx HB.out)⟩
         case measure => simp [intOf]; omega
     . have qe1 : ((nth Pu.z xs k).c != x.c) = true := by simp [qe]
       cases dn
       . by_cases qg : x.c <= (nth Pu.z xs k).c
         . have qg1 : decide ((nth Pu.z xs k).c ≥ x.c) = true := by simp [qg]
           have HT : Hid ([xs[k]].foldl (addSt x) (ys, false) = ((ys ++ [x]) ++ [nth Pu.z xs k], true)) := by
             unfold Hid; rw [HE.out]; simp [addSt, qe, qg]
           clear HE qe qg
           go_wp2_with fail
           go_quiet (fail)
           go_wp2_with (at_builtin; refine wpList_append_own _ rfl _ _ 53 rfl (w.heap.size + 1) 52 i0 (.agg #[.int .i64 0, .int .i64 0]) 2 16 Try.underlying53 hi hz0 hz1 hz2 rfl (by decide) _ _ _ rfl (own_blw HO.out bq0 (Nat.le_refl _)) ⟨wr.heap.size, 0, none⟩ 1 1 [.int .i64 x.c, .int .i64 x.n] rfl rfl (cells_at _ [.int .i64 x.c, .int .i64 x.n] _ _ (by first | rfl | simp | simp [go_sem])) (fun u hu => by simp at hu; rcases hu with rfl | rfl <;> rfl) (by unfold maxLen; omega) (by omega) (by (try simp); omega) ?_)
           intro v4 w4 hown' hgrow _
           have HO4 : Hid (World.ownsRow w4 (w.heap.size + 1) 52 2 v4 (ys ++ [x]).length ((ys ++ [x]).flatMap puC)) := by
             unfold Hid
             rw [List.length_append, List.flatMap_append]
             (try rw [hl4])
             first | exact hown' | (simpa [puC] using hown')
           have HB4 : Hid (Below (w.heap.size + 1) (w.alloc (.cells #[.int .i64 x.c, .int .i64 x.n] 52)) w4) := Below.grown (bqx HB.out) hgrow (by (try simp); omega) (fun b hb => (HO.out.lt b hb).1)
           clear hown' hgrow
           obtain ⟨va4, vc4, e4, _⟩ := own_shape HO4.out
           have hl4 : (ys ++ [x]).length = ys.length + 1 := by simp
           rw [hl4] at e4
           subst e4
           have HO4s : Hid (World.ownsRow w4 (w.heap.size + 1) 52 2 (.slice va4 (ys.length + 1) vc4) (ys.length + 1) ((ys ++ [x]).flatMap puC)) := by have := HO4.out; rw [hl4] at this; exact this
           obtain ⟨q0w4, q1w4⟩ : w4.cell? ⟨w.heap.size, 0, none⟩ = some (.int .i64 x.c) /\ w4.cell? ⟨w.heap.size, 1, none⟩ = some (.int .i64 x.n) := by
             rw [HB4.out.cell (p := ⟨w.heap.size, 0, none⟩) (by simp), HB4.out.cell (p := ⟨w.heap.size, 1, none⟩) (by simp)]
             simp
           have zzw4 : w.heap.size < w4.heap.size := by have := HB4.out.size; simp at this; omega
           have c0w4 : w4.cell? ⟨b, off + k * 2, none⟩ = some (.int .i64 (nth Pu.z xs k).c) := by rw [HB4.out.cell (p := ⟨b, off + k * 2, none⟩) (by show b < w.heap.size + 1; omega)]; simpa [go_sem, hbw] using c0
           have c1w4 : w4.cell? ⟨b, off + k * 2 + 1, none⟩ = some (.int .i64 (nth Pu.z xs k).n) := by rw [HB4.out.cell (p := ⟨b, off + k * 2 + 1, none⟩) (by show b < w.heap.size + 1; omega)]; simpa [go_sem, hbw] using c1
           have zbw4 : b < w4.heap.size := by omega
           go_wp2_with fail
           (try go_quiet (fail))
           go_wp2_with (at_builtin; refine wpList_append_own _ rfl _ _ 53 rfl (w.heap.size + 1) 52 i0 (.agg #[.int .i64 0, .int .i64 0]) 2 16 Try.underlying53 hi hz0 hz1 hz2 rfl (by decide) _ _ _ rfl (own_blw HO4s.out bq0 (Nat.le_refl _)) ⟨w4.heap.size, 0, none⟩ 1 1 [.int .i64 (nth Pu.z xs k).c, .int .i64 (nth Pu.z xs k).n] rfl rfl (cells_at _ [.int .i64 (nth Pu.z xs k).c, .int .i64 (nth Pu.z xs k).n] _ _ (by first | rfl | simp | simp [go_sem])) (fun u hu => by simp at hu; rcases hu with rfl | rfl <;> rfl) (by unfold maxLen; omega) (by omega) (by (try simp); omega) ?_)
           intro v5 w5 hown' hgrow _
           have HO5 : Hid (World.ownsRow w5 (w.heap.size + 1) 52 2 v5 ((ys ++ [x]) ++ [nth Pu.z xs k]).length (((ys ++ [x]) ++ [nth Pu.z xs k]).flatMap puC)) := by
             unfold Hid
             rw [List.length_append, List.flatMap_append]
             (try rw [hl4])
             first | exact hown' | (simpa [puC] using hown')
           have HB5 : Hid (Below (w.heap.size + 1) (w.alloc (.cells #[.int .i64 x.c, .int .i64 x.n] 52)) w5) := Below.grown (bqx HB4.out) hgrow (by (try simp); omega) (fun b hb => (HO4s.out.lt b hb).1)
           clear hown' hgrow
           obtain ⟨va5, vc5, rfl, _⟩ := own_shape HO5.out
           go_wp2_with fail
           go_roundw
           case rel => exact ⟨k + 1, (ys ++ [x]) ++ [nth Pu.z xs k], true, by omega, by go_num, rfl, by rw [List.take_succ_eq_append_getElem hlt, List.foldl_append, HX.out]; exact HT.out, (by (try simp); omega), own_blw HO5.out bq0 (Nat.le_refl _), (bqx HB5.out)⟩
           case measure => simp [intOf]; omega
         . have qg1 : decide ((nth Pu.z xs k).c ≥ x.c) = false := by simp; omega
           have HT : Hid ([xs[k]].foldl (addSt x) (ys, false) = ((ys) ++ [nth Pu.z xs k], false)) := by
             unfold Hid; rw [HE.out]; simp [addSt, qe, qg]
           clear HE qe qg
           go_wp2_with fail
           go_quiet (fail)
           go_wp2_with fail
           (try go_quiet (fail))
           go_wp2_with (at_builtin; refine wpList_append_own _ rfl _ _ 53 rfl (w.heap.size + 1) 52 i0 (.agg #[.int .i64 0, .int .i64 0]) 2 16 Try.underlying53 hi hz0 hz1 hz2 rfl (by decide) _ _ _ rfl (own_blw HO.out bq0 (Nat.le_refl _)) ⟨wr.heap.size, 0, none⟩ 1 1 [.int .i64 (nth Pu.z xs k).c, .int .i64 (nth Pu.z xs k).n] rfl rfl (cells_at _ [.int .i64 (nth Pu.z xs k).c, .int .i64 (nth Pu.z xs k).n] _ _ (by first | rfl | simp | simp [go_sem])) (fun u hu => by simp at hu; rcases hu with rfl | rfl <;> rfl) (by unfold maxLen; omega) (by omega) (by (try simp); omega) ?_)
           intro v5 w5 hown' hgrow _
           have HO5 : Hid (World.ownsRow w5 (w.heap.size + 1) 52 2 v5 ((ys) ++ [nth Pu.z xs k]).length (((ys) ++ [nth Pu.z xs k]).flatMap puC)) := by
             unfold Hid
             rw [List.length_append, List.flatMap_append]
             (try rw [hl4])
             first | exact hown' | (simpa [puC] using hown')
           have HB5 : Hid (Below (w.heap.size + 1) (w.alloc (.cells #[.int .i64 x.c, .int .i64 x.n] 52)) w5) := Below.grown (bqx HB.out) hgrow (by (try simp); omega) (fun b hb => (HO.out.lt b hb).1)
           clear hown' hgrow
           obtain ⟨va5, vc5, rfl, _⟩ := own_shape HO5.out
           go_wp2_with fail
           go_roundw
           case rel => exact ⟨k + 1, (ys) ++ [nth Pu.z xs k], false, by omega, by go_num, rfl, by rw [List.take_succ_eq_append_getElem hlt, List.foldl_append, HX.out]; exact HT.out, (by (try simp); omega), own_blw HO5.out bq0 (Nat.le_refl _), (bqx HB5.out)⟩
           case measure => simp [intOf]; omega
       . have HT : Hid ([xs[k]].foldl (addSt x) (ys, true) = ((ys) ++ [nth Pu.z xs k], true)) := by
           unfold Hid; rw [HE.out]; simp [addSt, qe]
         clear HE qe
         go_wp2_with fail
         go_quiet (fail)
         go_wp2_with fail
         (try go_quiet (fail))
         go_wp2_with (at_builtin; refine wpList_append_own _ rfl _ _ 53 rfl (w.heap.size + 1) 52 i0 (.agg #[.int .i64 0, .int .i64 0]) 2 16 Try.underlying53 hi hz0 hz1 hz2 rfl (by decide) _ _ _ rfl (own_blw HO.out bq0 (Nat.le_refl _)) ⟨wr.heap.size, 0, none⟩ 1 1 [.int .i64 (nth Pu.z xs k).c, .int .i64 (nth Pu.z xs k).n] rfl rfl (cells_at _ [.int .i64 (nth Pu.z xs k).c, .int .i64 (nth Pu.z xs k).n] _ _ (by first | rfl | simp | simp [go_sem])) (fun u hu => by simp at hu; rcases hu with rfl | rfl <;> rfl) (by unfold maxLen; omega) (by omega) (by (try simp); omega) ?_)
         intro v5 w5 hown' hgrow _
         have HO5 : Hid (World.ownsRow w5 (w.heap.size + 1) 52 2 v5 ((ys) ++ [nth Pu.z xs k]).length (((ys) ++ [nth Pu.z xs k]).flatMap puC)) := by
           unfold Hid
           rw [List.length_append, List.flatMap_append]
           (try rw [hl4])
           first | exact hown' | (simpa [puC] using hown')
         have HB5 : Hid (Below (w.heap.size + 1) (w.alloc (.cells #[.int .i64 x.c, .int .i64 x.n] 52)) w5) := Below.grown (bqx HB.out) hgrow (by (try simp); omega) (fun b hb => (HO.out.lt b hb).1)
         clear hown' hgrow
         obtain ⟨va5, vc5, rfl, _⟩ := own_shape HO5.out
         go_wp2_with fail
         go_roundw
         case rel => exact ⟨k + 1, (ys) ++ [nth Pu.z xs k], true, by omega, by go_num, rfl, by rw [List.take_succ_eq_append_getElem hlt, List.foldl_append, HX.out]; exact HT.out, (by (try simp); omega), own_blw HO5.out bq0 (Nat.le_refl _), (bqx HB5.out)⟩
         case measure => simp [intOf]; omega
   . have hk' : ¬ (k : Int) < (xs.length : Int) := by omega
     have hke : k = xs.length := by omega
     subst hke
     have hx2 := HX.out
     rw [List.take_length] at hx2
     obtain ⟨q0, q1⟩ : wr.cell? ⟨w.heap.size, 0, none⟩ = some (.int .i64 x.c) /\ wr.cell? ⟨w.heap.size, 1, none⟩ = some (.int .i64 x.n) := by
       rw [HB.out.cell (p := ⟨w.heap.size, 0, none⟩) (by simp), HB.out.cell (p := ⟨w.heap.size, 1, none⟩) (by simp)]
       simp
     have zz : w.heap.size < wr.heap.size := by have := HB.out.size; simp at this; omega
     have HBW : Hid (Below w.heap.size w wr) := ((Below.refl _ _).alloc (Nat.le_refl _) _).trans (HB.out.mono (by omega))
     cases dn
     . have HA : Hid (addP xs x = ys ++ [x]) := by unfold Hid addP; rw [hx2]; rfl
       clear hx2 hc
       go_wp2_with (at_builtin; refine wpList_append_own _ rfl _ _ 53 rfl (w.heap.size + 1) 52 i0 (.agg #[.int .i64 0, .int .i64 0]) 2 16 Try.underlying53 hi hz0 hz1 hz2 rfl (by decide) _ _ _ rfl (own_blw HO.out bq0 (Nat.le_refl _)) ⟨wr.heap.size, 0, none⟩ 1 1 [.int .i64 x.c, .int .i64 x.n] rfl rfl (cells_at _ [.int .i64 x.c, .int .i64 x.n] _ _ (by first | rfl | simp | simp [go_sem])) (fun u hu => by simp at hu; rcases hu with rfl | rfl <;> rfl) (by unfold maxLen; omega) (by omega) (by (try simp); omega) ?_)
       intro v4 w4 hown' hgrow _
       have HO4 : Hid (World.ownsRow w4 (w.heap.size + 1) 52 2 v4 (ys ++ [x]).length ((ys ++ [x]).flatMap puC)) := by
         unfold Hid
         rw [List.length_append, List.flatMap_append]
         (try rw [hl4])
         first | exact hown' | (simpa [puC] using hown')
       have HB4 : Hid (Below (w.heap.size + 1) (w.alloc (.cells #[.int .i64 x.c, .int .i64 x.n] 52)) w4) := Below.grown (bqx HB.out) hgrow (by (try simp); omega) (fun b hb => (HO.out.lt b hb).1)
       clear hown' hgrow
       obtain ⟨va4, vc4, rfl, _⟩ := own_shape HO4.out
       have HB5 : Hid (Below w.heap.size w w4) := ((Below.refl _ _).alloc (Nat.le_refl _) _).trans (HB4.out.mono (by omega))
       go_wp2_with fail
       go_ret
       rw [HA.out]
       exact ⟨_, _, rfl, own_base HO4.out (by omega), HB5.out⟩
     . have HA : Hid (addP xs x = ys) := by unfold Hid addP; rw [hx2]; rfl
       clear hx2 hc
       go_wp2_with fail
       go_ret
       rw [HA.out]
       exact ⟨_, _, rfl, own_base HO.out (by omega), HBW.out⟩
end Go.Proofs.Ytgbgjljflgbcaaa
