import Derived.Test.YtgbgjljflgbcaaaSo26
import Derived.Test.YtgbgjljflgbcaaaSo11
import Derived.Deep.Upon
import Derived.Deep.Slices
namespace Go.Proofs.Ytgbgjljflgbcaaa
set_option maxHeartbeats 8000000
open Go.RowKit
set_option linter.unusedSimpArgs false
set_option linter.unusedVariables false
set_option maxRecDepth 20000
theorem step_waits (X B : Nat) (pc pb : Value) (p : Pr) (s : Sy) (i : Nat) (w : World) (h : SW X B w pc pb p s) (hi : i < s.tasks.length) (hv : Inw p s) (hr : rdyB s i = true) (hw : (tkN s i).way = 1) :
   Calls Try.prog 133 #[.pointer (some ⟨X, 0, none⟩), .int .i64 (i : Int)] w fun r w' => r = .returned (.tuple #[]) /\ SW X B w' pc pb p (stepS p s i) /\ FrS (SX X B) w w' := by
 have hnp := hv.i.np
 have hT := hnp.t i hi
 have hclk := hnp.ck
 have hn4 : s.cells.length <= 1048576 := by have := hnp.cs; have := okB_cells hnp.ok; omega
 have hln : s.log.length <= 1048576 := by have := hnp.l28 hv.i.bd; omega
 have hn7 : s.tasks.length <= 7 := hv.i.bd.n7
 have hpc := hT.pc100 hnp.ok
 have hsb := hv.b i hi
 unfold SbT at hsb
 have hclk2 : s.clock < 200 := by
   unfold rdyB at hr
   by_cases q : 200 <= s.clock
   . simp [q] at hr
   . omega
 have HV := (show Hid (Inw _ _) from hv)
 have HNP := (show Hid (Np _ _) from hnp)
 have HF : Hid (stepS p s i = awaitS s i) := by unfold Hid stepS; rw [if_pos hw]
 have HS0 := (show Hid (SW _ _ _ _ _ _ _) from h)
 have HW := (show Hid (_ = _) from hw)
 clear h hnp hT hr hv hw hsb hpc
 by_cases hlt : (tkN s i).pc < (acts p (tkN s i)).length
 . have HLT := (show Hid _ from hlt)
   clear hlt
   go_enter Try.func133, Try.ntmps133
   go_wp2_with fail
   refine (act_yes X B pc pb p s i _ HS0.out hi HNP.out HLT.out).mono ?_
   rintro e w1 ⟨dv, kv, rfl, hdv, hkv, hb1⟩
   obtain ⟨da, dc, rfl, _⟩ := hdv.shape
   obtain ⟨ka, kc, rfl, _⟩ := hkv.shape
   clear hdv hkv
   have hs1 := HS0.out.below hb1
   have HF1 : Hid (FrS (SX X B) w w1) := FrS.of_below hb1
   obtain ⟨f, cv, g, cap, lv, T, L, V, h1, h2, h3, h4, h5, h6, h7, h8, h9⟩ := hs1.tk hi
   obtain ⟨a3, c3, a8, c8, a9, c9, a10, c10, rfl⟩ := h7.ti.shapes
   obtain ⟨t0, t1, t2, t3, t4, t5, t6, t7, t8, t9, t10, t11, t12⟩ := h7.cells
   simp only at t3 t8 t9 t10
   have tz := h7.fz
   have hi' : (i : Int) < (s.tasks.length : Int) := by omega
   have hX := hs1.lt
   have hB := hs1.le
   have hgB := h7.ge
   have hgl := h7.lt
   have hXl : X < w1.heap.size := by omega
   have hXg : X ≠ g := by omega
   have HTI := (show Hid (TIn _ _ _ _ _) from h7.ti)
   have HK := (show Hid (f g = .t /\ ∀ b, cv.ownBlock = some b -> f b = .c) from ⟨h7.key, h1.c.2⟩)
   have HS := (show Hid (SW _ _ _ _ _ _ _) from hs1)
   clear h1 h2 h3 h7 h8 h9 hs1
   clear t0 t1 t2 t3 t5 t6 t7 t8 t9 t10 t11 t12
   rw [HW.out] at t4
   go_wp2_with fail
   refine (awaits_any X B pc pb p s i _ (HS.out.alloc _) hi HNP.out HV.out.i.bd).mono ?_
   rintro e w5 ⟨rfl, hs5, hf5⟩
   have HS5 := (show Hid (SW _ _ _ _ _ _ _) from hs5)
   have HF5 : Hid (FrS (SX X B) w w5) := (HF1.out.alloc _).trans hf5
   clear hs5 hf5
   go_wp2_with fail
   first | go_end0 | ((try simp only [Exit.inBlock, Exit.then]); refine bodyPost_ret (results_none rfl _ _ _) rfl ?_)
   exact ⟨rfl, by rw [HF.out]; exact HS5.out, HF5.out⟩
 . have HLT := (show Hid (¬ _) from hlt)
   clear hlt
   go_enter Try.func133, Try.ntmps133
   go_wp2_with fail
   refine (act_no X B pc pb p s i _ HS0.out hi HNP.out (by have := HLT.out; omega)).mono ?_
   rintro e w1 ⟨rfl, hb1⟩
   have hs1 := HS0.out.below hb1
   have HF1 : Hid (FrS (SX X B) w w1) := FrS.of_below hb1
   obtain ⟨f, cv, g, cap, lv, T, L, V, h1, h2, h3, h4, h5, h6, h7, h8, h9⟩ := hs1.tk hi
   obtain ⟨a3, c3, a8, c8, a9, c9, a10, c10, rfl⟩ := h7.ti.shapes
   obtain ⟨t0, t1, t2, t3, t4, t5, t6, t7, t8, t9, t10, t11, t12⟩ := h7.cells
   simp only at t3 t8 t9 t10
   have tz := h7.fz
   have hi' : (i : Int) < (s.tasks.length : Int) := by omega
   have hX := hs1.lt
   have hB := hs1.le
   have hgB := h7.ge
   have hgl := h7.lt
   have hXl : X < w1.heap.size := by omega
   have hXg : X ≠ g := by omega
   have HTI := (show Hid (TIn _ _ _ _ _) from h7.ti)
   have HK := (show Hid (f g = .t /\ ∀ b, cv.ownBlock = some b -> f b = .c) from ⟨h7.key, h1.c.2⟩)
   have HS := (show Hid (SW _ _ _ _ _ _ _) from hs1)
   clear h1 h2 h3 h7 h8 h9 hs1
   clear t0 t1 t2 t3 t5 t6 t7 t8 t9 t10 t11 t12
   rw [HW.out] at t4
   go_wp2_with fail
   refine (awaits_any X B pc pb p s i _ (HS.out.alloc _) hi HNP.out HV.out.i.bd).mono ?_
   rintro e w5 ⟨rfl, hs5, hf5⟩
   have HS5 := (show Hid (SW _ _ _ _ _ _ _) from hs5)
   have HF5 : Hid (FrS (SX X B) w w5) := (HF1.out.alloc _).trans hf5
   clear hs5 hf5
   go_wp2_with fail
   first | go_end0 | ((try simp only [Exit.inBlock, Exit.then]); refine bodyPost_ret (results_none rfl _ _ _) rfl ?_)
   exact ⟨rfl, by rw [HF.out]; exact HS5.out, HF5.out⟩
theorem step_ends (X B : Nat) (pc pb : Value) (p : Pr) (s : Sy) (i : Nat) (w : World) (h : SW X B w pc pb p s) (hi : i < s.tasks.length) (hv : Inw p s) (hr : rdyB s i = true) (hw : (tkN s i).way = 0) (hlt : ¬ (tkN s i).pc < (acts p (tkN s i)).length) :
   Calls Try.prog 133 #[.pointer (some ⟨X, 0, none⟩), .int .i64 (i : Int)] w fun r w' => r = .returned (.tuple #[]) /\ SW X B w' pc pb p (stepS p s i) /\ FrS (SX X B) w w' := by
 have hnp := hv.i.np
 have hT := hnp.t i hi
 have hclk := hnp.ck
 have hn4 : s.cells.length <= 1048576 := by have := hnp.cs; have := okB_cells hnp.ok; omega
 have hln : s.log.length <= 1048576 := by have := hnp.l28 hv.i.bd; omega
 have hn7 : s.tasks.length <= 7 := hv.i.bd.n7
 have hpc := hT.pc100 hnp.ok
 have hsb := hv.b i hi
 unfold SbT at hsb
 have hclk2 : s.clock < 200 := by
   unfold rdyB at hr
   by_cases q : 200 <= s.clock
   . simp [q] at hr
   . omega
 have HV := (show Hid (Inw _ _) from hv)
 have HNP := (show Hid (Np _ _) from hnp)
 have HF : Hid (stepS p s i = setTk s i { tkN s i with way := 2 }) := by unfold Hid stepS; rw [if_neg (by omega), if_neg hlt]
 have HS0 := (show Hid (SW _ _ _ _ _ _ _) from h)
 have HW := (show Hid (_ = _) from hw)
 have HLT := (show Hid (¬ _) from hlt)
 clear h hnp hT hr hv hw hlt hsb hpc
 go_enter Try.func133, Try.ntmps133
 go_wp2_with fail
 refine (act_no X B pc pb p s i _ HS0.out hi HNP.out (by have := HLT.out; omega)).mono ?_
 rintro e w1 ⟨rfl, hb1⟩
 have hs1 := HS0.out.below hb1
 have HF1 : Hid (FrS (SX X B) w w1) := FrS.of_below hb1
 obtain ⟨f, cv, g, cap, lv, T, L, V, h1, h2, h3, h4, h5, h6, h7, h8, h9⟩ := hs1.tk hi
 obtain ⟨a3, c3, a8, c8, a9, c9, a10, c10, rfl⟩ := h7.ti.shapes
 obtain ⟨t0, t1, t2, t3, t4, t5, t6, t7, t8, t9, t10, t11, t12⟩ := h7.cells
 simp only at t3 t8 t9 t10
 have tz := h7.fz
 have hi' : (i : Int) < (s.tasks.length : Int) := by omega
 have hX := hs1.lt
 have hB := hs1.le
 have hgB := h7.ge
 have hgl := h7.lt
 have hXl : X < w1.heap.size := by omega
 have hXg : X ≠ g := by omega
 have HTI := (show Hid (TIn _ _ _ _ _) from h7.ti)
 have HK := (show Hid (f g = .t /\ ∀ b, cv.ownBlock = some b -> f b = .c) from ⟨h7.key, h1.c.2⟩)
 have HS := (show Hid (SW _ _ _ _ _ _ _) from hs1)
 clear h1 h2 h3 h7 h8 h9 hs1
 clear t0 t1 t2 t3 t5 t6 t7 t8 t9 t10 t11 t12
 rw [HW.out] at t4
 go_wp2_with fail
 first | go_end0 | ((try simp only [Exit.inBlock, Exit.then]); refine bodyPost_ret (results_none rfl _ _ _) rfl ?_)
 exact ⟨rfl, by rw [HF.out]; exact (HS.out.scs [(4, 2)] rfl h5 hi).alloc _, (HF1.out.setCell (Or.inr hgB) _).alloc _⟩
theorem step_k1 (X B : Nat) (pc pb : Value) (p : Pr) (s : Sy) (i : Nat) (w : World) (h : SW X B w pc pb p s) (hi : i < s.tasks.length) (hv : Inw p s) (hr : rdyB s i = true) (hw : (tkN s i).way = 0) (hlt : (tkN s i).pc < (acts p (tkN s i)).length) (ds : List De) (ks : List Int) (ar : Int) (ha : nth Ac.z (acts p (tkN s i)) (tkN s i).pc.toNat = ⟨1, ds, ks, ar⟩) :
   Calls Try.prog 133 #[.pointer (some ⟨X, 0, none⟩), .int .i64 (i : Int)] w fun r w' => r = .returned (.tuple #[]) /\ SW X B w' pc pb p (stepS p s i) /\ FrS (SX X B) w w' := by
 have hnp := hv.i.np
 have hT := hnp.t i hi
 have hclk := hnp.ck
 have hn4 : s.cells.length <= 1048576 := by have := hnp.cs; have := okB_cells hnp.ok; omega
 have hln : s.log.length <= 1048576 := by have := hnp.l28 hv.i.bd; omega
 have hn7 : s.tasks.length <= 7 := hv.i.bd.n7
 have hpc := hT.pc100 hnp.ok
 have hsb := hv.b i hi
 unfold SbT at hsb
 have hclk2 : s.clock < 200 := by
   unfold rdyB at hr
   by_cases q : 200 <= s.clock
   . simp [q] at hr
   . omega
 have HV := (show Hid (Inw _ _) from hv)
 have HNP := (show Hid (Np _ _) from hnp)
 have HF : Hid (stepS p s i = tryS s i ds) := by unfold Hid stepS; rw [if_neg (by omega), if_pos hlt, ha]; rfl
 have hac := hT.act hnp.ok hlt
 rw [ha] at hac
 have HS0 := (show Hid (SW _ _ _ _ _ _ _) from h)
 have HW := (show Hid (_ = _) from hw)
 have HLT := (show Hid (_ < _) from hlt)
 have HA := (show Hid (_ = _) from ha)
 have HAC := (show Hid (acB _ _ _ _ = _) from hac)
 clear h hnp hT hr hv hw hlt ha hac
 go_enter Try.func133, Try.ntmps133
 go_wp2_with fail
 have HQ := act_yes X B pc pb p s i _ HS0.out hi HNP.out HLT.out
 rw [HA.out] at HQ
 simp only at HQ
 refine HQ.mono ?_
 clear HQ
 rintro e w1 ⟨dv, kv, rfl, hdv, hkv, hb1⟩
 obtain ⟨da, dc, rfl, _⟩ := hdv.shape
 obtain ⟨ka, kc, rfl, _⟩ := hkv.shape
 have HDV := (show Hid (DeedsOn _ _ _ _) from DeedsOn.kept hdv (Kept.below hb1))
 have HKV := (show Hid (IntsOn _ _ _ _) from IntsOn.kept hkv (Kept.below hb1))
 clear hdv hkv
 have hs1 := HS0.out.below hb1
 have HF1 : Hid (FrS (SX X B) w w1) := FrS.of_below hb1
 obtain ⟨f, cv, g, cap, lv, T, L, V, h1, h2, h3, h4, h5, h6, h7, h8, h9⟩ := hs1.tk hi
 obtain ⟨a3, c3, a8, c8, a9, c9, a10, c10, rfl⟩ := h7.ti.shapes
 obtain ⟨t0, t1, t2, t3, t4, t5, t6, t7, t8, t9, t10, t11, t12⟩ := h7.cells
 simp only at t3 t8 t9 t10
 have tz := h7.fz
 have hi' : (i : Int) < (s.tasks.length : Int) := by omega
 have hX := hs1.lt
 have hB := hs1.le
 have hgB := h7.ge
 have hgl := h7.lt
 have hXl : X < w1.heap.size := by omega
 have hXg : X ≠ g := by omega
 have HTI := (show Hid (TIn _ _ _ _ _) from h7.ti)
 have HK := (show Hid (f g = .t /\ ∀ b, cv.ownBlock = some b -> f b = .c) from ⟨h7.key, h1.c.2⟩)
 have HS := (show Hid (SW _ _ _ _ _ _ _) from hs1)
 clear h1 h2 h3 h7 h8 h9 hs1
 clear t0 t1 t2 t3 t5 t6 t7 t8 t9 t10 t11 t12
 rw [HW.out] at t4
 have hac := ac_try HAC.out rfl
 simp only at hac
 go_wp2_with fail
 refine (try_any X B pc pb p s i _ _ (HS.out.alloc _) hi ds HNP.out (HDV.out.kept (Kept.below (Below.alloc (Below.refl _ _) (Nat.le_refl _) _))).at hac.1 hac.2 HLT.out (by rw [HA.out]) ⟨by omega, by omega⟩ ⟨by omega, by omega⟩ hn4 hln).mono ?_
 rintro e w5 ⟨rfl, hs5, hf5⟩
 have HS5 := (show Hid (SW _ _ _ _ _ _ _) from hs5)
 have HF5 : Hid (FrS (SX X B) w w5) := (HF1.out.alloc _).trans hf5
 clear hs5 hf5
 go_wp2_with fail
 first | go_end0 | ((try simp only [Exit.inBlock, Exit.then]); refine bodyPost_ret (results_none rfl _ _ _) rfl ?_)
 exact ⟨rfl, by rw [HF.out]; exact HS5.out, HF5.out⟩
theorem step_k2 (X B : Nat) (pc pb : Value) (p : Pr) (s : Sy) (i : Nat) (w : World) (h : SW X B w pc pb p s) (hi : i < s.tasks.length) (hv : Inw p s) (hr : rdyB s i = true) (hw : (tkN s i).way = 0) (hlt : (tkN s i).pc < (acts p (tkN s i)).length) (ds : List De) (ks : List Int) (ar : Int) (ha : nth Ac.z (acts p (tkN s i)) (tkN s i).pc.toNat = ⟨2, ds, ks, ar⟩) :
   Calls Try.prog 133 #[.pointer (some ⟨X, 0, none⟩), .int .i64 (i : Int)] w fun r w' => r = .returned (.tuple #[]) /\ SW X B w' pc pb p (stepS p s i) /\ FrS (SX X B) w w' := by
 have hnp := hv.i.np
 have hT := hnp.t i hi
 have hclk := hnp.ck
 have hn4 : s.cells.length <= 1048576 := by have := hnp.cs; have := okB_cells hnp.ok; omega
 have hln : s.log.length <= 1048576 := by have := hnp.l28 hv.i.bd; omega
 have hn7 : s.tasks.length <= 7 := hv.i.bd.n7
 have hpc := hT.pc100 hnp.ok
 have hsb := hv.b i hi
 unfold SbT at hsb
 have hclk2 : s.clock < 200 := by
   unfold rdyB at hr
   by_cases q : 200 <= s.clock
   . simp [q] at hr
   . omega
 have HV := (show Hid (Inw _ _) from hv)
 have HNP := (show Hid (Np _ _) from hnp)
 have HF : Hid (stepS p s i = forkS s i ks) := by unfold Hid stepS; rw [if_neg (by omega), if_pos hlt, ha]; rfl
 have hac := hT.act hnp.ok hlt
 rw [ha] at hac
 have HS0 := (show Hid (SW _ _ _ _ _ _ _) from h)
 have HW := (show Hid (_ = _) from hw)
 have HLT := (show Hid (_ < _) from hlt)
 have HA := (show Hid (_ = _) from ha)
 have HAC := (show Hid (acB _ _ _ _ = _) from hac)
 clear h hnp hT hr hv hw hlt ha hac
 go_enter Try.func133, Try.ntmps133
 go_wp2_with fail
 have HQ := act_yes X B pc pb p s i _ HS0.out hi HNP.out HLT.out
 rw [HA.out] at HQ
 simp only at HQ
 refine HQ.mono ?_
 clear HQ
 rintro e w1 ⟨dv, kv, rfl, hdv, hkv, hb1⟩
 obtain ⟨da, dc, rfl, _⟩ := hdv.shape
 obtain ⟨ka, kc, rfl, _⟩ := hkv.shape
 have HDV := (show Hid (DeedsOn _ _ _ _) from DeedsOn.kept hdv (Kept.below hb1))
 have HKV := (show Hid (IntsOn _ _ _ _) from IntsOn.kept hkv (Kept.below hb1))
 clear hdv hkv
 have hs1 := HS0.out.below hb1
 have HF1 : Hid (FrS (SX X B) w w1) := FrS.of_below hb1
 obtain ⟨f, cv, g, cap, lv, T, L, V, h1, h2, h3, h4, h5, h6, h7, h8, h9⟩ := hs1.tk hi
 obtain ⟨a3, c3, a8, c8, a9, c9, a10, c10, rfl⟩ := h7.ti.shapes
 obtain ⟨t0, t1, t2, t3, t4, t5, t6, t7, t8, t9, t10, t11, t12⟩ := h7.cells
 simp only at t3 t8 t9 t10
 have tz := h7.fz
 have hi' : (i : Int) < (s.tasks.length : Int) := by omega
 have hX := hs1.lt
 have hB := hs1.le
 have hgB := h7.ge
 have hgl := h7.lt
 have hXl : X < w1.heap.size := by omega
 have hXg : X ≠ g := by omega
 have HTI := (show Hid (TIn _ _ _ _ _) from h7.ti)
 have HK := (show Hid (f g = .t /\ ∀ b, cv.ownBlock = some b -> f b = .c) from ⟨h7.key, h1.c.2⟩)
 have HS := (show Hid (SW _ _ _ _ _ _ _) from hs1)
 clear h1 h2 h3 h7 h8 h9 hs1
 clear t0 t1 t2 t3 t5 t6 t7 t8 t9 t10 t11 t12
 rw [HW.out] at t4
 have hac := ac_fork HAC.out rfl
 simp only at hac
 have hkl := hac.1.2
 clear hac
 go_wp2_with fail
 refine (fork_any X B pc pb p s i ks _ _ (HS.out.alloc _) hi (HKV.out.kept (Kept.below (Below.alloc (Below.refl _ _) (Nat.le_refl _) _))) hkl (by omega)).mono ?_
 rintro e w5 ⟨rfl, hs5, hf5⟩
 have HS5 := (show Hid (SW _ _ _ _ _ _ _) from hs5)
 have HF5 : Hid (FrS (SX X B) w w5) := (HF1.out.alloc _).trans hf5
 clear hs5 hf5
 go_wp2_with fail
 first | go_end0 | ((try simp only [Exit.inBlock, Exit.then]); refine bodyPost_ret (results_none rfl _ _ _) rfl ?_)
 exact ⟨rfl, by rw [HF.out]; exact HS5.out, HF5.out⟩
theorem step_k3 (X B : Nat) (pc pb : Value) (p : Pr) (s : Sy) (i : Nat) (w : World) (h : SW X B w pc pb p s) (hi : i < s.tasks.length) (hv : Inw p s) (hr : rdyB s i = true) (hw : (tkN s i).way = 0) (hlt : (tkN s i).pc < (acts p (tkN s i)).length) (ds : List De) (ks : List Int) (ar : Int) (ha : nth Ac.z (acts p (tkN s i)) (tkN s i).pc.toNat = ⟨3, ds, ks, ar⟩) :
   Calls Try.prog 133 #[.pointer (some ⟨X, 0, none⟩), .int .i64 (i : Int)] w fun r w' => r = .returned (.tuple #[]) /\ SW X B w' pc pb p (stepS p s i) /\ FrS (SX X B) w w' := by
 have hnp := hv.i.np
 have hT := hnp.t i hi
 have hclk := hnp.ck
 have hn4 : s.cells.length <= 1048576 := by have := hnp.cs; have := okB_cells hnp.ok; omega
 have hln : s.log.length <= 1048576 := by have := hnp.l28 hv.i.bd; omega
 have hn7 : s.tasks.length <= 7 := hv.i.bd.n7
 have hpc := hT.pc100 hnp.ok
 have hsb := hv.b i hi
 unfold SbT at hsb
 have hclk2 : s.clock < 200 := by
   unfold rdyB at hr
   by_cases q : 200 <= s.clock
   . simp [q] at hr
   . omega
 have HV := (show Hid (Inw _ _) from hv)
 have HNP := (show Hid (Np _ _) from hnp)
 have HF : Hid (stepS p s i = setTk s i { tkN s i with way := 3 }) := by unfold Hid stepS; rw [if_neg (by omega), if_pos hlt, ha]; rfl
 have hac := hT.act hnp.ok hlt
 rw [ha] at hac
 have HS0 := (show Hid (SW _ _ _ _ _ _ _) from h)
 have HW := (show Hid (_ = _) from hw)
 have HLT := (show Hid (_ < _) from hlt)
 have HA := (show Hid (_ = _) from ha)
 have HAC := (show Hid (acB _ _ _ _ = _) from hac)
 clear h hnp hT hr hv hw hlt ha hac
 go_enter Try.func133, Try.ntmps133
 go_wp2_with fail
 have HQ := act_yes X B pc pb p s i _ HS0.out hi HNP.out HLT.out
 rw [HA.out] at HQ
 simp only at HQ
 refine HQ.mono ?_
 clear HQ
 rintro e w1 ⟨dv, kv, rfl, hdv, hkv, hb1⟩
 obtain ⟨da, dc, rfl, _⟩ := hdv.shape
 obtain ⟨ka, kc, rfl, _⟩ := hkv.shape
 have HDV := (show Hid (DeedsOn _ _ _ _) from DeedsOn.kept hdv (Kept.below hb1))
 have HKV := (show Hid (IntsOn _ _ _ _) from IntsOn.kept hkv (Kept.below hb1))
 clear hdv hkv
 have hs1 := HS0.out.below hb1
 have HF1 : Hid (FrS (SX X B) w w1) := FrS.of_below hb1
 obtain ⟨f, cv, g, cap, lv, T, L, V, h1, h2, h3, h4, h5, h6, h7, h8, h9⟩ := hs1.tk hi
 obtain ⟨a3, c3, a8, c8, a9, c9, a10, c10, rfl⟩ := h7.ti.shapes
 obtain ⟨t0, t1, t2, t3, t4, t5, t6, t7, t8, t9, t10, t11, t12⟩ := h7.cells
 simp only at t3 t8 t9 t10
 have tz := h7.fz
 have hi' : (i : Int) < (s.tasks.length : Int) := by omega
 have hX := hs1.lt
 have hB := hs1.le
 have hgB := h7.ge
 have hgl := h7.lt
 have hXl : X < w1.heap.size := by omega
 have hXg : X ≠ g := by omega
 have HTI := (show Hid (TIn _ _ _ _ _) from h7.ti)
 have HK := (show Hid (f g = .t /\ ∀ b, cv.ownBlock = some b -> f b = .c) from ⟨h7.key, h1.c.2⟩)
 have HS := (show Hid (SW _ _ _ _ _ _ _) from hs1)
 clear h1 h2 h3 h7 h8 h9 hs1
 clear t0 t1 t2 t3 t5 t6 t7 t8 t9 t10 t11 t12
 rw [HW.out] at t4
 go_wp2_with fail
 go_quiet (fail)
 go_wp2_with fail
 refine (fails_any X B pc pb p s i _ ((HS.out.alloc _).below (below_drewN (Below.refl _ _) _)) hi).mono ?_
 rintro e w5 ⟨rfl, hs5, hf5⟩
 have HS5 := (show Hid (SW _ _ _ _ _ _ _) from hs5)
 have HF5 : Hid (FrS (SX X B) w w5) := ((HF1.out.alloc _).trans (FrS.of_below (below_drewN (Below.refl _ _) _))).trans hf5
 clear hs5 hf5
 go_wp2_with fail
 first | go_end0 | ((try simp only [Exit.inBlock, Exit.then]); refine bodyPost_ret (results_none rfl _ _ _) rfl ?_)
 exact ⟨rfl, by rw [HF.out]; exact HS5.out, HF5.out⟩
theorem step_k4y (X B : Nat) (pc pb : Value) (p : Pr) (s : Sy) (i : Nat) (w : World) (h : SW X B w pc pb p s) (hi : i < s.tasks.length) (hv : Inw p s) (hr : rdyB s i = true) (hw : (tkN s i).way = 0) (hlt : (tkN s i).pc < (acts p (tkN s i)).length) (ds : List De) (ks : List Int) (ar : Int) (ha : nth Ac.z (acts p (tkN s i)) (tkN s i).pc.toNat = ⟨4, ds, ks, ar⟩) (hz : nth 0 (tkN s i).regs ar.toNat ≠ 0) :
   Calls Try.prog 133 #[.pointer (some ⟨X, 0, none⟩), .int .i64 (i : Int)] w fun r w' => r = .returned (.tuple #[]) /\ SW X B w' pc pb p (stepS p s i) /\ FrS (SX X B) w w' := by
 have hnp := hv.i.np
 have hT := hnp.t i hi
 have hclk := hnp.ck
 have hn4 : s.cells.length <= 1048576 := by have := hnp.cs; have := okB_cells hnp.ok; omega
 have hln : s.log.length <= 1048576 := by have := hnp.l28 hv.i.bd; omega
 have hn7 : s.tasks.length <= 7 := hv.i.bd.n7
 have hpc := hT.pc100 hnp.ok
 have hsb := hv.b i hi
 unfold SbT at hsb
 have hclk2 : s.clock < 200 := by
   unfold rdyB at hr
   by_cases q : 200 <= s.clock
   . simp [q] at hr
   . omega
 have HV := (show Hid (Inw _ _) from hv)
 have HNP := (show Hid (Np _ _) from hnp)
 have HF : Hid (stepS p s i = setTk s i { tkN s i with way := 3 }) := by unfold Hid stepS; rw [if_neg (by omega), if_pos hlt, ha]; simp [hz]
 have hac := hT.act hnp.ok hlt
 rw [ha] at hac
 have hl3 : (tkN s i).regs.length = 3 := (rgB_iff.1 hT.regs).1
 have hac4 := ac_fif hac (by simp) (by simp) (by simp)
 simp only at hac4
 obtain ⟨kr, rfl⟩ : ∃ k : Nat, ar = (k : Int) := ⟨ar.toNat, by omega⟩
 have hkr : kr < 3 := by omega
 clear hac4
 have HS0 := (show Hid (SW _ _ _ _ _ _ _) from h)
 have HW := (show Hid (_ = _) from hw)
 have HLT := (show Hid (_ < _) from hlt)
 have HA := (show Hid (_ = _) from ha)
 have HAC := (show Hid (acB _ _ _ _ = _) from hac)
 clear h hnp hT hr hv hw hlt ha hac
 go_enter Try.func133, Try.ntmps133
 go_wp2_with fail
 have HQ := act_yes X B pc pb p s i _ HS0.out hi HNP.out HLT.out
 rw [HA.out] at HQ
 simp only at HQ
 refine HQ.mono ?_
 clear HQ
 rintro e w1 ⟨dv, kv, rfl, hdv, hkv, hb1⟩
 obtain ⟨da, dc, rfl, _⟩ := hdv.shape
 obtain ⟨ka, kc, rfl, _⟩ := hkv.shape
 have HDV := (show Hid (DeedsOn _ _ _ _) from DeedsOn.kept hdv (Kept.below hb1))
 have HKV := (show Hid (IntsOn _ _ _ _) from IntsOn.kept hkv (Kept.below hb1))
 clear hdv hkv
 have hs1 := HS0.out.below hb1
 have HF1 : Hid (FrS (SX X B) w w1) := FrS.of_below hb1
 obtain ⟨f, cv, g, cap, lv, T, L, V, h1, h2, h3, h4, h5, h6, h7, h8, h9⟩ := hs1.tk hi
 obtain ⟨a3, c3, a8, c8, a9, c9, a10, c10, rfl⟩ := h7.ti.shapes
 obtain ⟨t0, t1, t2, t3, t4, t5, t6, t7, t8, t9, t10, t11, t12⟩ := h7.cells
 simp only at t3 t8 t9 t10
 have tz := h7.fz
 have hi' : (i : Int) < (s.tasks.length : Int) := by omega
 have hX := hs1.lt
 have hB := hs1.le
 have hgB := h7.ge
 have hgl := h7.lt
 have hXl : X < w1.heap.size := by omega
 have hXg : X ≠ g := by omega
 have HTI := (show Hid (TIn _ _ _ _ _) from h7.ti)
 have HK := (show Hid (f g = .t /\ ∀ b, cv.ownBlock = some b -> f b = .c) from ⟨h7.key, h1.c.2⟩)
 have HS := (show Hid (SW _ _ _ _ _ _ _) from hs1)
 clear h1 h2 h3 h7 h8 h9 hs1
 clear t0 t1 t2 t5 t6 t7 t8 t9 t10 t11 t12
 rw [HW.out] at t4
 obtain ⟨br, er, _, brB, brl, brk, brc, brz⟩ := iR_nth HTI.out.r (by show 0 < (tkN s i).regs.length; omega)
 subst er
 have hbrg : br ≠ g := fun e => by have h1 := HK.out.1; rw [<- e, brk] at h1; cases h1
 have hXbr : X ≠ br := by omega
 have hkal : kr < (tkN s i).regs.length := by omega
 have hkal' : (kr : Int) < ((tkN s i).regs.length : Int) := by omega
 have brka := brc kr hkal
 clear brc
 rw [Int.toNat_natCast] at hz
 have hz' : ((nth 0 (tkN s i).regs kr) != 0) = true := by simpa using hz
 clear hz
 go_wp2_with fail
 go_quiet (fail)
 go_wp2_with fail
 refine (fails_any X B pc pb p s i _ ((HS.out.alloc _).below (below_drewN (Below.refl _ _) _)) hi).mono ?_
 rintro e w5 ⟨rfl, hs5, hf5⟩
 have HS5 := (show Hid (SW _ _ _ _ _ _ _) from hs5)
 have HF5 : Hid (FrS (SX X B) w w5) := ((HF1.out.alloc _).trans (FrS.of_below (below_drewN (Below.refl _ _) _))).trans hf5
 clear hs5 hf5
 go_wp2_with fail
 first | go_end0 | ((try simp only [Exit.inBlock, Exit.then]); refine bodyPost_ret (results_none rfl _ _ _) rfl ?_)
 exact ⟨rfl, by rw [HF.out]; exact HS5.out, HF5.out⟩
theorem step_k4n (X B : Nat) (pc pb : Value) (p : Pr) (s : Sy) (i : Nat) (w : World) (h : SW X B w pc pb p s) (hi : i < s.tasks.length) (hv : Inw p s) (hr : rdyB s i = true) (hw : (tkN s i).way = 0) (hlt : (tkN s i).pc < (acts p (tkN s i)).length) (ds : List De) (ks : List Int) (ar : Int) (ha : nth Ac.z (acts p (tkN s i)) (tkN s i).pc.toNat = ⟨4, ds, ks, ar⟩) (hz : nth 0 (tkN s i).regs ar.toNat = 0) :
   Calls Try.prog 133 #[.pointer (some ⟨X, 0, none⟩), .int .i64 (i : Int)] w fun r w' => r = .returned (.tuple #[]) /\ SW X B w' pc pb p (stepS p s i) /\ FrS (SX X B) w w' := by
 have hnp := hv.i.np
 have hT := hnp.t i hi
 have hclk := hnp.ck
 have hn4 : s.cells.length <= 1048576 := by have := hnp.cs; have := okB_cells hnp.ok; omega
 have hln : s.log.length <= 1048576 := by have := hnp.l28 hv.i.bd; omega
 have hn7 : s.tasks.length <= 7 := hv.i.bd.n7
 have hpc := hT.pc100 hnp.ok
 have hsb := hv.b i hi
 unfold SbT at hsb
 have hclk2 : s.clock < 200 := by
   unfold rdyB at hr
   by_cases q : 200 <= s.clock
   . simp [q] at hr
   . omega
 have HV := (show Hid (Inw _ _) from hv)
 have HNP := (show Hid (Np _ _) from hnp)
 have HF : Hid (stepS p s i = setTk s i { tkN s i with pc := (tkN s i).pc + 1 }) := by unfold Hid stepS; rw [if_neg (by omega), if_pos hlt, ha]; simp [hz]
 have hac := hT.act hnp.ok hlt
 rw [ha] at hac
 have hl3 : (tkN s i).regs.length = 3 := (rgB_iff.1 hT.regs).1
 have hac4 := ac_fif hac (by simp) (by simp) (by simp)
 simp only at hac4
 obtain ⟨kr, rfl⟩ : ∃ k : Nat, ar = (k : Int) := ⟨ar.toNat, by omega⟩
 have hkr : kr < 3 := by omega
 clear hac4
 have HS0 := (show Hid (SW _ _ _ _ _ _ _) from h)
 have HW := (show Hid (_ = _) from hw)
 have HLT := (show Hid (_ < _) from hlt)
 have HA := (show Hid (_ = _) from ha)
 have HAC := (show Hid (acB _ _ _ _ = _) from hac)
 clear h hnp hT hr hv hw hlt ha hac
 go_enter Try.func133, Try.ntmps133
 go_wp2_with fail
 have HQ := act_yes X B pc pb p s i _ HS0.out hi HNP.out HLT.out
 rw [HA.out] at HQ
 simp only at HQ
 refine HQ.mono ?_
 clear HQ
 rintro e w1 ⟨dv, kv, rfl, hdv, hkv, hb1⟩
 obtain ⟨da, dc, rfl, _⟩ := hdv.shape
 obtain ⟨ka, kc, rfl, _⟩ := hkv.shape
 have HDV := (show Hid (DeedsOn _ _ _ _) from DeedsOn.kept hdv (Kept.below hb1))
 have HKV := (show Hid (IntsOn _ _ _ _) from IntsOn.kept hkv (Kept.below hb1))
 clear hdv hkv
 have hs1 := HS0.out.below hb1
 have HF1 : Hid (FrS (SX X B) w w1) := FrS.of_below hb1
 obtain ⟨f, cv, g, cap, lv, T, L, V, h1, h2, h3, h4, h5, h6, h7, h8, h9⟩ := hs1.tk hi
 obtain ⟨a3, c3, a8, c8, a9, c9, a10, c10, rfl⟩ := h7.ti.shapes
 obtain ⟨t0, t1, t2, t3, t4, t5, t6, t7, t8, t9, t10, t11, t12⟩ := h7.cells
 simp only at t3 t8 t9 t10
 have tz := h7.fz
 have hi' : (i : Int) < (s.tasks.length : Int) := by omega
 have hX := hs1.lt
 have hB := hs1.le
 have hgB := h7.ge
 have hgl := h7.lt
 have hXl : X < w1.heap.size := by omega
 have hXg : X ≠ g := by omega
 have HTI := (show Hid (TIn _ _ _ _ _) from h7.ti)
 have HK := (show Hid (f g = .t /\ ∀ b, cv.ownBlock = some b -> f b = .c) from ⟨h7.key, h1.c.2⟩)
 have HS := (show Hid (SW _ _ _ _ _ _ _) from hs1)
 clear h1 h2 h3 h7 h8 h9 hs1
 clear t0 t2 t5 t6 t7 t8 t9 t10 t11 t12
 rw [HW.out] at t4
 obtain ⟨br, er, _, brB, brl, brk, brc, brz⟩ := iR_nth HTI.out.r (by show 0 < (tkN s i).regs.length; omega)
 subst er
 have hbrg : br ≠ g := fun e => by have h1 := HK.out.1; rw [<- e, brk] at h1; cases h1
 have hXbr : X ≠ br := by omega
 have hkal : kr < (tkN s i).regs.length := by omega
 have hkal' : (kr : Int) < ((tkN s i).regs.length : Int) := by omega
 have brka := brc kr hkal
 clear brc
 rw [Int.toNat_natCast] at hz
 rw [hz] at brka
 clear hz
 have hwr : IntKind.i64.wrap ((tkN s i).pc + 1) = (tkN s i).pc + 1 := by rw [IntKind.wrap_i64]; omega
 go_wp2_with fail
 go_quiet (fail)
 go_wp2_with fail
 go_region
 all_goals
   go_wp2_with fail
   first | go_end0 | ((try simp only [Exit.inBlock, Exit.then]); refine bodyPost_ret (results_none rfl _ _ _) rfl ?_)
   exact ⟨rfl, by rw [HF.out]; exact ((HS.out.alloc _).below (below_drewN (Below.refl _ _) _)).scs [(1, (tkN s i).pc + 1)] rfl (((below_drewN (Below.alloc (Below.refl _ _) (Nat.le_refl _) _) _).cell (p := ⟨X, 3, none⟩) hXl).trans h5) hi, ((HF1.out.alloc _).trans (FrS.of_below (below_drewN (Below.refl _ _) _))).setCell (Or.inr hgB) _⟩
theorem step_any (X B : Nat) (pc pb : Value) (p : Pr) (s : Sy) (i : Nat) (w : World) (h : SW X B w pc pb p s) (hi : i < s.tasks.length) (hv : Inw p s) (hr : rdyB s i = true) :
   Calls Try.prog 133 #[.pointer (some ⟨X, 0, none⟩), .int .i64 (i : Int)] w fun r w' => r = .returned (.tuple #[]) /\ SW X B w' pc pb p (stepS p s i) /\ FrS (SX X B) w w' := by
 have hw : (tkN s i).way = 0 \/ (tkN s i).way = 1 := by
   unfold rdyB at hr
   by_cases q : 200 <= s.clock
   . simp [q] at hr
   . rw [if_neg q] at hr
     by_cases q0 : (tkN s i).way = 0
     . exact .inl q0
     . by_cases q1 : (tkN s i).way = 1
       . exact .inr q1
       . unfold tkN at q0 q1
         simp [q0, q1] at hr
 rcases hw with hw | hw
 . by_cases hlt : (tkN s i).pc < (acts p (tkN s i)).length
   . have hac := (hv.i.np.t i hi).act hv.i.np.ok hlt
     rcases ha : nth Ac.z (acts p (tkN s i)) (tkN s i).pc.toNat with ⟨k, ds, ks, ar⟩
     rw [ha] at hac
     by_cases k1 : k = 1
     . subst k1; exact step_k1 X B pc pb p s i w h hi hv hr hw hlt ds ks ar ha
     by_cases k2 : k = 2
     . subst k2; exact step_k2 X B pc pb p s i w h hi hv hr hw hlt ds ks ar ha
     by_cases k3 : k = 3
     . subst k3; exact step_k3 X B pc pb p s i w h hi hv hr hw hlt ds ks ar ha
     have k4 : k = 4 := (ac_fif hac k1 k2 k3).1
     subst k4
     by_cases hz : nth 0 (tkN s i).regs ar.toNat = 0
     . exact step_k4n X B pc pb p s i w h hi hv hr hw hlt ds ks ar ha hz
     . exact step_k4y X B pc pb p s i w h hi hv hr hw hlt ds ks ar ha hz
   . exact step_ends X B pc pb p s i w h hi hv hr hw hlt
 . exact step_waits X B pc pb p s i w h hi hv hr hw

theorem step_append_src {P : Program} {w : World} {ops : Array Oper} {o : Oper} {a : Act} {K : Act -> World -> Prop} {Q : Exit -> Act -> World -> Prop} {E : Prop} (hgd : o.guard = none) (s x : Operand) (t : TypeId)
   (ho : o.op = .call { callee := .builtin .append, args := #[s, x], argTypes := #[t, t] })
   (base : Nat) (e : TypeId) (i : TypeInfo) (z : Value) (size bytes : Nat) (ht : P.underlying t = some (.slice e)) (hi : P.info? e = some i) (hz : i.zero = some z)
   (hsize : i.size = size) (hby : i.bytes = bytes) (hzs : z.cells.size = size) (hsz : 0 < size)
   (v : Value) (n : Nat) (xs : List Value) (hs : a.eval s = v) (hown : w.ownsRow base e size v n xs)
   (ao : Option Addr) (m c : Nat) (news : List Value) (hx : a.eval x = .slice ao m c) (hl : news.length = m * size) (hsrc : m = 0 \/ ∃ ad, ao = some ad /\ ∀ j u, news[j]? = some u -> w.cell? (ad.add j) = some u) (h1 : ∀ u ∈ news, u.oneCell' = true)
   (h63 : n + m <= maxLen) (hbytes : (n + m) * bytes <= 140737488355328) (hbase : base <= w.heap.size)
   (h : ∀ v' w', w'.ownsRow base e size v' (n + m) (xs ++ news) -> w.grownBy w' v.ownBlock -> K (a.put o.dst v') w') :
   if Region.wanted o (yielded ops a.tmps) = true then Oper.wp P o a w K Q else E := by
 have hw : Region.wanted o (yielded ops a.tmps) = true := by simp [Region.wanted, hgd]
 rw [if_pos hw]
 by_cases hm : m = 0
 . subst hm
   have hnil : news = [] := by cases news with | nil => rfl | cons y ys => simp at hl
   subst hnil
   obtain ⟨b, cap, hv, hcap, _⟩ := own_shape hown
   have hr := run_append_nothing (P := P) w t t o.type e i ht hi b n cap hcap (.slice ao 0 c) (by
     cases ao with
     | none => exact Src.ofNil w ht c
     | some ad => exact Src.ofSlice w ht ad 0 c [] (by simp) (by simp) (by simp))
   unfold Oper.wp execOp
   simp only [ho, resolve, invoke, builtin, Sem.run_bind, Sem.run_pure, Result.andThen_ok, List.map_toArray, List.map_cons, List.map_nil, hs, hx, hv, hr]
   exact h _ w (by rw [List.append_nil, Nat.add_zero, <- hv]; exact hown) (World.grownBy.refl _ _)
 . obtain ⟨ad, rfl, hnews⟩ : ∃ ad, ao = some ad /\ ∀ j u, news[j]? = some u -> w.cell? (ad.add j) = some u := by
     rcases hsrc with h0 | h0
     . exact absurd h0 hm
     . exact h0
   exact wp_append_own w s x t ho base e i z size bytes ht hi hz hsize hby hzs hsz v n xs hs hown ad m c news hx hl hnews h1 h63 hbytes hbase (fun v' w' a1 a2 _ => h v' w' a1 a2)
end Go.Proofs.Ytgbgjljflgbcaaa
