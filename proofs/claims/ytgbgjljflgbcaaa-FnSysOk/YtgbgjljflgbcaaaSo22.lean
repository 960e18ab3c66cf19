import Derived.Test.YtgbgjljflgbcaaaSo21
namespace Go.Proofs.Ytgbgjljflgbcaaa
set_option maxHeartbeats 8000000
open Go.RowKit
set_option linter.unusedSimpArgs false
set_option linter.unusedVariables false
set_option maxRecDepth 20000
theorem FrS.wide' {S S' : Nat -> Prop} {w w' : World} (h : FrS S w w') (hS : ∀ k, S k -> S' k) : FrS S' w w' := ⟨h.os, h.tape, h.output, h.size, fun k hk hn => h.block k hk (fun e => hn (hS k e))⟩
theorem deed_none (X B : Nat) (pc pb : Value) (p : Pr) (s : Sy) (i : Nat) (v : Value) (w : World) (h : SW X B w pc pb p s) (hi : i < s.tasks.length) (ds : List De) (hnp : Np p s) (hst : (tkN s i).stage = 1) (hd : DeedsAt w v ds) (hdl : ds.length <= 5) (hdB : ∀ j, j < ds.length -> deB (nth De.z ds j) p.cells.length = true) (hat : (tkN s i).at_ <= ds.length) (hat0 : 0 <= (tkN s i).at_) (hsi : -1048576 <= (tkN s i).since /\ (tkN s i).since <= 1048576) (hn : s.cells.length <= 1048576) (hln : s.log.length <= 1048576) (hlt : ¬ (tkN s i).at_ < ds.length) :
   Calls Try.prog 159 #[.pointer (some ⟨X, 0, none⟩), .int .i64 (i : Int), v] w fun r w' => r = .returned (.tuple #[]) /\ SW X B w' pc pb p (deedS s i ds) /\ FrS (SX X B) w w' := by
 have hT := hnp.t i hi
 have hold : (tkN s i).old.length = 3 := (rgB_iff.1 hT.old).1
 have hrg := hT.regs
 have hl3 : (tkN s i).regs.length = 3 := (rgB_iff.1 hrg).1
 have hrl : (tkN s i).reads.length <= 1048576 := by have := puB_len hT.reads; have := hnp.cs; omega
 have hul : (tkN s i).puts.length <= 1048576 := by have := puB_len hT.puts; have := hnp.cs; omega
 have hpc : 0 <= (tkN s i).pc /\ (tkN s i).pc <= 100 := hT.pc100 hnp.ok
 have hcs := hnp.cs
 obtain ⟨k, hk⟩ : ∃ k : Nat, (tkN s i).at_ = (k : Int) := ⟨(tkN s i).at_.toNat, by omega⟩
 clear hT hnp hst
 obtain ⟨ad, cd, rfl, _, hdc⟩ := hd
 obtain ⟨f, cv, g, cap, lv, T, L, V, h1, h2, h3, h4, h5, h6, h7, h8, h9⟩ := h.tk hi
 obtain ⟨a3, c3, a8, c8, a9, c9, a10, c10, rfl⟩ := h7.ti.shapes
 obtain ⟨t0, t1, t2, t3, t4, t5, t6, t7, t8, t9, t10, t11, t12⟩ := h7.cells
 simp only at t3 t8 t9 t10
 have tz := h7.fz
 have hi' : (i : Int) < (s.tasks.length : Int) := by omega
 have hX := h.lt
 have hB := h.le
 have hgB := h7.ge
 have hgl := h7.lt
 have hXl : X < w.heap.size := by omega
 have hXg : X ≠ g := by omega
 have HTI := (show Hid (TIn _ _ _ _ _) from h7.ti)
 have HK := (show Hid (f g = .t /\ ∀ b, cv.ownBlock = some b -> f b = .c) from ⟨h7.key, h1.c.2⟩)
 have HS := (show Hid (SW _ _ _ _ _ _ _) from h)
 clear h1 h2 h3 h7 h8 h9 h
 rw [hk] at t6
 obtain ⟨br, er, _, brB, brl, brk, brc, brz⟩ := iR_nth HTI.out.r (by show 0 < (tkN s i).regs.length; omega)
 subst er
 have hbrg : br ≠ g := fun e => by have h1 := HK.out.1; rw [<- e, brk] at h1; cases h1
 have hXbr : X ≠ br := by omega
 have BRC := (show Hid (∀ k, _) from brc)
 have HOLD := (show Hid (_ = _) from hold)
 have HDC := (show Hid (∀ i, _) from hdc)
 have hwr : IntKind.i64.wrap ((k : Int) + 1) = (k : Int) + 1 := by rw [IntKind.wrap_i64]; omega
 have HPU : Hid (PusAt w (.slice a10 (tkN s i).puts.length c10) (tkN s i).puts) := pR_at HTI.out.u
 clear brc hold h4 hdc
 have hke : (k : Int) ≥ (ds.length : Int) := by omega
 by_cases qp : (tkN s i).puts.length = 0
 . have HF : Hid (deedS s i ds = endS s i (tkN s i).since) := by unfold Hid deedS; rw [if_neg hlt, if_pos qp]
   have qp' : (((tkN s i).puts.length : Int) == 0) = true := by simp [qp]
   have QP := (show Hid (_ = _) from qp)
   clear hat hat0 hlt hk qp hdB hrg
   go_enter Try.func159, Try.ntmps159
   go_wp2_with fail
   refine (end_any X B pc pb p s i (tkN s i).since _ (HS.out.alloc _) hi hpc hrl hul hln).mono ?_
   rintro e w2 ⟨rfl, hs2, hf2⟩
   have HS2 := (show Hid (SW _ _ _ _ _ _ _) from hs2)
   have HF2 : Hid (FrS (SX X B) w w2) := ((FrS.refl _ _).alloc _).trans hf2
   clear hs2 hf2
   go_wp2_with fail
   ((try simp only [Exit.inBlock, Exit.then]); refine bodyPost_ret (results_none rfl _ _ _) rfl ?_)
   exact ⟨rfl, by rw [HF.out]; exact HS2.out, HF2.out⟩
 . have HF : Hid (deedS s i ds = setTk s i { tkN s i with stage := 2, at_ := 0 }) := by unfold Hid deedS; rw [if_neg hlt, if_neg qp]
   have qp' : (((tkN s i).puts.length : Int) == 0) = false := by simpa using qp
   clear hat hat0 hlt hk qp hdB hrg
   go_enter Try.func159, Try.ntmps159
   go_wp2_with fail
   refine (stage_any X B pc pb p s i 2 _ (HS.out.alloc _) hi).mono ?_
   rintro e w2 ⟨rfl, hs2, hf2⟩
   have HS2 := (show Hid (SW _ _ _ _ _ _ _) from hs2)
   have HF2 : Hid (FrS (SX X B) w w2) := ((FrS.refl _ _).alloc _).trans hf2
   clear hs2 hf2
   go_wp2_with fail
   ((try simp only [Exit.inBlock, Exit.then]); refine bodyPost_ret (results_none rfl _ _ _) rfl ?_)
   exact ⟨rfl, by rw [HF.out]; exact HS2.out, HF2.out⟩
theorem deed_load (X B : Nat) (pc pb : Value) (p : Pr) (s : Sy) (i : Nat) (v : Value) (w : World) (h : SW X B w pc pb p s) (hi : i < s.tasks.length) (ds : List De) (hnp : Np p s) (hst : (tkN s i).stage = 1) (hd : DeedsAt w v ds) (hdl : ds.length <= 5) (hdB : ∀ j, j < ds.length -> deB (nth De.z ds j) p.cells.length = true) (hat : (tkN s i).at_ <= ds.length) (hat0 : 0 <= (tkN s i).at_) (hsi : -1048576 <= (tkN s i).since /\ (tkN s i).since <= 1048576) (hn : s.cells.length <= 1048576) (hln : s.log.length <= 1048576) (hlt : (tkN s i).at_ < ds.length) (hkd : (nth De.z ds (tkN s i).at_.toNat).k = 1) :
  Calls Try.prog 159 #[.pointer (some ⟨X, 0, none⟩), .int .i64 (i : Int), v] w fun r w' => r = .returned (.tuple #[]) /\ SW X B w' pc pb p (deedS s i ds) /\ FrS (SX X B) w w' := by
 have hT := hnp.t i hi
 have hold : (tkN s i).old.length = 3 := (rgB_iff.1 hT.old).1
 have hrg := hT.regs
 have hl3 : (tkN s i).regs.length = 3 := (rgB_iff.1 hrg).1
 have hrl : (tkN s i).reads.length <= 1048576 := by have := puB_len hT.reads; have := hnp.cs; omega
 have hul : (tkN s i).puts.length <= 1048576 := by have := puB_len hT.puts; have := hnp.cs; omega
 have hpc : 0 <= (tkN s i).pc /\ (tkN s i).pc <= 100 := hT.pc100 hnp.ok
 have hcs := hnp.cs
 obtain ⟨k, hk⟩ : ∃ k : Nat, (tkN s i).at_ = (k : Int) := ⟨(tkN s i).at_.toNat, by omega⟩
 clear hT hnp hst
 obtain ⟨ad, cd, rfl, _, hdc⟩ := hd
 obtain ⟨f, cv, g, cap, lv, T, L, V, h1, h2, h3, h4, h5, h6, h7, h8, h9⟩ := h.tk hi
 obtain ⟨a3, c3, a8, c8, a9, c9, a10, c10, rfl⟩ := h7.ti.shapes
 obtain ⟨t0, t1, t2, t3, t4, t5, t6, t7, t8, t9, t10, t11, t12⟩ := h7.cells
 simp only at t3 t8 t9 t10
 have tz := h7.fz
 have hi' : (i : Int) < (s.tasks.length : Int) := by omega
 have hX := h.lt
 have hB := h.le
 have hgB := h7.ge
 have hgl := h7.lt
 have hXl : X < w.heap.size := by omega
 have hXg : X ≠ g := by omega
 have HTI := (show Hid (TIn _ _ _ _ _) from h7.ti)
 have HK := (show Hid (f g = .t /\ ∀ b, cv.ownBlock = some b -> f b = .c) from ⟨h7.key, h1.c.2⟩)
 have HS := (show Hid (SW _ _ _ _ _ _ _) from h)
 clear h1 h2 h3 h7 h8 h9 h
 rw [hk] at t6
 obtain ⟨br, er, _, brB, brl, brk, brc, brz⟩ := iR_nth HTI.out.r (by show 0 < (tkN s i).regs.length; omega)
 subst er
 have hbrg : br ≠ g := fun e => by have h1 := HK.out.1; rw [<- e, brk] at h1; cases h1
 have hXbr : X ≠ br := by omega
 have BRC := (show Hid (∀ k, _) from brc)
 have HOLD := (show Hid (_ = _) from hold)
 have HDC := (show Hid (∀ i, _) from hdc)
 have hwr : IntKind.i64.wrap ((k : Int) + 1) = (k : Int) + 1 := by rw [IntKind.wrap_i64]; omega
 have HPU : Hid (PusAt w (.slice a10 (tkN s i).puts.length c10) (tkN s i).puts) := pR_at HTI.out.u
 clear brc hold h4 hdc
 have hkl : k < ds.length := by omega
 have hkl' : (k : Int) < (ds.length : Int) := by omega
 have hdb := hdB k hkl
 obtain ⟨bd, off, rfl, hbd, c0, c1, c2⟩ := HDC.out k hkl
 have HF : Hid (deedS s i ds = deed1 s i (nth De.z ds k)) := by unfold Hid deedS; rw [if_pos hlt, hk, Int.toNat_natCast]
 have hkd' : (nth De.z ds k).k = 1 := by have := hkd; rw [hk, Int.toNat_natCast] at this; exact this
 clear hkd HDC hdB hlt hat hat0
 revert c0 c1 c2 hdb HF hkd'
 generalize nth De.z ds k = d
 intro hdb c0 c1 c2 HF hkd'
 obtain ⟨dk, da, db⟩ := d
 simp only at c0 c1 c2 hkd'
 subst hkd'
 obtain ⟨ha, hb⟩ := de_load hdb rfl
 simp only at ha hb
 have HF' : Hid (deed1 s i ⟨1, da, db⟩ = loadS s i ⟨1, da, db⟩) := rfl
 have hatx : 0 <= (tkN s i).at_ /\ (tkN s i).at_ <= 1048576 := by omega
 clear hdb
 have HL3 := (show Hid (_ = _) from hl3)
 clear hl3
 go_enter Try.func159, Try.ntmps159
 go_wp2_with fail
 refine (load_any X B pc pb p s i ⟨1, da, db⟩ _ ((HS.out.alloc _).alloc _) hi hrg HOLD.out hn hrl hatx ha (by rw [hcs]; exact hb)).mono ?_
 rintro e w2 ⟨rfl, hs2, hf2⟩
 have HS2 := (show Hid (SW _ _ _ _ _ _ _) from hs2)
 have HF2 : Hid (FrS (SX X B) w w2) := (((FrS.refl _ _).alloc _).alloc _).trans hf2
 clear hs2 hf2
 go_wp2_with fail
 ((try simp only [Exit.inBlock, Exit.then]); refine bodyPost_ret (results_none rfl _ _ _) rfl ?_)
 exact ⟨rfl, by rw [HF.out, HF'.out]; exact HS2.out, HF2.out⟩
theorem deed_need (X B : Nat) (pc pb : Value) (p : Pr) (s : Sy) (i : Nat) (v : Value) (w : World) (h : SW X B w pc pb p s) (hi : i < s.tasks.length) (ds : List De) (hnp : Np p s) (hst : (tkN s i).stage = 1) (hd : DeedsAt w v ds) (hdl : ds.length <= 5) (hdB : ∀ j, j < ds.length -> deB (nth De.z ds j) p.cells.length = true) (hat : (tkN s i).at_ <= ds.length) (hat0 : 0 <= (tkN s i).at_) (hsi : -1048576 <= (tkN s i).since /\ (tkN s i).since <= 1048576) (hn : s.cells.length <= 1048576) (hln : s.log.length <= 1048576) (hlt : (tkN s i).at_ < ds.length) (hkd : (nth De.z ds (tkN s i).at_.toNat).k = 5) :
   Calls Try.prog 159 #[.pointer (some ⟨X, 0, none⟩), .int .i64 (i : Int), v] w fun r w' => r = .returned (.tuple #[]) /\ SW X B w' pc pb p (deedS s i ds) /\ FrS (SX X B) w w' := by
 have hT := hnp.t i hi
 have hold : (tkN s i).old.length = 3 := (rgB_iff.1 hT.old).1
 have hrg := hT.regs
 have hl3 : (tkN s i).regs.length = 3 := (rgB_iff.1 hrg).1
 have hrl : (tkN s i).reads.length <= 1048576 := by have := puB_len hT.reads; have := hnp.cs; omega
 have hul : (tkN s i).puts.length <= 1048576 := by have := puB_len hT.puts; have := hnp.cs; omega
 have hpc : 0 <= (tkN s i).pc /\ (tkN s i).pc <= 100 := hT.pc100 hnp.ok
 have hcs := hnp.cs
 obtain ⟨k, hk⟩ : ∃ k : Nat, (tkN s i).at_ = (k : Int) := ⟨(tkN s i).at_.toNat, by omega⟩
 clear hT hnp hst
 obtain ⟨ad, cd, rfl, _, hdc⟩ := hd
 obtain ⟨f, cv, g, cap, lv, T, L, V, h1, h2, h3, h4, h5, h6, h7, h8, h9⟩ := h.tk hi
 obtain ⟨a3, c3, a8, c8, a9, c9, a10, c10, rfl⟩ := h7.ti.shapes
 obtain ⟨t0, t1, t2, t3, t4, t5, t6, t7, t8, t9, t10, t11, t12⟩ := h7.cells
 simp only at t3 t8 t9 t10
 have tz := h7.fz
 have hi' : (i : Int) < (s.tasks.length : Int) := by omega
 have hX := h.lt
 have hB := h.le
 have hgB := h7.ge
 have hgl := h7.lt
 have hXl : X < w.heap.size := by omega
 have hXg : X ≠ g := by omega
 have HTI := (show Hid (TIn _ _ _ _ _) from h7.ti)
 have HK := (show Hid (f g = .t /\ ∀ b, cv.ownBlock = some b -> f b = .c) from ⟨h7.key, h1.c.2⟩)
 have HS := (show Hid (SW _ _ _ _ _ _ _) from h)
 clear h1 h2 h3 h7 h8 h9 h
 rw [hk] at t6
 obtain ⟨br, er, _, brB, brl, brk, brc, brz⟩ := iR_nth HTI.out.r (by show 0 < (tkN s i).regs.length; omega)
 subst er
 have hbrg : br ≠ g := fun e => by have h1 := HK.out.1; rw [<- e, brk] at h1; cases h1
 have hXbr : X ≠ br := by omega
 have BRC := (show Hid (∀ k, _) from brc)
 have HOLD := (show Hid (_ = _) from hold)
 have HDC := (show Hid (∀ i, _) from hdc)
 have hwr : IntKind.i64.wrap ((k : Int) + 1) = (k : Int) + 1 := by rw [IntKind.wrap_i64]; omega
 have HPU : Hid (PusAt w (.slice a10 (tkN s i).puts.length c10) (tkN s i).puts) := pR_at HTI.out.u
 clear brc hold h4 hdc
 have hkl : k < ds.length := by omega
 have hkl' : (k : Int) < (ds.length : Int) := by omega
 have hdb := hdB k hkl
 obtain ⟨bd, off, rfl, hbd, c0, c1, c2⟩ := HDC.out k hkl
 have HF : Hid (deedS s i ds = deed1 s i (nth De.z ds k)) := by unfold Hid deedS; rw [if_pos hlt, hk, Int.toNat_natCast]
 have hkd' : (nth De.z ds k).k = 5 := by have := hkd; rw [hk, Int.toNat_natCast] at this; exact this
 clear hkd HDC hdB hlt hat hat0
 revert c0 c1 c2 hdb HF hkd'
 generalize nth De.z ds k = d
 intro hdb c0 c1 c2 HF hkd'
 obtain ⟨dk, da, db⟩ := d
 simp only at c0 c1 c2 hkd'
 subst hkd'
 have ha := de_need hdb rfl
 simp only at ha
 obtain ⟨ka, rfl⟩ : ∃ k : Nat, da = (k : Int) := ⟨da.toNat, by omega⟩
 have hka : ka < (tkN s i).regs.length := by omega
 have hka' : (ka : Int) < ((tkN s i).regs.length : Int) := by omega
 have brka := BRC.out ka hka
 have hws : IntKind.i64.wrap ((tkN s i).since + 1) = (tkN s i).since + 1 := by rw [IntKind.wrap_i64]; omega
 clear hdb ha
 by_cases qz : nth 0 (tkN s i).regs ka = 0
 . have HG : Hid (deedS s i ds = setTk (againS s i) i { againT (tkN s i) with when_ := (tkN s i).since + 1 }) := by
     unfold Hid; rw [HF.out]
     show (if nth 0 (tkN s i).regs ((ka : Int)).toNat = 0 then _ else _) = _
     rw [Int.toNat_natCast, if_pos qz]
   rw [qz] at brka
   clear HF qz hk
   have HL3 := (show Hid (_ = _) from hl3)
   clear hl3
   go_enter Try.func159, Try.ntmps159
   go_wp2_with fail
   refine (again_any X B pc pb p s i _ ((HS.out.alloc _).alloc _) hi hn HOLD.out).mono ?_
   rintro e w5 ⟨rfl, A5, hf2⟩
   have F5 : Hid (FrS (SX X B) w w5) := (((FrS.refl _ _).alloc _).alloc _).trans hf2
   have hi5 : i < (againS s i).tasks.length := by unfold againS; rw [setTk_len]; exact hi
   have HG5 : Hid (deedS s i ds = setTk (againS s i) i { tkN (againS s i) i with when_ := (tkN s i).since + 1 }) := by
     unfold Hid; rw [HG.out]
     have e : tkN (againS s i) i = againT (tkN s i) := tkN_same (s := { s with cells := freeC s.cells i }) hi
     rw [e]
   clear hf2 HG HS t0 t1 t2 t3 t4 t5 t6 t7 t8 t9 t10 t11 t12 c0 c1 c2 brka h5 h6 tz hi' hX hB hgB hgl hXl hXg HTI HK
   revert A5 F5 hi5 HG5
   generalize againS s i = s5
   intro A5 F5 hi5 HG5
   obtain ⟨fq, cvq, gq, capq, lvq, Tq, Lq, Vq, h1, h2, h3, h4q, h5q, h6q, h7, h8, h9⟩ := A5.tk hi5
   obtain ⟨a3q, c3q, a8q, c8q, a9q, c9q, a10q, c10q, rfl⟩ := h7.ti.shapes
   obtain ⟨t0q, t1q, t2q, t3q, t4q, t5q, t6q, t7q, t8q, t9q, t10q, t11q, t12q⟩ := h7.cells
   simp only at t3q t8q t9q t10q
   have tzq := h7.fz
   have hi'q : (i : Int) < (s5.tasks.length : Int) := by omega
   have hXq := A5.lt
   have hBq := A5.le
   have hgBq := h7.ge
   have hglq := h7.lt
   have hXlq : X < w5.heap.size := by omega
   have hXgq : X ≠ gq := by omega
   have HTIq := (show Hid (TIn _ _ _ _ _) from h7.ti)
   have HKq := (show Hid (fq gq = .t /\ ∀ b, cvq.ownBlock = some b -> fq b = .c) from ⟨h7.key, h1.c.2⟩)
   have HSq := (show Hid (SW _ _ _ _ _ _ _) from A5)
   clear h1 h2 h3 h7 h8 h9 A5
   clear t0q t1q t2q t3q t4q t5q t6q t7q t8q t9q t10q t12q
   go_wp2_with fail
   ((try simp only [Exit.inBlock, Exit.then]); refine bodyPost_ret (results_none rfl _ _ _) rfl ?_)
   refine ⟨rfl, ?_, F5.out.setCell (Or.inr hgBq) _⟩
   rw [HG5.out]
   exact HSq.out.scs [(11, (tkN s i).since + 1)] rfl h5q hi5
 . have HG : Hid (deedS s i ds = setTk s i { tkN s i with at_ := (k : Int) + 1 }) := by
     unfold Hid; rw [HF.out, <- hk]
     show (if nth 0 (tkN s i).regs ((ka : Int)).toNat = 0 then _ else _) = _
     rw [Int.toNat_natCast, if_neg qz]
   have qz' : (nth 0 (tkN s i).regs ka == 0) = false := by simp [qz]
   clear HF qz hk
   have HL3 := (show Hid (_ = _) from hl3)
   clear hl3
   go_enter Try.func159, Try.ntmps159
   go_wp2_with fail
   go_region
   all_goals
     go_wp2_with fail
     go_end0
     refine ⟨rfl, ?_, ((((FrS.refl _ _).setCell (Or.inr hgB) _).alloc _).alloc _).drew⟩
     rw [HG.out]
     exact (((HS.out.scs [(6, (k : Int) + 1)] rfl h5 hi).alloc _).alloc _).drew
end Go.Proofs.Ytgbgjljflgbcaaa
