import Derived.Test.YtgbgjljflgbcaaaSo22
import Derived.Test.YtgbgjljflgbcaaaSo01
namespace Go.Proofs.Ytgbgjljflgbcaaa
set_option maxHeartbeats 8000000
open Go.RowKit
set_option linter.unusedSimpArgs false
set_option linter.unusedVariables false
set_option maxRecDepth 20000
theorem deed_store (X B : Nat) (pc pb : Value) (p : Pr) (s : Sy) (i : Nat) (v : Value) (w : World) (h : SW X B w pc pb p s) (hi : i < s.tasks.length) (ds : List De) (hnp : Np p s) (hst : (tkN s i).stage = 1) (hd : DeedsAt w v ds) (hdl : ds.length <= 5) (hdB : ∀ j, j < ds.length -> deB (nth De.z ds j) p.cells.length = true) (hat : (tkN s i).at_ <= ds.length) (hat0 : 0 <= (tkN s i).at_) (hsi : -1048576 <= (tkN s i).since /\ (tkN s i).since <= 1048576) (hn : s.cells.length <= 1048576) (hln : s.log.length <= 1048576) (hlt : (tkN s i).at_ < ds.length) (hkd : (nth De.z ds (tkN s i).at_.toNat).k = 2) :
   Calls Try.prog 159 #[.pointer (some ⟨X, 0, none⟩), .int .i64 (i : Int), v] w fun r w' => r = .returned (.tuple #[]) /\ SW X B w' pc pb p (deedS s i ds) /\ FrS (SX X B) w w' := by
 have hT := hnp.t i hi
 have hold : (tkN s i).old.length = 3 := (rgB_iff.1 hT.old).1
 have hrg := hT.regs
 have hl3 : (tkN s i).regs.length = 3 := (rgB_iff.1 hrg).1
 have hrl : (tkN s i).reads.length <= 1048576 := by have := puB_len hT.reads; have := hnp.cs; omega
 have hul : (tkN s i).puts.length <= 1048576 := by have := puB_len hT.puts; have := hnp.cs; omega
 have hpc : 0 <= (tkN s i).pc /\ (tkN s i).pc <= 100 := hT.pc100 hnp.ok
 have hcs := hnp.cs
 obtain ⟨k, hk⟩ : ∃ k : Nat, (tkN s i).at_ = (k : Int) := ⟨(tkN s i).at_.toNat, by omega⟩
 clear hT hnp hst
 obtain ⟨ad, cd, rfl, _, hdc⟩ := hd
 obtain ⟨f, cv, g, cap, lv, T, L, V, h1, h2, h3, h4, h5, h6, h7, h8, h9⟩ := h.tk hi
 obtain ⟨a3, c3, a8, c8, a9, c9, a10, c10, rfl⟩ := h7.ti.shapes
 obtain ⟨t0, t1, t2, t3, t4, t5, t6, t7, t8, t9, t10, t11, t12⟩ := h7.cells
 simp only at t3 t8 t9 t10
 have tz := h7.fz
 have hi' : (i : Int) < (s.tasks.length : Int) := by omega
 have hX := h.lt
 have hB := h.le
 have hgB := h7.ge
 have hgl := h7.lt
 have hXl : X < w.heap.size := by omega
 have hXg : X ≠ g := by omega
 have HTI := (show Hid (TIn _ _ _ _ _) from h7.ti)
 have HK := (show Hid (f g = .t /\ ∀ b, cv.ownBlock = some b -> f b = .c) from ⟨h7.key, h1.c.2⟩)
 have HS := (show Hid (SW _ _ _ _ _ _ _) from h)
 clear h1 h2 h3 h7 h8 h9 h
 rw [hk] at t6
 obtain ⟨br, er, _, brB, brl, brk, brc, brz⟩ := iR_nth HTI.out.r (by show 0 < (tkN s i).regs.length; omega)
 subst er
 have hbrg : br ≠ g := fun e => by have h1 := HK.out.1; rw [<- e, brk] at h1; cases h1
 have hXbr : X ≠ br := by omega
 have BRC := (show Hid (∀ k, _) from brc)
 have HOLD := (show Hid (_ = _) from hold)
 have HDC := (show Hid (∀ i, _) from hdc)
 have hwr : IntKind.i64.wrap ((k : Int) + 1) = (k : Int) + 1 := by rw [IntKind.wrap_i64]; omega
 have HPU : Hid (PusAt w (.slice a10 (tkN s i).puts.length c10) (tkN s i).puts) := pR_at HTI.out.u
 clear brc hold h4 hdc
 have hkl : k < ds.length := by omega
 have hkl' : (k : Int) < (ds.length : Int) := by omega
 have hdb := hdB k hkl
 obtain ⟨bd, off, rfl, hbd, c0, c1, c2⟩ := HDC.out k hkl
 have HF : Hid (deedS s i ds = deed1 s i (nth De.z ds k)) := by unfold Hid deedS; rw [if_pos hlt, hk, Int.toNat_natCast]
 have hkd' : (nth De.z ds k).k = 2 := by have := hkd; rw [hk, Int.toNat_natCast] at this; exact this
 clear hkd HDC hdB hlt hat hat0
 revert c0 c1 c2 hdb HF hkd'
 generalize nth De.z ds k = d
 intro hdb c0 c1 c2 HF hkd'
 obtain ⟨dk, da, db⟩ := d
 simp only at c0 c1 c2 hkd'
 subst hkd'
 obtain ⟨ha, hb⟩ := de_store hdb rfl
 simp only at ha hb
 obtain ⟨kb, rfl⟩ : ∃ k : Nat, db = (k : Int) := ⟨db.toNat, by omega⟩
 have hkb : kb < (tkN s i).regs.length := by omega
 have hkb' : (kb : Int) < ((tkN s i).regs.length : Int) := by omega
 have brkb := BRC.out kb hkb
 have HG : Hid (deedS s i ds = setTk s i { tkN s i with puts := addP (tkN s i).puts ⟨da, nth 0 (tkN s i).regs kb⟩, at_ := (k : Int) + 1 }) := by
   unfold Hid; rw [HF.out, <- hk]
   rfl
 clear hdb ha hb HF hk
 have HL3 := (show Hid (_ = _) from hl3)
 clear hl3
 go_enter Try.func159, Try.ntmps159
 go_wp2_with fail
 have A3 := (HS.out.alloc (.cells #[.int .i64 (tkN s i).body, .int .i64 (tkN s i).pc, .int .i64 (tkN s i).up, .slice (some ⟨br, 0, none⟩) (tkN s i).regs.length c3, .int .i64 (tkN s i).way, .int .i64 (tkN s i).stage, .int .i64 (k : Int), .int .i64 (tkN s i).since, .slice a8 (tkN s i).old.length c8, .slice a9 (tkN s i).reads.length c9, .slice a10 (tkN s i).puts.length c10, .int .i64 (tkN s i).when_, .int .i64 (tkN s i).from_] 70)).alloc (.cells #[.int .i64 2, .int .i64 da, .int .i64 (kb : Int)] 125)
 have F3 : Hid (FrS (SX X B) w ((w.alloc (.cells #[.int .i64 (tkN s i).body, .int .i64 (tkN s i).pc, .int .i64 (tkN s i).up, .slice (some ⟨br, 0, none⟩) (tkN s i).regs.length c3, .int .i64 (tkN s i).way, .int .i64 (tkN s i).stage, .int .i64 (k : Int), .int .i64 (tkN s i).since, .slice a8 (tkN s i).old.length c8, .slice a9 (tkN s i).reads.length c9, .slice a10 (tkN s i).puts.length c10, .int .i64 (tkN s i).when_, .int .i64 (tkN s i).from_] 70)).alloc (.cells #[.int .i64 2, .int .i64 da, .int .i64 (kb : Int)] 125))) := ((FrS.refl _ _).alloc _).alloc _
 have CO : ∀ b o, b < w.heap.size -> ((w.alloc (.cells #[.int .i64 (tkN s i).body, .int .i64 (tkN s i).pc, .int .i64 (tkN s i).up, .slice (some ⟨br, 0, none⟩) (tkN s i).regs.length c3, .int .i64 (tkN s i).way, .int .i64 (tkN s i).stage, .int .i64 (k : Int), .int .i64 (tkN s i).since, .slice a8 (tkN s i).old.length c8, .slice a9 (tkN s i).reads.length c9, .slice a10 (tkN s i).puts.length c10, .int .i64 (tkN s i).when_, .int .i64 (tkN s i).from_] 70)).alloc (.cells #[.int .i64 2, .int .i64 da, .int .i64 (kb : Int)] 125)).cell? ⟨b, o, none⟩ = w.cell? ⟨b, o, none⟩ := fun b o hb => (((Below.refl w.heap.size w).alloc (Nat.le_refl _) _).alloc (by simp) _).cell (p := ⟨b, o, none⟩) hb
 have SM0 : Hid (((w.alloc (.cells #[.int .i64 (tkN s i).body, .int .i64 (tkN s i).pc, .int .i64 (tkN s i).up, .slice (some ⟨br, 0, none⟩) (tkN s i).regs.length c3, .int .i64 (tkN s i).way, .int .i64 (tkN s i).stage, .int .i64 (k : Int), .int .i64 (tkN s i).since, .slice a8 (tkN s i).old.length c8, .slice a9 (tkN s i).reads.length c9, .slice a10 (tkN s i).puts.length c10, .int .i64 (tkN s i).when_, .int .i64 (tkN s i).from_] 70)).alloc (.cells #[.int .i64 2, .int .i64 da, .int .i64 (kb : Int)] 125)).cell? ⟨X, 3, none⟩ = some (.slice (some ⟨g, 0, none⟩) s.tasks.length cap) /\ ((w.alloc (.cells #[.int .i64 (tkN s i).body, .int .i64 (tkN s i).pc, .int .i64 (tkN s i).up, .slice (some ⟨br, 0, none⟩) (tkN s i).regs.length c3, .int .i64 (tkN s i).way, .int .i64 (tkN s i).stage, .int .i64 (k : Int), .int .i64 (tkN s i).since, .slice a8 (tkN s i).old.length c8, .slice a9 (tkN s i).reads.length c9, .slice a10 (tkN s i).puts.length c10, .int .i64 (tkN s i).when_, .int .i64 (tkN s i).from_] 70)).alloc (.cells #[.int .i64 2, .int .i64 da, .int .i64 (kb : Int)] 125)).cell? ⟨w.heap.size, 10, none⟩ = some (.slice a10 (tkN s i).puts.length c10) /\ ((w.alloc (.cells #[.int .i64 (tkN s i).body, .int .i64 (tkN s i).pc, .int .i64 (tkN s i).up, .slice (some ⟨br, 0, none⟩) (tkN s i).regs.length c3, .int .i64 (tkN s i).way, .int .i64 (tkN s i).stage, .int .i64 (k : Int), .int .i64 (tkN s i).since, .slice a8 (tkN s i).old.length c8, .slice a9 (tkN s i).reads.length c9, .slice a10 (tkN s i).puts.length c10, .int .i64 (tkN s i).when_, .int .i64 (tkN s i).from_] 70)).alloc (.cells #[.int .i64 2, .int .i64 da, .int .i64 (kb : Int)] 125)).cell? ⟨w.heap.size, 3, none⟩ = some (.slice (some ⟨br, 0, none⟩) (tkN s i).regs.length c3) /\ ((w.alloc (.cells #[.int .i64 (tkN s i).body, .int .i64 (tkN s i).pc, .int .i64 (tkN s i).up, .slice (some ⟨br, 0, none⟩) (tkN s i).regs.length c3, .int .i64 (tkN s i).way, .int .i64 (tkN s i).stage, .int .i64 (k : Int), .int .i64 (tkN s i).since, .slice a8 (tkN s i).old.length c8, .slice a9 (tkN s i).reads.length c9, .slice a10 (tkN s i).puts.length c10, .int .i64 (tkN s i).when_, .int .i64 (tkN s i).from_] 70)).alloc (.cells #[.int .i64 2, .int .i64 da, .int .i64 (kb : Int)] 125)).cell? ⟨w.heap.size + 1, 1, none⟩ = some (.int .i64 da) /\ ((w.alloc (.cells #[.int .i64 (tkN s i).body, .int .i64 (tkN s i).pc, .int .i64 (tkN s i).up, .slice (some ⟨br, 0, none⟩) (tkN s i).regs.length c3, .int .i64 (tkN s i).way, .int .i64 (tkN s i).stage, .int .i64 (k : Int), .int .i64 (tkN s i).since, .slice a8 (tkN s i).old.length c8, .slice a9 (tkN s i).reads.length c9, .slice a10 (tkN s i).puts.length c10, .int .i64 (tkN s i).when_, .int .i64 (tkN s i).from_] 70)).alloc (.cells #[.int .i64 2, .int .i64 da, .int .i64 (kb : Int)] 125)).cell? ⟨w.heap.size + 1, 2, none⟩ = some (.int .i64 (kb : Int)) /\ ((w.alloc (.cells #[.int .i64 (tkN s i).body, .int .i64 (tkN s i).pc, .int .i64 (tkN s i).up, .slice (some ⟨br, 0, none⟩) (tkN s i).regs.length c3, .int .i64 (tkN s i).way, .int .i64 (tkN s i).stage, .int .i64 (k : Int), .int .i64 (tkN s i).since, .slice a8 (tkN s i).old.length c8, .slice a9 (tkN s i).reads.length c9, .slice a10 (tkN s i).puts.length c10, .int .i64 (tkN s i).when_, .int .i64 (tkN s i).from_] 70)).alloc (.cells #[.int .i64 2, .int .i64 da, .int .i64 (kb : Int)] 125)).cell? ⟨br, kb, none⟩ = some (.int .i64 (nth 0 (tkN s i).regs kb))) := ⟨(CO _ _ hXl).trans h5, by simp [go_sem], by simp [go_sem], by simp [go_sem], by simp [go_sem], (CO _ _ brl).trans brkb⟩
 have G9 : ((w.alloc (.cells #[.int .i64 (tkN s i).body, .int .i64 (tkN s i).pc, .int .i64 (tkN s i).up, .slice (some ⟨br, 0, none⟩) (tkN s i).regs.length c3, .int .i64 (tkN s i).way, .int .i64 (tkN s i).stage, .int .i64 (k : Int), .int .i64 (tkN s i).since, .slice a8 (tkN s i).old.length c8, .slice a9 (tkN s i).reads.length c9, .slice a10 (tkN s i).puts.length c10, .int .i64 (tkN s i).when_, .int .i64 (tkN s i).from_] 70)).alloc (.cells #[.int .i64 2, .int .i64 da, .int .i64 (kb : Int)] 125)).cell? ⟨g, i * 13 + 10, none⟩ = some (.slice a10 (tkN s i).puts.length c10) := (CO _ _ hgl).trans t10
 have K6 : ((w.alloc (.cells #[.int .i64 (tkN s i).body, .int .i64 (tkN s i).pc, .int .i64 (tkN s i).up, .slice (some ⟨br, 0, none⟩) (tkN s i).regs.length c3, .int .i64 (tkN s i).way, .int .i64 (tkN s i).stage, .int .i64 (k : Int), .int .i64 (tkN s i).since, .slice a8 (tkN s i).old.length c8, .slice a9 (tkN s i).reads.length c9, .slice a10 (tkN s i).puts.length c10, .int .i64 (tkN s i).when_, .int .i64 (tkN s i).from_] 70)).alloc (.cells #[.int .i64 2, .int .i64 da, .int .i64 (kb : Int)] 125)).cell? ⟨w.heap.size, 6, none⟩ = some (.int .i64 (k : Int)) := by simp [go_sem]
 have GZ : Hid (∀ o, ((w.alloc (.cells #[.int .i64 (tkN s i).body, .int .i64 (tkN s i).pc, .int .i64 (tkN s i).up, .slice (some ⟨br, 0, none⟩) (tkN s i).regs.length c3, .int .i64 (tkN s i).way, .int .i64 (tkN s i).stage, .int .i64 (k : Int), .int .i64 (tkN s i).since, .slice a8 (tkN s i).old.length c8, .slice a9 (tkN s i).reads.length c9, .slice a10 (tkN s i).puts.length c10, .int .i64 (tkN s i).when_, .int .i64 (tkN s i).from_] 70)).alloc (.cells #[.int .i64 2, .int .i64 da, .int .i64 (kb : Int)] 125)).frozen? ⟨g, o, none⟩ = false) := fun o => ((((Below.refl w.heap.size w).alloc (Nat.le_refl _) _).alloc (by simp) _).frozen (p := ⟨g, o, none⟩) hgl).trans (tz o)
 have HPD2 : Hid (PusAt ((w.alloc (.cells #[.int .i64 (tkN s i).body, .int .i64 (tkN s i).pc, .int .i64 (tkN s i).up, .slice (some ⟨br, 0, none⟩) (tkN s i).regs.length c3, .int .i64 (tkN s i).way, .int .i64 (tkN s i).stage, .int .i64 (k : Int), .int .i64 (tkN s i).since, .slice a8 (tkN s i).old.length c8, .slice a9 (tkN s i).reads.length c9, .slice a10 (tkN s i).puts.length c10, .int .i64 (tkN s i).when_, .int .i64 (tkN s i).from_] 70)).alloc (.cells #[.int .i64 2, .int .i64 da, .int .i64 (kb : Int)] 125)) (.slice a10 (tkN s i).puts.length c10) (tkN s i).puts) := HPU.out.mono bq0
 have zs3 : w.heap.size + 1 < ((w.alloc (.cells #[.int .i64 (tkN s i).body, .int .i64 (tkN s i).pc, .int .i64 (tkN s i).up, .slice (some ⟨br, 0, none⟩) (tkN s i).regs.length c3, .int .i64 (tkN s i).way, .int .i64 (tkN s i).stage, .int .i64 (k : Int), .int .i64 (tkN s i).since, .slice a8 (tkN s i).old.length c8, .slice a9 (tkN s i).reads.length c9, .slice a10 (tkN s i).puts.length c10, .int .i64 (tkN s i).when_, .int .i64 (tkN s i).from_] 70)).alloc (.cells #[.int .i64 2, .int .i64 da, .int .i64 (kb : Int)] 125)).heap.size := by simp
 clear CO h5 h6 t0 t1 t2 t3 t4 t5 t6 t7 t8 t9 t10 t11 t12 tz c0 c1 c2 brkb
 revert A3 F3 SM0 G9 K6 GZ HPD2 zs3
 generalize ((w.alloc (.cells #[.int .i64 (tkN s i).body, .int .i64 (tkN s i).pc, .int .i64 (tkN s i).up, .slice (some ⟨br, 0, none⟩) (tkN s i).regs.length c3, .int .i64 (tkN s i).way, .int .i64 (tkN s i).stage, .int .i64 (k : Int), .int .i64 (tkN s i).since, .slice a8 (tkN s i).old.length c8, .slice a9 (tkN s i).reads.length c9, .slice a10 (tkN s i).puts.length c10, .int .i64 (tkN s i).when_, .int .i64 (tkN s i).from_] 70)).alloc (.cells #[.int .i64 2, .int .i64 da, .int .i64 (kb : Int)] 125)) = w3
 intro A3 F3 SM0 G9 K6 GZ HPD2 zs3
 have HA3 := (show Hid (SW _ _ _ _ _ _ _) from A3)
 have HPD : Hid (PusAt w3.drew (.slice a10 (tkN s i).puts.length c10) (tkN s i).puts) := HPD2.out.mono (Below.drew (Below.refl _ _))
 have hgl3 : g < w3.heap.size := by omega
 have hXl3 : X < w3.heap.size := by omega
 have SM : Hid (∀ W, Below w3.heap.size w3 W -> W.cell? ⟨X, 3, none⟩ = some (.slice (some ⟨g, 0, none⟩) s.tasks.length cap) /\ W.cell? ⟨w.heap.size, 10, none⟩ = some (.slice a10 (tkN s i).puts.length c10) /\ W.cell? ⟨w.heap.size, 3, none⟩ = some (.slice (some ⟨br, 0, none⟩) (tkN s i).regs.length c3) /\ W.cell? ⟨w.heap.size + 1, 1, none⟩ = some (.int .i64 da) /\ W.cell? ⟨w.heap.size + 1, 2, none⟩ = some (.int .i64 (kb : Int)) /\ W.cell? ⟨br, kb, none⟩ = some (.int .i64 (nth 0 (tkN s i).regs kb))) := fun W hb => by
   have c : ∀ b o, b < w3.heap.size -> W.cell? ⟨b, o, none⟩ = w3.cell? ⟨b, o, none⟩ := fun b o h => hb.cell (p := ⟨b, o, none⟩) h
   obtain ⟨q0, q1, q2, q3, q4, q5⟩ := SM0.out
   exact ⟨(c _ _ hXl3).trans q0, (c _ _ (by omega)).trans q1, (c _ _ (by omega)).trans q2, (c _ _ (by omega)).trans q3, (c _ _ (by omega)).trans q4, (c _ _ (by omega)).trans q5⟩
 clear A3 HPD2
 refine till_begin (S := fun w' => w'.cell? ⟨X, 3, none⟩ = some (.slice (some ⟨g, 0, none⟩) s.tasks.length cap) /\ w'.cell? ⟨w.heap.size, 10, none⟩ = some (.slice a10 (tkN s i).puts.length c10) /\ w'.cell? ⟨w.heap.size, 3, none⟩ = some (.slice (some ⟨br, 0, none⟩) (tkN s i).regs.length c3) /\ w'.cell? ⟨w.heap.size + 1, 1, none⟩ = some (.int .i64 da) /\ w'.cell? ⟨w.heap.size + 1, 2, none⟩ = some (.int .i64 (kb : Int)) /\ w'.cell? ⟨br, kb, none⟩ = some (.int .i64 (nth 0 (tkN s i).regs kb))) (z := 20) (by kernel_rfl) ?_
 refine till_take (i := 0) (v := (.pointer (some ⟨X, 0, none⟩))) rfl (by kernel_rfl) (fun _ _ _ h => h) (by rfl) ?_ (SM.out _ bq0) ?_
 . (intro w hSw; obtain ⟨q0, q1, q2, q3, q4, q5⟩ := hSw; go_simp)
 (try simp only [Act.put, zq1, zq2, zq3])
 refine till_take (i := 1) (v := (.pointer (some ⟨X, 0, none⟩))) rfl (by kernel_rfl) (fun _ _ _ h => h) (by rfl) ?_ (SM.out _ bq0) ?_
 . (intro w hSw; obtain ⟨q0, q1, q2, q3, q4, q5⟩ := hSw; go_simp)
 (try simp only [Act.put, zq1, zq2, zq3])
 refine till_take (i := 2) (v := (.pointer (some ⟨X, 2, none⟩))) rfl (by kernel_rfl) (fun _ _ _ h => h) (by rfl) ?_ (SM.out _ bq0) ?_
 . (intro w hSw; obtain ⟨q0, q1, q2, q3, q4, q5⟩ := hSw; go_simp)
 (try simp only [Act.put, zq1, zq2, zq3])
 refine till_take (i := 3) (v := (.pointer (some ⟨X, 3, none⟩))) rfl (by kernel_rfl) (fun _ _ _ h => h) (by rfl) ?_ (SM.out _ bq0) ?_
 . (intro w hSw; obtain ⟨q0, q1, q2, q3, q4, q5⟩ := hSw; go_simp)
 (try simp only [Act.put, zq1, zq2, zq3])
 refine till_take (i := 4) (v := (.slice (some ⟨g, 0, none⟩) s.tasks.length cap)) rfl (by kernel_rfl) (fun _ _ _ h => h) (by rfl) ?_ (SM.out _ bq0) ?_
 . (intro w hSw; obtain ⟨q0, q1, q2, q3, q4, q5⟩ := hSw; go_simp)
 (try simp only [Act.put, zq1, zq2, zq3])
 refine till_take (i := 5) (v := (.int .i64 (i : Int))) rfl (by kernel_rfl) (fun _ _ _ h => h) (by rfl) ?_ (SM.out _ bq0) ?_
 . (intro w hSw; obtain ⟨q0, q1, q2, q3, q4, q5⟩ := hSw; go_simp)
 (try simp only [Act.put, zq1, zq2, zq3])
 refine till_take (i := 6) (v := (.pointer (some ⟨w.heap.size, 10, none⟩))) rfl (by kernel_rfl) (fun _ _ _ h => h) (by rfl) ?_ (SM.out _ bq0) ?_
 . (intro w hSw; obtain ⟨q0, q1, q2, q3, q4, q5⟩ := hSw; go_simp)
 (try simp only [Act.put, zq1, zq2, zq3])
 refine till_take (i := 7) (v := (.slice a10 (tkN s i).puts.length c10)) rfl (by kernel_rfl) (fun _ _ _ h => h) (by rfl) ?_ (SM.out _ bq0) ?_
 . (intro w hSw; obtain ⟨q0, q1, q2, q3, q4, q5⟩ := hSw; go_simp)
 (try simp only [Act.put, zq1, zq2, zq3])
 refine till_take (i := 8) (v := (.pointer (some ⟨(w.heap.size + 1), 1, none⟩))) rfl (by kernel_rfl) (fun _ _ _ h => h) (by rfl) ?_ (SM.out _ bq0) ?_
 . (intro w hSw; obtain ⟨q0, q1, q2, q3, q4, q5⟩ := hSw; go_simp)
 (try simp only [Act.put, zq1, zq2, zq3])
 refine till_take (i := 9) (v := (.int .i64 da)) rfl (by kernel_rfl) (fun _ _ _ h => h) (by rfl) ?_ (SM.out _ bq0) ?_
 . (intro w hSw; obtain ⟨q0, q1, q2, q3, q4, q5⟩ := hSw; go_simp)
 (try simp only [Act.put, zq1, zq2, zq3])
 refine till_take (i := 10) (v := (.pointer (some ⟨w.heap.size, 3, none⟩))) rfl (by kernel_rfl) (fun _ _ _ h => h) (by rfl) ?_ (SM.out _ bq0) ?_
 . (intro w hSw; obtain ⟨q0, q1, q2, q3, q4, q5⟩ := hSw; go_simp)
 (try simp only [Act.put, zq1, zq2, zq3])
 refine till_take (i := 11) (v := (.slice (some ⟨br, 0, none⟩) (tkN s i).regs.length c3)) rfl (by kernel_rfl) (fun _ _ _ h => h) (by rfl) ?_ (SM.out _ bq0) ?_
 . (intro w hSw; obtain ⟨q0, q1, q2, q3, q4, q5⟩ := hSw; go_simp)
 (try simp only [Act.put, zq1, zq2, zq3])
 refine till_take (i := 12) (v := (.pointer (some ⟨(w.heap.size + 1), 2, none⟩))) rfl (by kernel_rfl) (fun _ _ _ h => h) (by rfl) ?_ (SM.out _ bq0) ?_
 . (intro w hSw; obtain ⟨q0, q1, q2, q3, q4, q5⟩ := hSw; go_simp)
 (try simp only [Act.put, zq1, zq2, zq3])
 refine till_take (i := 13) (v := (.int .i64 (kb : Int))) rfl (by kernel_rfl) (fun _ _ _ h => h) (by rfl) ?_ (SM.out _ bq0) ?_
 . (intro w hSw; obtain ⟨q0, q1, q2, q3, q4, q5⟩ := hSw; go_simp)
 (try simp only [Act.put, zq1, zq2, zq3])
 refine till_take (i := 14) (v := (.pointer (some ⟨br, kb, none⟩))) rfl (by kernel_rfl) (fun _ _ _ h => h) (by rfl) ?_ (SM.out _ bq0) ?_
 . (intro w hSw; obtain ⟨q0, q1, q2, q3, q4, q5⟩ := hSw; go_simp)
 (try simp only [Act.put, zq1, zq2, zq3])
 refine till_take (i := 15) (v := (.int .i64 (nth 0 (tkN s i).regs kb))) rfl (by kernel_rfl) (fun _ _ _ h => h) (by rfl) ?_ (SM.out _ bq0) ?_
 . (intro w hSw; obtain ⟨q0, q1, q2, q3, q4, q5⟩ := hSw; go_simp)
 (try simp only [Act.put, zq1, zq2, zq3])
 refine till_take (i := 16) (v := .agg #[.int .i64 da, .int .i64 (nth 0 (tkN s i).regs kb)]) rfl (by kernel_rfl) (fun _ _ _ h => h) (by rfl) ?_ (SM.out _ bq0) ?_
 . (intro w hSw; obtain ⟨q0, q1, q2, q3, q4, q5⟩ := hSw; go_simp)
 (try simp only [Act.put, zq1, zq2, zq3])
 refine till_step (i := 17) rfl (by kernel_rfl) (fun K hK => ?_)
 go_simp
 refine (l11Add_any _ (tkN s i).puts ⟨da, nth 0 (tkN s i).regs kb⟩ _ HPD.out hul).mono ?_
 rintro e wd ⟨au, cu, rfl, hod, hbd⟩
 have HBD : Hid (Below w3.heap.size w3 wd) := below_then bq0 (by simp) hbd
 have HOD := (show Hid (World.ownsRow _ _ _ _ _ _ _) from hod)
 have hds := HBD.out.size
 have y9 : ∃ q, wd.cell? ⟨g, i * 13 + 10, none⟩ = some q := ⟨_, (HBD.out.cell (p := ⟨g, i * 13 + 10, none⟩) hgl3).trans G9⟩
 obtain ⟨y9, Y9⟩ := y9
 have yz : ∀ o, wd.frozen? ⟨g, o, none⟩ = false := fun o => by rw [HBD.out.frozen (p := ⟨g, o, none⟩) hgl3]; exact GZ.out o
 have hgd : g < wd.heap.size := by omega
 clear hod hbd
 refine hK.out _ _ (fun _ => SM.out _ HBD.out) ?_
 clear hK
 (try simp only [Act.put, zq1, zq2, zq3])
 refine till_take (i := 18) (v := (.pointer (some ⟨g, i * 13, none⟩))) rfl (by kernel_rfl) (fun _ _ _ h => h) (by rfl) ?_ (SM.out _ HBD.out) ?_
 . (intro w hSw; obtain ⟨q0, q1, q2, q3, q4, q5⟩ := hSw; go_simp)
 (try simp only [Act.put, zq1, zq2, zq3])
 refine till_take (i := 19) (v := (.pointer (some ⟨g, i * 13 + 10, none⟩))) rfl (by kernel_rfl) (fun _ _ _ h => h) (by rfl) ?_ (SM.out _ HBD.out) ?_
 . (intro w hSw; obtain ⟨q0, q1, q2, q3, q4, q5⟩ := hSw; go_simp)
 (try simp only [Act.put, zq1, zq2, zq3])
 refine till_step (i := 20) rfl (by kernel_rfl) (fun K hK => ?_)
 go_simp
 refine hK.out _ _ (fun h => absurd rfl h) ?_
 clear hK
 refine till_done (by kernel_rfl) ?_ _
 have A5 := HA3.out.nu HBD.out SM0.out.1 hi HOD.out
 have F5 : Hid (FrS (SX X B) w (wd.setCell ⟨g, i * 13 + 10, none⟩ (.slice au (addP (tkN s i).puts ⟨da, nth 0 (tkN s i).regs kb⟩).length cu))) := (F3.out.trans (.of_below HBD.out)).setCell (Or.inr hgB) _
 have b6 : (wd.setCell ⟨g, i * 13 + 10, none⟩ (.slice au (addP (tkN s i).puts ⟨da, nth 0 (tkN s i).regs kb⟩).length cu)).cell? ⟨w.heap.size, 6, none⟩ = some (.int .i64 (k : Int)) := (cell_set_blk _ _ _ _ _ _ (by omega)).trans ((HBD.out.cell (p := ⟨w.heap.size, 6, none⟩) (by show w.heap.size < _; omega)).trans K6)
 have hbl : w.heap.size < (wd.setCell ⟨g, i * 13 + 10, none⟩ (.slice au (addP (tkN s i).puts ⟨da, nth 0 (tkN s i).regs kb⟩).length cu)).heap.size := by simp; omega
 have hi5 : i < (setTk s i { tkN s i with puts := addP (tkN s i).puts ⟨da, nth 0 (tkN s i).regs kb⟩ }).tasks.length := by rw [setTk_len]; exact hi
 have HG5 : Hid (deedS s i ds = setTk (setTk s i { tkN s i with puts := addP (tkN s i).puts ⟨da, nth 0 (tkN s i).regs kb⟩ }) i { tkN (setTk s i { tkN s i with puts := addP (tkN s i).puts ⟨da, nth 0 (tkN s i).regs kb⟩ }) i with at_ := (k : Int) + 1 }) := by
   unfold Hid; rw [HG.out, setTk_two, tkN_same hi]
 clear SM SM0 G9 K6 GZ HPD HBD HOD Y9 yz hgd hds hgl3 hXl3 zs3 HA3 F3 HG HTI HK HS hgl hXl hXg hB hX hgB brl brB hbrg hXbr hi'
 revert A5 F5 b6 hbl hi5 HG5
 generalize wd.setCell ⟨g, i * 13 + 10, none⟩ (.slice au (addP (tkN s i).puts ⟨da, nth 0 (tkN s i).regs kb⟩).length cu) = w5
 generalize setTk s i { tkN s i with puts := addP (tkN s i).puts ⟨da, nth 0 (tkN s i).regs kb⟩ } = s5
 intro A5 F5 b6 hbl hi5 HG5
 obtain ⟨fq, cvq, gq, capq, lvq, Tq, Lq, Vq, h1, h2, h3, h4q, h5q, h6q, h7, h8, h9⟩ := A5.tk hi5
 obtain ⟨a3q, c3q, a8q, c8q, a9q, c9q, a10q, c10q, rfl⟩ := h7.ti.shapes
 obtain ⟨t0q, t1q, t2q, t3q, t4q, t5q, t6q, t7q, t8q, t9q, t10q, t11q, t12q⟩ := h7.cells
 simp only at t3q t8q t9q t10q
 have tzq := h7.fz
 have hi'q : (i : Int) < (s5.tasks.length : Int) := by omega
 have hXq := A5.lt
 have hBq := A5.le
 have hgBq := h7.ge
 have hglq := h7.lt
 have hXlq : X < w5.heap.size := by omega
 have hXgq : X ≠ gq := by omega
 have HTIq := (show Hid (TIn _ _ _ _ _) from h7.ti)
 have HKq := (show Hid (fq gq = .t /\ ∀ b, cvq.ownBlock = some b -> fq b = .c) from ⟨h7.key, h1.c.2⟩)
 have HSq := (show Hid (SW _ _ _ _ _ _ _) from A5)
 clear h1 h2 h3 h7 h8 h9 A5
 clear t0q t1q t2q t3q t4q t5q t7q t8q t9q t10q t11q t12q
 go_wp2_with fail
 go_region
 all_goals
   go_wp2_with fail
   go_end0
   refine ⟨rfl, ?_, (F5.out.setCell (Or.inr hgBq) _).drew⟩
   rw [HG5.out]
   exact (HSq.out.scs [(6, (k : Int) + 1)] rfl h5q hi5).drew
end Go.Proofs.Ytgbgjljflgbcaaa
