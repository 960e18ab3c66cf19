import Derived.Test.YtgbgjljflgbcaaaSo22
import Derived.Test.YtgbgjljflgbcaaaSo01
import Derived.Test.YtgbgjljflgbcaaaSo23
import Derived.Test.YtgbgjljflgbcaaaSo20
namespace Go.Proofs.Ytgbgjljflgbcaaa
set_option maxHeartbeats 8000000
open Go.RowKit
set_option linter.unusedSimpArgs false
set_option linter.unusedVariables false
set_option maxRecDepth 20000
theorem deed_reg (X B : Nat) (pc pb : Value) (p : Pr) (s : Sy) (i : Nat) (v : Value) (w : World) (h : SW X B w pc pb p s) (hi : i < s.tasks.length) (ds : List De) (hnp : Np p s) (hst : (tkN s i).stage = 1) (hd : DeedsAt w v ds) (hdl : ds.length <= 5) (hdB : ∀ j, j < ds.length -> deB (nth De.z ds j) p.cells.length = true) (hat : (tkN s i).at_ <= ds.length) (hat0 : 0 <= (tkN s i).at_) (hsi : -1048576 <= (tkN s i).since /\ (tkN s i).since <= 1048576) (hn : s.cells.length <= 1048576) (hln : s.log.length <= 1048576) (hlt : (tkN s i).at_ < ds.length) (hkd : (nth De.z ds (tkN s i).at_.toNat).k = 3 \/ (nth De.z ds (tkN s i).at_.toNat).k = 4) :
   Calls Try.prog 159 #[.pointer (some ⟨X, 0, none⟩), .int .i64 (i : Int), v] w fun r w' => r = .returned (.tuple #[]) /\ SW X B w' pc pb p (deedS s i ds) /\ FrS (SX X B) w w' := by
 have hT := hnp.t i hi
 have hold : (tkN s i).old.length = 3 := (rgB_iff.1 hT.old).1
 have hrg := hT.regs
 have hl3 : (tkN s i).regs.length = 3 := (rgB_iff.1 hrg).1
 have hrl : (tkN s i).reads.length <= 1048576 := by have := puB_len hT.reads; have := hnp.cs; omega
 have hul : (tkN s i).puts.length <= 1048576 := by have := puB_len hT.puts; have := hnp.cs; omega
 have hpc : 0 <= (tkN s i).pc /\ (tkN s i).pc <= 100 := hT.pc100 hnp.ok
 have hcs := hnp.cs
 obtain ⟨k, hk⟩ : ∃ k : Nat, (tkN s i).at_ = (k : Int) := ⟨(tkN s i).at_.toNat, by omega⟩
 clear hT hnp hst
 obtain ⟨ad, cd, rfl, _, hdc⟩ := hd
 obtain ⟨f, cv, g, cap, lv, T, L, V, h1, h2, h3, h4, h5, h6, h7, h8, h9⟩ := h.tk hi
 obtain ⟨a3, c3, a8, c8, a9, c9, a10, c10, rfl⟩ := h7.ti.shapes
 obtain ⟨t0, t1, t2, t3, t4, t5, t6, t7, t8, t9, t10, t11, t12⟩ := h7.cells
 simp only at t3 t8 t9 t10
 have tz := h7.fz
 have hi' : (i : Int) < (s.tasks.length : Int) := by omega
 have hX := h.lt
 have hB := h.le
 have hgB := h7.ge
 have hgl := h7.lt
 have hXl : X < w.heap.size := by omega
 have hXg : X ≠ g := by omega
 have HTI := (show Hid (TIn _ _ _ _ _) from h7.ti)
 have HK := (show Hid (f g = .t /\ ∀ b, cv.ownBlock = some b -> f b = .c) from ⟨h7.key, h1.c.2⟩)
 have HS := (show Hid (SW _ _ _ _ _ _ _) from h)
 clear h1 h2 h3 h7 h8 h9 h
 rw [hk] at t6
 obtain ⟨br, er, _, brB, brl, brk, brc, brz⟩ := iR_nth HTI.out.r (by show 0 < (tkN s i).regs.length; omega)
 subst er
 have hbrg : br ≠ g := fun e => by have h1 := HK.out.1; rw [<- e, brk] at h1; cases h1
 have hXbr : X ≠ br := by omega
 have BRC := (show Hid (∀ k, _) from brc)
 have HOLD := (show Hid (_ = _) from hold)
 have HDC := (show Hid (∀ i, _) from hdc)
 have hwr : IntKind.i64.wrap ((k : Int) + 1) = (k : Int) + 1 := by rw [IntKind.wrap_i64]; omega
 have HPU : Hid (PusAt w (.slice a10 (tkN s i).puts.length c10) (tkN s i).puts) := pR_at HTI.out.u
 clear brc hold h4 hdc
 have hkl : k < ds.length := by omega
 have hkl' : (k : Int) < (ds.length : Int) := by omega
 have hdb := hdB k hkl
 obtain ⟨bd, off, rfl, hbd, c0, c1, c2⟩ := HDC.out k hkl
 have HF : Hid (deedS s i ds = deed1 s i (nth De.z ds k)) := by unfold Hid deedS; rw [if_pos hlt, hk, Int.toNat_natCast]
 have hkd' : (nth De.z ds k).k = 3 \/ (nth De.z ds k).k = 4 := by have := hkd; rw [hk, Int.toNat_natCast] at this; exact this
 clear hkd HDC hdB hlt hat hat0
 revert c0 c1 c2 hdb HF hkd'
 generalize nth De.z ds k = d
 intro hdb c0 c1 c2 HF hkd'
 obtain ⟨dk, da, db⟩ := d
 simp only at c0 c1 c2 hkd'
 have hk34 : (⟨dk, da, db⟩ : De).k = 3 \/ (⟨dk, da, db⟩ : De).k = 4 := hkd'
 have ha : 0 <= (⟨dk, da, db⟩ : De).a /\ (⟨dk, da, db⟩ : De).a < 3 := by rcases hk34 with e | e; exact (de_num hdb e).1; exact (de_add hdb e).1
 have hb : (⟨dk, da, db⟩ : De).k = 4 -> 0 <= (⟨dk, da, db⟩ : De).b /\ (⟨dk, da, db⟩ : De).b < 3 := fun e => (de_add hdb e).2
 have z1 : (dk == 1) = false := by simp; omega
 have z2 : (dk == 2) = false := by simp; omega
 have z5 : (dk == 5) = false := by simp; omega
 have HG : Hid (deedS s i ds = setTk s i { tkN s i with regs := regT (tkN s i).regs ⟨dk, da, db⟩, at_ := (k : Int) + 1 }) := by
   unfold Hid; rw [HF.out, <- hk]
   unfold deed1
   rw [if_neg (by show ¬ dk = 1; omega), if_neg (by show ¬ dk = 2; omega), if_neg (by show ¬ dk = 5; omega)]
 have HKD := (show Hid (_ \/ _) from hkd')
 clear hdb HF hk hkd'
 have HL3 := (show Hid (_ = _) from hl3)
 clear hl3
 go_enter Try.func159, Try.ntmps159
 go_wp2_with fail
 have A3 := (HS.out.alloc (.cells #[.int .i64 (tkN s i).body, .int .i64 (tkN s i).pc, .int .i64 (tkN s i).up, .slice (some ⟨br, 0, none⟩) (tkN s i).regs.length c3, .int .i64 (tkN s i).way, .int .i64 (tkN s i).stage, .int .i64 (k : Int), .int .i64 (tkN s i).since, .slice a8 (tkN s i).old.length c8, .slice a9 (tkN s i).reads.length c9, .slice a10 (tkN s i).puts.length c10, .int .i64 (tkN s i).when_, .int .i64 (tkN s i).from_] 70)).alloc (.cells #[.int .i64 dk, .int .i64 da, .int .i64 db] 125)
 have F3 : Hid (FrS (SX X B) w ((w.alloc (.cells #[.int .i64 (tkN s i).body, .int .i64 (tkN s i).pc, .int .i64 (tkN s i).up, .slice (some ⟨br, 0, none⟩) (tkN s i).regs.length c3, .int .i64 (tkN s i).way, .int .i64 (tkN s i).stage, .int .i64 (k : Int), .int .i64 (tkN s i).since, .slice a8 (tkN s i).old.length c8, .slice a9 (tkN s i).reads.length c9, .slice a10 (tkN s i).puts.length c10, .int .i64 (tkN s i).when_, .int .i64 (tkN s i).from_] 70)).alloc (.cells #[.int .i64 dk, .int .i64 da, .int .i64 db] 125))) := ((FrS.refl _ _).alloc _).alloc _
 have CO : ∀ b o, b < w.heap.size -> ((w.alloc (.cells #[.int .i64 (tkN s i).body, .int .i64 (tkN s i).pc, .int .i64 (tkN s i).up, .slice (some ⟨br, 0, none⟩) (tkN s i).regs.length c3, .int .i64 (tkN s i).way, .int .i64 (tkN s i).stage, .int .i64 (k : Int), .int .i64 (tkN s i).since, .slice a8 (tkN s i).old.length c8, .slice a9 (tkN s i).reads.length c9, .slice a10 (tkN s i).puts.length c10, .int .i64 (tkN s i).when_, .int .i64 (tkN s i).from_] 70)).alloc (.cells #[.int .i64 dk, .int .i64 da, .int .i64 db] 125)).cell? ⟨b, o, none⟩ = w.cell? ⟨b, o, none⟩ := fun b o hb => (((Below.refl w.heap.size w).alloc (Nat.le_refl _) _).alloc (by simp) _).cell (p := ⟨b, o, none⟩) hb
 have SM0 : Hid (((w.alloc (.cells #[.int .i64 (tkN s i).body, .int .i64 (tkN s i).pc, .int .i64 (tkN s i).up, .slice (some ⟨br, 0, none⟩) (tkN s i).regs.length c3, .int .i64 (tkN s i).way, .int .i64 (tkN s i).stage, .int .i64 (k : Int), .int .i64 (tkN s i).since, .slice a8 (tkN s i).old.length c8, .slice a9 (tkN s i).reads.length c9, .slice a10 (tkN s i).puts.length c10, .int .i64 (tkN s i).when_, .int .i64 (tkN s i).from_] 70)).alloc (.cells #[.int .i64 dk, .int .i64 da, .int .i64 db] 125)).cell? ⟨X, 3, none⟩ = some (.slice (some ⟨g, 0, none⟩) s.tasks.length cap) /\ ((w.alloc (.cells #[.int .i64 (tkN s i).body, .int .i64 (tkN s i).pc, .int .i64 (tkN s i).up, .slice (some ⟨br, 0, none⟩) (tkN s i).regs.length c3, .int .i64 (tkN s i).way, .int .i64 (tkN s i).stage, .int .i64 (k : Int), .int .i64 (tkN s i).since, .slice a8 (tkN s i).old.length c8, .slice a9 (tkN s i).reads.length c9, .slice a10 (tkN s i).puts.length c10, .int .i64 (tkN s i).when_, .int .i64 (tkN s i).from_] 70)).alloc (.cells #[.int .i64 dk, .int .i64 da, .int .i64 db] 125)).cell? ⟨g, i * 13 + 3, none⟩ = some (.slice (some ⟨br, 0, none⟩) (tkN s i).regs.length c3) /\ ((w.alloc (.cells #[.int .i64 (tkN s i).body, .int .i64 (tkN s i).pc, .int .i64 (tkN s i).up, .slice (some ⟨br, 0, none⟩) (tkN s i).regs.length c3, .int .i64 (tkN s i).way, .int .i64 (tkN s i).stage, .int .i64 (k : Int), .int .i64 (tkN s i).since, .slice a8 (tkN s i).old.length c8, .slice a9 (tkN s i).reads.length c9, .slice a10 (tkN s i).puts.length c10, .int .i64 (tkN s i).when_, .int .i64 (tkN s i).from_] 70)).alloc (.cells #[.int .i64 dk, .int .i64 da, .int .i64 db] 125)).cell? ⟨w.heap.size + 1, 0, none⟩ = some (.int .i64 dk) /\ ((w.alloc (.cells #[.int .i64 (tkN s i).body, .int .i64 (tkN s i).pc, .int .i64 (tkN s i).up, .slice (some ⟨br, 0, none⟩) (tkN s i).regs.length c3, .int .i64 (tkN s i).way, .int .i64 (tkN s i).stage, .int .i64 (k : Int), .int .i64 (tkN s i).since, .slice a8 (tkN s i).old.length c8, .slice a9 (tkN s i).reads.length c9, .slice a10 (tkN s i).puts.length c10, .int .i64 (tkN s i).when_, .int .i64 (tkN s i).from_] 70)).alloc (.cells #[.int .i64 dk, .int .i64 da, .int .i64 db] 125)).cell? ⟨w.heap.size + 1, 1, none⟩ = some (.int .i64 da) /\ ((w.alloc (.cells #[.int .i64 (tkN s i).body, .int .i64 (tkN s i).pc, .int .i64 (tkN s i).up, .slice (some ⟨br, 0, none⟩) (tkN s i).regs.length c3, .int .i64 (tkN s i).way, .int .i64 (tkN s i).stage, .int .i64 (k : Int), .int .i64 (tkN s i).since, .slice a8 (tkN s i).old.length c8, .slice a9 (tkN s i).reads.length c9, .slice a10 (tkN s i).puts.length c10, .int .i64 (tkN s i).when_, .int .i64 (tkN s i).from_] 70)).alloc (.cells #[.int .i64 dk, .int .i64 da, .int .i64 db] 125)).cell? ⟨w.heap.size + 1, 2, none⟩ = some (.int .i64 db)) := ⟨(CO _ _ hXl).trans h5, (CO _ _ hgl).trans t3, by simp [go_sem], by simp [go_sem], by simp [go_sem]⟩
 have K6 : ((w.alloc (.cells #[.int .i64 (tkN s i).body, .int .i64 (tkN s i).pc, .int .i64 (tkN s i).up, .slice (some ⟨br, 0, none⟩) (tkN s i).regs.length c3, .int .i64 (tkN s i).way, .int .i64 (tkN s i).stage, .int .i64 (k : Int), .int .i64 (tkN s i).since, .slice a8 (tkN s i).old.length c8, .slice a9 (tkN s i).reads.length c9, .slice a10 (tkN s i).puts.length c10, .int .i64 (tkN s i).when_, .int .i64 (tkN s i).from_] 70)).alloc (.cells #[.int .i64 dk, .int .i64 da, .int .i64 db] 125)).cell? ⟨w.heap.size, 6, none⟩ = some (.int .i64 (k : Int)) := by simp [go_sem]
 have zs3 : w.heap.size + 1 < ((w.alloc (.cells #[.int .i64 (tkN s i).body, .int .i64 (tkN s i).pc, .int .i64 (tkN s i).up, .slice (some ⟨br, 0, none⟩) (tkN s i).regs.length c3, .int .i64 (tkN s i).way, .int .i64 (tkN s i).stage, .int .i64 (k : Int), .int .i64 (tkN s i).since, .slice a8 (tkN s i).old.length c8, .slice a9 (tkN s i).reads.length c9, .slice a10 (tkN s i).puts.length c10, .int .i64 (tkN s i).when_, .int .i64 (tkN s i).from_] 70)).alloc (.cells #[.int .i64 dk, .int .i64 da, .int .i64 db] 125)).heap.size := by simp
 clear CO h5 h6 t0 t1 t2 t3 t4 t5 t6 t7 t8 t9 t10 t11 t12 tz c0 c1 c2
 revert A3 F3 SM0 K6 zs3
 generalize ((w.alloc (.cells #[.int .i64 (tkN s i).body, .int .i64 (tkN s i).pc, .int .i64 (tkN s i).up, .slice (some ⟨br, 0, none⟩) (tkN s i).regs.length c3, .int .i64 (tkN s i).way, .int .i64 (tkN s i).stage, .int .i64 (k : Int), .int .i64 (tkN s i).since, .slice a8 (tkN s i).old.length c8, .slice a9 (tkN s i).reads.length c9, .slice a10 (tkN s i).puts.length c10, .int .i64 (tkN s i).when_, .int .i64 (tkN s i).from_] 70)).alloc (.cells #[.int .i64 dk, .int .i64 da, .int .i64 db] 125)) = w3
 intro A3 F3 SM0 K6 zs3
 have HA3 := (show Hid (SW _ _ _ _ _ _ _) from A3)
 have hgl3 : g < w3.heap.size := by omega
 have hXl3 : X < w3.heap.size := by omega
 have SM : Hid (∀ W, Below w3.heap.size w3 W -> W.cell? ⟨X, 3, none⟩ = some (.slice (some ⟨g, 0, none⟩) s.tasks.length cap) /\ W.cell? ⟨g, i * 13 + 3, none⟩ = some (.slice (some ⟨br, 0, none⟩) (tkN s i).regs.length c3) /\ W.cell? ⟨w.heap.size + 1, 0, none⟩ = some (.int .i64 dk) /\ W.cell? ⟨w.heap.size + 1, 1, none⟩ = some (.int .i64 da) /\ W.cell? ⟨w.heap.size + 1, 2, none⟩ = some (.int .i64 db)) := fun W hb => by
   have c : ∀ b o, b < w3.heap.size -> W.cell? ⟨b, o, none⟩ = w3.cell? ⟨b, o, none⟩ := fun b o h => hb.cell (p := ⟨b, o, none⟩) h
   obtain ⟨q0, q1, q2, q3, q4⟩ := SM0.out
   exact ⟨(c _ _ hXl3).trans q0, (c _ _ (by omega)).trans q1, (c _ _ (by omega)).trans q2, (c _ _ (by omega)).trans q3, (c _ _ (by omega)).trans q4⟩
 clear A3
 refine till_begin (S := fun w' => w'.cell? ⟨X, 3, none⟩ = some (.slice (some ⟨g, 0, none⟩) s.tasks.length cap) /\ w'.cell? ⟨g, i * 13 + 3, none⟩ = some (.slice (some ⟨br, 0, none⟩) (tkN s i).regs.length c3) /\ w'.cell? ⟨w.heap.size + 1, 0, none⟩ = some (.int .i64 dk) /\ w'.cell? ⟨w.heap.size + 1, 1, none⟩ = some (.int .i64 da) /\ w'.cell? ⟨w.heap.size + 1, 2, none⟩ = some (.int .i64 db)) (z := 10) (by kernel_rfl) ?_
 refine till_take (i := 0) (v := (.pointer (some ⟨X, 0, none⟩))) rfl (by kernel_rfl) (fun _ _ _ h => h) (by rfl) ?_ (SM.out _ bq0) ?_
 . (intro w hSw; obtain ⟨q0, q1, q2, q3, q4⟩ := hSw; go_simp)
 (try simp only [Act.put, zq1, zq2, zq3])
 refine till_take (i := 1) (v := (.pointer (some ⟨X, 0, none⟩))) rfl (by kernel_rfl) (fun _ _ _ h => h) (by rfl) ?_ (SM.out _ bq0) ?_
 . (intro w hSw; obtain ⟨q0, q1, q2, q3, q4⟩ := hSw; go_simp)
 (try simp only [Act.put, zq1, zq2, zq3])
 refine till_take (i := 2) (v := (.pointer (some ⟨X, 2, none⟩))) rfl (by kernel_rfl) (fun _ _ _ h => h) (by rfl) ?_ (SM.out _ bq0) ?_
 . (intro w hSw; obtain ⟨q0, q1, q2, q3, q4⟩ := hSw; go_simp)
 (try simp only [Act.put, zq1, zq2, zq3])
 refine till_take (i := 3) (v := (.pointer (some ⟨X, 3, none⟩))) rfl (by kernel_rfl) (fun _ _ _ h => h) (by rfl) ?_ (SM.out _ bq0) ?_
 . (intro w hSw; obtain ⟨q0, q1, q2, q3, q4⟩ := hSw; go_simp)
 (try simp only [Act.put, zq1, zq2, zq3])
 refine till_take (i := 4) (v := (.slice (some ⟨g, 0, none⟩) s.tasks.length cap)) rfl (by kernel_rfl) (fun _ _ _ h => h) (by rfl) ?_ (SM.out _ bq0) ?_
 . (intro w hSw; obtain ⟨q0, q1, q2, q3, q4⟩ := hSw; go_simp)
 (try simp only [Act.put, zq1, zq2, zq3])
 refine till_take (i := 5) (v := (.int .i64 (i : Int))) rfl (by kernel_rfl) (fun _ _ _ h => h) (by rfl) ?_ (SM.out _ bq0) ?_
 . (intro w hSw; obtain ⟨q0, q1, q2, q3, q4⟩ := hSw; go_simp)
 (try simp only [Act.put, zq1, zq2, zq3])
 refine till_take (i := 6) (v := (.pointer (some ⟨g, i * 13, none⟩))) rfl (by kernel_rfl) (fun _ _ _ h => h) (by rfl) ?_ (SM.out _ bq0) ?_
 . (intro w hSw; obtain ⟨q0, q1, q2, q3, q4⟩ := hSw; go_simp)
 (try simp only [Act.put, zq1, zq2, zq3])
 refine till_take (i := 7) (v := (.pointer (some ⟨g, i * 13 + 3, none⟩))) rfl (by kernel_rfl) (fun _ _ _ h => h) (by rfl) ?_ (SM.out _ bq0) ?_
 . (intro w hSw; obtain ⟨q0, q1, q2, q3, q4⟩ := hSw; go_simp)
 (try simp only [Act.put, zq1, zq2, zq3])
 refine till_take (i := 8) (v := (.slice (some ⟨br, 0, none⟩) (tkN s i).regs.length c3)) rfl (by kernel_rfl) (fun _ _ _ h => h) (by rfl) ?_ (SM.out _ bq0) ?_
 . (intro w hSw; obtain ⟨q0, q1, q2, q3, q4⟩ := hSw; go_simp)
 (try simp only [Act.put, zq1, zq2, zq3])
 refine till_take (i := 9) (v := .agg #[.int .i64 dk, .int .i64 da, .int .i64 db]) rfl (by kernel_rfl) (fun _ _ _ h => h) (by rfl) ?_ (SM.out _ bq0) ?_
 . (intro w hSw; obtain ⟨q0, q1, q2, q3, q4⟩ := hSw; go_simp)
 (try simp only [Act.put, zq1, zq2, zq3])
 refine till_step (i := 10) rfl (by kernel_rfl) (fun K hK => ?_)
 go_simp
 refine (l2Reg_any X B pc pb p s i ⟨dk, da, db⟩ _ HA3.out.drew hi SM0.out.1 SM0.out.2.1 hrg hk34 ha hb).mono ?_
 rintro e w5 ⟨rfl, hs4, hf4⟩
 refine hK.out _ _ (fun h => absurd rfl h) ?_
 clear hK
 refine till_done (by kernel_rfl) ?_ _
 have A5 := hs4
 have F5 : Hid (FrS (SX X B) w w5) := (F3.out.drew).trans (hf4.wide' (fun k e => Or.inr (by rw [e]; exact brB)))
 have b6 : w5.cell? ⟨w.heap.size, 6, none⟩ = some (.int .i64 (k : Int)) := (hf4.cell (b := w.heap.size) (by show w.heap.size < w3.heap.size; omega) (by omega)).trans K6
 have hbl : w.heap.size < w5.heap.size := by have := hf4.size; have e : w3.drew.heap.size = w3.heap.size := rfl; omega
 have hi5 : i < (setTk s i { tkN s i with regs := regT (tkN s i).regs ⟨dk, da, db⟩ }).tasks.length := by rw [setTk_len]; exact hi
 have HG5 : Hid (deedS s i ds = setTk (setTk s i { tkN s i with regs := regT (tkN s i).regs ⟨dk, da, db⟩ }) i { tkN (setTk s i { tkN s i with regs := regT (tkN s i).regs ⟨dk, da, db⟩ }) i with at_ := (k : Int) + 1 }) := by
   unfold Hid; rw [HG.out, setTk_two, tkN_same hi]
 clear hs4 hf4 SM SM0 K6 hgl3 hXl3 zs3 HA3 F3 HG HTI HK HS hgl hXl hXg hB hX hgB brl brB hbrg hXbr hi' ha hb hk34
 revert A5 F5 b6 hbl hi5 HG5
 generalize setTk s i { tkN s i with regs := regT (tkN s i).regs ⟨dk, da, db⟩ } = s5
 intro A5 F5 b6 hbl hi5 HG5
 obtain ⟨fq, cvq, gq, capq, lvq, Tq, Lq, Vq, h1, h2, h3, h4q, h5q, h6q, h7, h8, h9⟩ := A5.tk hi5
 obtain ⟨a3q, c3q, a8q, c8q, a9q, c9q, a10q, c10q, rfl⟩ := h7.ti.shapes
 obtain ⟨t0q, t1q, t2q, t3q, t4q, t5q, t6q, t7q, t8q, t9q, t10q, t11q, t12q⟩ := h7.cells
 simp only at t3q t8q t9q t10q
 have tzq := h7.fz
 have hi'q : (i : Int) < (s5.tasks.length : Int) := by omega
 have hXq := A5.lt
 have hBq := A5.le
 have hgBq := h7.ge
 have hglq := h7.lt
 have hXlq : X < w5.heap.size := by omega
 have hXgq : X ≠ gq := by omega
 have HTIq := (show Hid (TIn _ _ _ _ _) from h7.ti)
 have HKq := (show Hid (fq gq = .t /\ ∀ b, cvq.ownBlock = some b -> fq b = .c) from ⟨h7.key, h1.c.2⟩)
 have HSq := (show Hid (SW _ _ _ _ _ _ _) from A5)
 clear h1 h2 h3 h7 h8 h9 A5
 clear t0q t1q t2q t3q t4q t5q t7q t8q t9q t10q t11q t12q
 go_wp2_with fail
 go_region
 all_goals
   go_wp2_with fail
   go_end0
   refine ⟨rfl, ?_, (F5.out.setCell (Or.inr hgBq) _).drew⟩
   rw [HG5.out]
   exact (HSq.out.scs [(6, (k : Int) + 1)] rfl h5q hi5).drew

set_option maxRecDepth 20000
theorem deed_any (X B : Nat) (pc pb : Value) (p : Pr) (s : Sy) (i : Nat) (v : Value) (w : World) (h : SW X B w pc pb p s) (hi : i < s.tasks.length) (ds : List De) (hnp : Np p s) (hst : (tkN s i).stage = 1) (hd : DeedsAt w v ds) (hdl : ds.length <= 5) (hdB : ∀ j, j < ds.length -> deB (nth De.z ds j) p.cells.length = true) (hat : (tkN s i).at_ <= ds.length) (hat0 : 0 <= (tkN s i).at_) (hsi : -1048576 <= (tkN s i).since /\ (tkN s i).since <= 1048576) (hn : s.cells.length <= 1048576) (hln : s.log.length <= 1048576) :
   Calls Try.prog 159 #[.pointer (some ⟨X, 0, none⟩), .int .i64 (i : Int), v] w fun r w' => r = .returned (.tuple #[]) /\ SW X B w' pc pb p (deedS s i ds) /\ FrS (SX X B) w w' := by
 by_cases hlt : (tkN s i).at_ < ds.length
 . have hkl : (tkN s i).at_.toNat < ds.length := by omega
   rcases de_kinds (hdB _ hkl) with e | e | e | e | e
   . exact deed_load X B pc pb p s i v w h hi ds hnp hst hd hdl hdB hat hat0 hsi hn hln hlt e
   . exact deed_store X B pc pb p s i v w h hi ds hnp hst hd hdl hdB hat hat0 hsi hn hln hlt e
   . exact deed_reg X B pc pb p s i v w h hi ds hnp hst hd hdl hdB hat hat0 hsi hn hln hlt (.inl e)
   . exact deed_reg X B pc pb p s i v w h hi ds hnp hst hd hdl hdB hat hat0 hsi hn hln hlt (.inr e)
   . exact deed_need X B pc pb p s i v w h hi ds hnp hst hd hdl hdB hat hat0 hsi hn hln hlt e
 . exact deed_none X B pc pb p s i v w h hi ds hnp hst hd hdl hdB hat hat0 hsi hn hln hlt
theorem try_any (X B : Nat) (pc pb : Value) (p : Pr) (s : Sy) (i : Nat) (v : Value) (w : World) (h : SW X B w pc pb p s) (hi : i < s.tasks.length) (ds : List De) (hnp : Np p s) (hd : DeedsAt w v ds) (hdl : ds.length <= 5) (hdB : ∀ j, j < ds.length -> deB (nth De.z ds j) p.cells.length = true) (hpcl : (tkN s i).pc < (acts p (tkN s i)).length) (hds : (nth Ac.z (acts p (tkN s i)) (tkN s i).pc.toNat).ds = ds) (hck : s.clock <= 1048576 /\ -1048576 <= s.clock) (hsi : -1048576 <= (tkN s i).since /\ (tkN s i).since <= 1048576) (hn : s.cells.length <= 1048576) (hln : s.log.length <= 1048576) :
   Calls Try.prog 149 #[.pointer (some ⟨X, 0, none⟩), .int .i64 (i : Int), v] w fun r w' => r = .returned (.tuple #[]) /\ SW X B w' pc pb p (tryS s i ds) /\ FrS (SX X B) w w' := by
 have hT := hnp.t i hi
 have hl3 : (tkN s i).regs.length = 3 := (rgB_iff.1 hT.regs).1
 have hst0 := hT.stages
 have h1 := fun e => (hT.one e).2
 rw [hds] at h1
 have H1 := (show Hid (_ -> _) from h1)
 have HL := (show Hid (_ = _) from hl3)
 have HNP := (show Hid (Np _ _) from hnp)
 have HD := (show Hid (DeedsAt _ _ _) from hd)
 have HDL := (show Hid (_ <= _) from hdl)
 have HDB := (show Hid (∀ j, _) from hdB)
 have HSI := (show Hid (_ /\ _) from hsi)
 obtain ⟨ad, cd, rfl, _⟩ := hd.shape
 clear hT h1 hl3 hds hpcl hd hdl hdB hsi hnp
 rcases hst0 with hst | hst | hst | hst | hst | hst
 . have HF : Hid (tryS s i ds = setTk s i (beginT s (tkN s i))) := by unfold Hid tryS; simp [hst]
   have HST := (show Hid (_ = _) from hst)
   obtain ⟨f, cv, g, cap, lv, T, L, V, h1, h2, h3, h4, h5, h6, h7, h8, h9⟩ := h.tk hi
   obtain ⟨a3, c3, a8, c8, a9, c9, a10, c10, rfl⟩ := h7.ti.shapes
   obtain ⟨t0, t1, t2, t3, t4, t5, t6, t7, t8, t9, t10, t11, t12⟩ := h7.cells
   simp only at t3 t8 t9 t10
   have tz := h7.fz
   have hi' : (i : Int) < (s.tasks.length : Int) := by omega
   have hX := h.lt
   have hB := h.le
   have hgB := h7.ge
   have hgl := h7.lt
   have hXl : X < w.heap.size := by omega
   have hXg : X ≠ g := by omega
   have HTI := (show Hid (TIn _ _ _ _ _) from h7.ti)
   have HK := (show Hid (f g = .t /\ ∀ b, cv.ownBlock = some b -> f b = .c) from ⟨h7.key, h1.c.2⟩)
   have HS := (show Hid (SW _ _ _ _ _ _ _) from h)
   clear h1 h2 h3 h7 h8 h9 h
   clear t0 t1 t2 t3 t4 t6 t7 t8 t9 t10 t11 t12
   rw [HST.out] at t5
   go_enter Try.func149, Try.ntmps149
   go_wp2_with fail
   refine (begin_any X B pc pb p s i _ HS.out hi HL.out hln).mono ?_
   rintro e w2 ⟨rfl, hs2, hf2⟩
   have HS2 := (show Hid (SW _ _ _ _ _ _ _) from hs2)
   have HF2 : Hid (FrS (SX X B) w w2) := hf2
   clear hs2 hf2
   go_wp2_with fail
   first | go_end0 | ((try simp only [Exit.inBlock, Exit.then]); refine bodyPost_ret (results_none rfl _ _ _) rfl ?_)
   exact ⟨rfl, by rw [HF.out]; exact HS2.out, HF2.out⟩
 . have HF : Hid (tryS s i ds = deedS s i ds) := by unfold Hid tryS; simp [hst]
   have HST := (show Hid (_ = _) from hst)
   obtain ⟨f, cv, g, cap, lv, T, L, V, h1, h2, h3, h4, h5, h6, h7, h8, h9⟩ := h.tk hi
   obtain ⟨a3, c3, a8, c8, a9, c9, a10, c10, rfl⟩ := h7.ti.shapes
   obtain ⟨t0, t1, t2, t3, t4, t5, t6, t7, t8, t9, t10, t11, t12⟩ := h7.cells
   simp only at t3 t8 t9 t10
   have tz := h7.fz
   have hi' : (i : Int) < (s.tasks.length : Int) := by omega
   have hX := h.lt
   have hB := h.le
   have hgB := h7.ge
   have hgl := h7.lt
   have hXl : X < w.heap.size := by omega
   have hXg : X ≠ g := by omega
   have HTI := (show Hid (TIn _ _ _ _ _) from h7.ti)
   have HK := (show Hid (f g = .t /\ ∀ b, cv.ownBlock = some b -> f b = .c) from ⟨h7.key, h1.c.2⟩)
   have HS := (show Hid (SW _ _ _ _ _ _ _) from h)
   clear h1 h2 h3 h7 h8 h9 h
   clear t0 t1 t2 t3 t4 t6 t7 t8 t9 t10 t11 t12
   rw [HST.out] at t5
   go_enter Try.func149, Try.ntmps149
   go_wp2_with fail
   refine (deed_any X B pc pb p s i _ _ HS.out hi ds HNP.out HST.out HD.out HDL.out HDB.out (H1.out HST.out).2 (H1.out HST.out).1 HSI.out hn hln).mono ?_
   rintro e w2 ⟨rfl, hs2, hf2⟩
   have HS2 := (show Hid (SW _ _ _ _ _ _ _) from hs2)
   have HF2 : Hid (FrS (SX X B) w w2) := hf2
   clear hs2 hf2
   go_wp2_with fail
   first | go_end0 | ((try simp only [Exit.inBlock, Exit.then]); refine bodyPost_ret (results_none rfl _ _ _) rfl ?_)
   exact ⟨rfl, by rw [HF.out]; exact HS2.out, HF2.out⟩
 . have HF : Hid (tryS s i ds = lockS s i) := by unfold Hid tryS; simp [hst]
   have HST := (show Hid (_ = _) from hst)
   obtain ⟨f, cv, g, cap, lv, T, L, V, h1, h2, h3, h4, h5, h6, h7, h8, h9⟩ := h.tk hi
   obtain ⟨a3, c3, a8, c8, a9, c9, a10, c10, rfl⟩ := h7.ti.shapes
   obtain ⟨t0, t1, t2, t3, t4, t5, t6, t7, t8, t9, t10, t11, t12⟩ := h7.cells
   simp only at t3 t8 t9 t10
   have tz := h7.fz
   have hi' : (i : Int) < (s.tasks.length : Int) := by omega
   have hX := h.lt
   have hB := h.le
   have hgB := h7.ge
   have hgl := h7.lt
   have hXl : X < w.heap.size := by omega
   have hXg : X ≠ g := by omega
   have HTI := (show Hid (TIn _ _ _ _ _) from h7.ti)
   have HK := (show Hid (f g = .t /\ ∀ b, cv.ownBlock = some b -> f b = .c) from ⟨h7.key, h1.c.2⟩)
   have HS := (show Hid (SW _ _ _ _ _ _ _) from h)
   clear h1 h2 h3 h7 h8 h9 h
   clear t0 t1 t2 t3 t4 t6 t7 t8 t9 t10 t11 t12
   rw [HST.out] at t5
   go_enter Try.func149, Try.ntmps149
   go_wp2_with fail
   refine (lock_any X B pc pb p s i _ HS.out hi HNP.out HST.out hn).mono ?_
   rintro e w2 ⟨rfl, hs2, hf2⟩
   have HS2 := (show Hid (SW _ _ _ _ _ _ _) from hs2)
   have HF2 : Hid (FrS (SX X B) w w2) := hf2
   clear hs2 hf2
   go_wp2_with fail
   first | go_end0 | ((try simp only [Exit.inBlock, Exit.then]); refine bodyPost_ret (results_none rfl _ _ _) rfl ?_)
   exact ⟨rfl, by rw [HF.out]; exact HS2.out, HF2.out⟩
 . have HF : Hid (tryS s i ds = timeS s i) := by unfold Hid tryS; simp [hst]
   have HST := (show Hid (_ = _) from hst)
   have h4c := h.c4
   obtain ⟨f, cv, g, cap, lv, T, L, V, h1, h2, h3, h4, h5, h6, h7, h8, h9⟩ := h.tk hi
   obtain ⟨a3, c3, a8, c8, a9, c9, a10, c10, rfl⟩ := h7.ti.shapes
   obtain ⟨t0, t1, t2, t3, t4, t5, t6, t7, t8, t9, t10, t11, t12⟩ := h7.cells
   simp only at t3 t8 t9 t10
   have tz := h7.fz
   have hi' : (i : Int) < (s.tasks.length : Int) := by omega
   have hX := h.lt
   have hB := h.le
   have hgB := h7.ge
   have hgl := h7.lt
   have hXl : X < w.heap.size := by omega
   have hXg : X ≠ g := by omega
   have HTI := (show Hid (TIn _ _ _ _ _) from h7.ti)
   have HK := (show Hid (f g = .t /\ ∀ b, cv.ownBlock = some b -> f b = .c) from ⟨h7.key, h1.c.2⟩)
   have HS := (show Hid (SW _ _ _ _ _ _ _) from h)
   clear h1 h2 h3 h7 h8 h9 h
   clear t0 t1 t2 t3 t4 t6 t7 t8 t9 t10 t11 t12
   rw [HST.out] at t5
   have hwr : IntKind.i64.wrap (s.clock + 1) = s.clock + 1 := by rw [IntKind.wrap_i64]; omega
   have hXf := HS.out.fz
   have A5 := HS.out.clk (s.clock + 1)
   have F5 : Hid (FrS (SX X B) w (w.setCell ⟨X, 4, none⟩ (.int .i64 (s.clock + 1)))) := (FrS.refl _ _).setCell (Or.inl rfl) _
   have G4 : (w.setCell ⟨X, 4, none⟩ (.int .i64 (s.clock + 1))).cell? ⟨X, 4, none⟩ = some (.int .i64 (s.clock + 1)) := by simp [go_sem, h4c, hXl]
   have HG5 : Hid (timeS s i = setTk { s with clock := s.clock + 1 } i { tkN { s with clock := s.clock + 1 } i with when_ := s.clock + 1, stage := 4, at_ := 0 }) := rfl
   go_enter Try.func149, Try.ntmps149
   go_wp2_with fail
   clear h4c h4 h5 h6 t5 tz hi' hX hB hgB hgl hXl hXg HTI HK HS hXf hwr
   have hi5 : i < ({ s with clock := s.clock + 1 } : Sy).tasks.length := hi
   revert A5 F5 G4 hi5 HG5
   generalize w.setCell ⟨X, 4, none⟩ (.int .i64 (s.clock + 1)) = w5
   generalize ({ s with clock := s.clock + 1 } : Sy) = s5
   intro A5 F5 G4 HG5 hi5
   obtain ⟨fq, cvq, gq, capq, lvq, Tq, Lq, Vq, h1, h2, h3, h4q, h5q, h6q, h7, h8, h9⟩ := A5.tk hi5
   obtain ⟨a3q, c3q, a8q, c8q, a9q, c9q, a10q, c10q, rfl⟩ := h7.ti.shapes
   obtain ⟨t0q, t1q, t2q, t3q, t4q, t5q, t6q, t7q, t8q, t9q, t10q, t11q, t12q⟩ := h7.cells
   simp only at t3q t8q t9q t10q
   have tzq := h7.fz
   have hi'q : (i : Int) < (s5.tasks.length : Int) := by omega
   have hXq := A5.lt
   have hBq := A5.le
   have hgBq := h7.ge
   have hglq := h7.lt
   have hXlq : X < w5.heap.size := by omega
   have hXgq : X ≠ gq := by omega
   have HTIq := (show Hid (TIn _ _ _ _ _) from h7.ti)
   have HKq := (show Hid (fq gq = .t /\ ∀ b, cvq.ownBlock = some b -> fq b = .c) from ⟨h7.key, h1.c.2⟩)
   have HSq := (show Hid (SW _ _ _ _ _ _ _) from A5)
   clear h1 h2 h3 h7 h8 h9 A5
   clear t0q t1q t2q t3q t4q t5q t6q t7q t8q t9q t10q t12q
   go_wp2_with fail
   go_region
   all_goals
     go_wp2_with fail
     refine (stage_any X B pc pb p _ i 4 _ (HSq.out.scs [(11, s.clock + 1)] rfl h5q hi5).drew (by rw [setTk_len]; exact hi5)).mono ?_
     rintro e w2 ⟨rfl, hs2, hf2⟩
     rw [setTk_two, tkN_same hi5] at hs2
     have HS2 := (show Hid (SW _ _ _ _ _ _ _) from hs2)
     have HF2 : Hid (FrS (SX X B) w w2) := ((F5.out.setCell (Or.inr hgBq) _).drew).trans hf2
     clear hs2 hf2
     go_wp2_with fail
     first | go_end0 | ((try simp only [Exit.inBlock, Exit.then]); refine bodyPost_ret (results_none rfl _ _ _) rfl ?_)
     exact ⟨rfl, by rw [HF.out, HG5.out]; exact HS2.out, HF2.out⟩
 . have HF : Hid (tryS s i ds = checkS s i) := by unfold Hid tryS; simp [hst]
   have HST := (show Hid (_ = _) from hst)
   obtain ⟨f, cv, g, cap, lv, T, L, V, h1, h2, h3, h4, h5, h6, h7, h8, h9⟩ := h.tk hi
   obtain ⟨a3, c3, a8, c8, a9, c9, a10, c10, rfl⟩ := h7.ti.shapes
   obtain ⟨t0, t1, t2, t3, t4, t5, t6, t7, t8, t9, t10, t11, t12⟩ := h7.cells
   simp only at t3 t8 t9 t10
   have tz := h7.fz
   have hi' : (i : Int) < (s.tasks.length : Int) := by omega
   have hX := h.lt
   have hB := h.le
   have hgB := h7.ge
   have hgl := h7.lt
   have hXl : X < w.heap.size := by omega
   have hXg : X ≠ g := by omega
   have HTI := (show Hid (TIn _ _ _ _ _) from h7.ti)
   have HK := (show Hid (f g = .t /\ ∀ b, cv.ownBlock = some b -> f b = .c) from ⟨h7.key, h1.c.2⟩)
   have HS := (show Hid (SW _ _ _ _ _ _ _) from h)
   clear h1 h2 h3 h7 h8 h9 h
   clear t0 t1 t2 t3 t4 t6 t7 t8 t9 t10 t11 t12
   rw [HST.out] at t5
   go_enter Try.func149, Try.ntmps149
   go_wp2_with fail
   refine (check_any X B pc pb p s i _ HS.out hi HNP.out HST.out hn).mono ?_
   rintro e w2 ⟨rfl, hs2, hf2⟩
   have HS2 := (show Hid (SW _ _ _ _ _ _ _) from hs2)
   have HF2 : Hid (FrS (SX X B) w w2) := hf2
   clear hs2 hf2
   go_wp2_with fail
   first | go_end0 | ((try simp only [Exit.inBlock, Exit.then]); refine bodyPost_ret (results_none rfl _ _ _) rfl ?_)
   exact ⟨rfl, by rw [HF.out]; exact HS2.out, HF2.out⟩
 . have HF : Hid (tryS s i ds = writeS s i) := by unfold Hid tryS; simp [hst]
   have HST := (show Hid (_ = _) from hst)
   obtain ⟨f, cv, g, cap, lv, T, L, V, h1, h2, h3, h4, h5, h6, h7, h8, h9⟩ := h.tk hi
   obtain ⟨a3, c3, a8, c8, a9, c9, a10, c10, rfl⟩ := h7.ti.shapes
   obtain ⟨t0, t1, t2, t3, t4, t5, t6, t7, t8, t9, t10, t11, t12⟩ := h7.cells
   simp only at t3 t8 t9 t10
   have tz := h7.fz
   have hi' : (i : Int) < (s.tasks.length : Int) := by omega
   have hX := h.lt
   have hB := h.le
   have hgB := h7.ge
   have hgl := h7.lt
   have hXl : X < w.heap.size := by omega
   have hXg : X ≠ g := by omega
   have HTI := (show Hid (TIn _ _ _ _ _) from h7.ti)
   have HK := (show Hid (f g = .t /\ ∀ b, cv.ownBlock = some b -> f b = .c) from ⟨h7.key, h1.c.2⟩)
   have HS := (show Hid (SW _ _ _ _ _ _ _) from h)
   clear h1 h2 h3 h7 h8 h9 h
   clear t0 t1 t2 t3 t4 t6 t7 t8 t9 t10 t11 t12
   rw [HST.out] at t5
   go_enter Try.func149, Try.ntmps149
   go_wp2_with fail
   refine (write_any X B pc pb p s i _ HS.out hi HNP.out HST.out hn hln).mono ?_
   rintro e w2 ⟨rfl, hs2, hf2⟩
   have HS2 := (show Hid (SW _ _ _ _ _ _ _) from hs2)
   have HF2 : Hid (FrS (SX X B) w w2) := hf2
   clear hs2 hf2
   go_wp2_with fail
   first | go_end0 | ((try simp only [Exit.inBlock, Exit.then]); refine bodyPost_ret (results_none rfl _ _ _) rfl ?_)
   exact ⟨rfl, by rw [HF.out]; exact HS2.out, HF2.out⟩
end Go.Proofs.Ytgbgjljflgbcaaa
