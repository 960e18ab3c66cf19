import Derived.Test.YtgbgjljflgbcaaaSo19
import Derived.Test.YtgbgjljflgbcaaaSo20
import Derived.BigRegion
import Derived.Test.YtgbgjljflgbcaaaSo01
namespace Go.Proofs.Ytgbgjljflgbcaaa
set_option maxHeartbeats 8000000
open Go.RowKit
set_option linter.unusedSimpArgs false
set_option linter.unusedVariables false
set_option maxRecDepth 20000
theorem pus_keep {w w' : World} {v : Value} {xs : List Pu} (h : PusAt w v xs) (hk : ∀ b, v.ownBlock = some b -> w'.heap[b]? = w.heap[b]?) (hs : w.heap.size <= w'.heap.size) : PusAt w' v xs := by
 obtain ⟨a, cap, rfl, hm, hc⟩ := h
 refine ⟨a, cap, rfl, hm, fun k hk' => ?_⟩
 obtain ⟨b, off, rfl, hb, c0, c1⟩ := hc k hk'
 have e := hk b rfl
 exact ⟨b, off, rfl, by omega, by rw [World.cell?_of_block e]; exact c0, by rw [World.cell?_of_block e]; exact c1⟩
theorem load_any (X B : Nat) (pc pb : Value) (p : Pr) (s : Sy) (i : Nat) (d : De) (w : World) (h : SW X B w pc pb p s) (hi : i < s.tasks.length) (hrg : rgB (tkN s i).regs = true) (hold : (tkN s i).old.length = 3) (hn : s.cells.length <= 1048576) (hrn : (tkN s i).reads.length <= 1048576) (hat : 0 <= (tkN s i).at_ /\ (tkN s i).at_ <= 1048576) (ha : 0 <= d.a /\ d.a < 3) (hb : 0 <= d.b /\ d.b < s.cells.length) :
   Calls Try.prog 169 #[.pointer (some ⟨X, 0, none⟩), .int .i64 (i : Int), .agg #[.int .i64 d.k, .int .i64 d.a, .int .i64 d.b]] w fun r w' => r = .returned (.tuple #[]) /\ SW X B w' pc pb p (loadS s i d) /\ FrS (SX X B) w w' := by
 have hl3 : (tkN s i).regs.length = 3 := (rgB_iff.1 hrg).1
 clear hrg
 obtain ⟨dk, da, db⟩ := d
 simp only at ha hb
 obtain ⟨ka, rfl⟩ : ∃ k : Nat, da = (k : Int) := ⟨da.toNat, by omega⟩
 obtain ⟨kb, rfl⟩ : ∃ k : Nat, db = (k : Int) := ⟨db.toNat, by omega⟩
 have hka : ka < (tkN s i).regs.length := by omega
 have hka' : (ka : Int) < ((tkN s i).regs.length : Int) := by omega
 have hcl : kb < s.cells.length := by omega
 have hcl' : (kb : Int) < (s.cells.length : Int) := by omega
 obtain ⟨f, cv, g, cap, lv, T, L, V, h1, h2, h3, h4, h5, h6, h7, h8, h9⟩ := h.tk hi
 obtain ⟨a3, c3, a8, c8, a9, c9, a10, c10, rfl⟩ := h7.ti.shapes
 obtain ⟨t0, t1, t2, t3, t4, t5, t6, t7, t8, t9, t10, t11, t12⟩ := h7.cells
 simp only at t3 t8 t9 t10
 have tz := h7.fz
 have hi' : (i : Int) < (s.tasks.length : Int) := by omega
 have hX := h.lt
 have hB := h.le
 have hgB := h7.ge
 have hgl := h7.lt
 have hXl : X < w.heap.size := by omega
 have hXg : X ≠ g := by omega
 have HTI := (show Hid (TIn _ _ _ _ _) from h7.ti)
 have HK := (show Hid (f g = .t /\ ∀ b, cv.ownBlock = some b -> f b = .c) from ⟨h7.key, h1.c.2⟩)
 have HS := (show Hid (SW _ _ _ _ _ _ _) from h)
 clear h1 h2 h3 h7 h8 h9 h
 obtain ⟨br, er, _, brB, brl, brk, brc, brz⟩ := iR_nth HTI.out.r (by show 0 < (tkN s i).regs.length; omega)
 subst er
 have hbrg : br ≠ g := fun e => by have h1 := HK.out.1; rw [<- e, brk] at h1; cases h1
 have hXbr : X ≠ br := by omega
 have brka := brc ka hka
 have hwr : IntKind.i64.wrap ((tkN s i).at_ + 1) = (tkN s i).at_ + 1 := by rw [IntKind.wrap_i64]; omega
 have HOLD := (show Hid (_ = _) from hold)
 have HL3 := (show Hid (_ = _) from hl3)
 have BRC := (show Hid (∀ k, _) from brc)
 clear hold hl3 brc ha hb hat
 have HPU : Hid (PusAt w (.slice a10 (tkN s i).puts.length c10) (tkN s i).puts) := pR_at HTI.out.u
 cases hf : fdP (tkN s i).puts (kb : Int) with
 | some j =>
   have hj := (fdP_some hf).1
   have hj' : (j : Int) < ((tkN s i).puts.length : Int) := by omega
   have hj0 : (j : Int) ≥ 0 := by omega
   have HFI : Hid (fdI (tkN s i).puts (kb : Int) = (j : Int)) := by unfold Hid fdI; rw [hf]
   obtain ⟨b10, e10, b10B, b10l, u0, u1⟩ := pR_nth HTI.out.u hj
   subst e10
   have HF : Hid (loadS s i ⟨dk, (ka : Int), (kb : Int)⟩ = setTk s i { tkN s i with regs := (tkN s i).regs.set ka (nth Pu.z (tkN s i).puts j).n, at_ := (tkN s i).at_ + 1 }) := by
     unfold Hid loadS; simp only [hf]; rfl
   clear hf u0 h4
   go_enter Try.func169, Try.ntmps169
   go_wp2_with fail
   refine (l11Find_any _ (tkN s i).puts _ _ (HPU.out.mono bq0)).mono ?_
   rintro e w1 ⟨rfl, rfl⟩
   rw [HFI.out]
   go_wp2_with fail
   go_region
   all_goals
     go_wp2_with fail
     go_region
     all_goals
       go_wp2_with fail
       go_end0
       refine ⟨rfl, ?_, (((((FrS.refl _ _).setCell (Or.inr brB) _).setCell (Or.inr hgB) _).alloc _).alloc _).drew.drew⟩
       rw [HF.out]
       have A0 := HS.out.reg hi h5 t3 (a := ka) (nth Pu.z (tkN s i).puts j).n
       have G0 : (w.setCell ⟨br, ka, none⟩ (.int .i64 (nth Pu.z (tkN s i).puts j).n)).cell? ⟨X, 3, none⟩ = some (.slice (some ⟨g, 0, none⟩) s.tasks.length cap) := by rw [cell_set_blk _ _ _ _ _ _ hXbr]; exact h5
       have A1 := ((((A0.scs [(6, (tkN s i).at_ + 1)] rfl G0 (by rw [setTk_len]; exact hi)).alloc (.cells #[.int .i64 dk, .int .i64 (ka : Int), .int .i64 (kb : Int)] 125)).alloc (.cells #[.int .i64 (tkN s i).body, .int .i64 (tkN s i).pc, .int .i64 (tkN s i).up, .slice (some ⟨br, 0, none⟩) (tkN s i).regs.length c3, .int .i64 (tkN s i).way, .int .i64 (tkN s i).stage, .int .i64 (tkN s i).at_, .int .i64 (tkN s i).since, .slice a8 (tkN s i).old.length c8, .slice a9 (tkN s i).reads.length c9, .slice (some ⟨b10, 0, none⟩) (tkN s i).puts.length c10, .int .i64 (tkN s i).when_, .int .i64 (tkN s i).from_] 70)).drew).drew
       rw [setTk_two, tkN_same hi] at A1
       exact A1
 | none =>
   have HFI : Hid (fdI (tkN s i).puts (kb : Int) = -1) := by unfold Hid fdI; rw [hf]
   have HF : Hid (loadS s i ⟨dk, (ka : Int), (kb : Int)⟩ = if blindB s i kb then againS s i else setTk s i { tkN s i with regs := (tkN s i).regs.set ka (nth Ce.z s.cells kb).num, reads := addP (tkN s i).reads ⟨(kb : Int), (nth Ce.z s.cells kb).num⟩, at_ := (tkN s i).at_ + 1 }) := by
     unfold Hid loadS; simp only [hf, ceN, Int.toNat_natCast]
   clear hf
   obtain ⟨gc, kc, x2, gcB, gcl, cc, cz⟩ := HS.out.cs hcl
   obtain ⟨d0, d1, d2⟩ := cc kb hcl
   have hgcg : gc ≠ g := by
     have x2' := x2
     rw [h4] at x2'
     injection x2' with e
     intro q
     have h1 := HK.out.2 gc (by rw [e]; rfl)
     rw [q, HK.out.1] at h1
     cases h1
   have hXgc : X ≠ gc := by omega
   have hbrgc : gc ≠ br := by
     have x2' := x2
     rw [h4] at x2'
     injection x2' with e
     intro q
     have h1 := HK.out.2 gc (by rw [e]; rfl)
     rw [q, brk] at h1
     cases h1
   clear cc h4
   go_enter Try.func169, Try.ntmps169
   go_wp2_with fail
   refine (l11Find_any _ (tkN s i).puts _ _ (HPU.out.mono bq0)).mono ?_
   rintro e w1 ⟨rfl, rfl⟩
   rw [HFI.out]
   go_wp2_with fail
   refine (blind_any X B pc pb p s i kb _ ((HS.out.alloc _).alloc _) hi hcl).mono ?_
   rintro e w1 ⟨rfl, hb1⟩
   have HS1 : Hid (SW X B w1 pc pb p s) := ((HS.out.alloc _).alloc _).below hb1
   have HF1 : Hid (FrS (SX X B) w w1) := (((FrS.refl _ _).alloc _).alloc _).trans (.of_below hb1)
   cases hbl : blindB s i kb
   . have HG : Hid (loadS s i ⟨dk, (ka : Int), (kb : Int)⟩ = setTk s i { tkN s i with regs := (tkN s i).regs.set ka (nth Ce.z s.cells kb).num, reads := addP (tkN s i).reads ⟨(kb : Int), (nth Ce.z s.cells kb).num⟩, at_ := (tkN s i).at_ + 1 }) := by unfold Hid; rw [HF.out, hbl]; rfl
     clear hbl HF
     have CW : Hid (∀ b o, b < w.heap.size + 2 -> w1.cell? ⟨b, o, none⟩ = ((w.alloc (.cells #[.int .i64 dk, .int .i64 (ka : Int), .int .i64 (kb : Int)] 125)).alloc (.cells #[.int .i64 (tkN s i).body, .int .i64 (tkN s i).pc, .int .i64 (tkN s i).up, .slice (some ⟨br, 0, none⟩) (tkN s i).regs.length c3, .int .i64 (tkN s i).way, .int .i64 (tkN s i).stage, .int .i64 (tkN s i).at_, .int .i64 (tkN s i).since, .slice a8 (tkN s i).old.length c8, .slice a9 (tkN s i).reads.length c9, .slice a10 (tkN s i).puts.length c10, .int .i64 (tkN s i).when_, .int .i64 (tkN s i).from_] 70)).cell? ⟨b, o, none⟩) := fun b o hb => hb1.cell (p := ⟨b, o, none⟩) (by simp; omega)
     have CZ : Hid (∀ b o, b < w.heap.size -> w1.frozen? ⟨b, o, none⟩ = w.frozen? ⟨b, o, none⟩) := fun b o hb => (hb1.frozen (p := ⟨b, o, none⟩) (by simp; omega)).trans ((((Below.refl w.heap.size w).alloc (Nat.le_refl _) _).alloc (by simp) _).frozen (p := ⟨b, o, none⟩) hb)
     have CO : Hid (∀ b o, b < w.heap.size -> w1.cell? ⟨b, o, none⟩ = w.cell? ⟨b, o, none⟩) := fun b o hb => (CW.out b o (by omega)).trans ((((Below.refl w.heap.size w).alloc (Nat.le_refl _) _).alloc (by simp) _).cell (p := ⟨b, o, none⟩) hb)
     have zs : w.heap.size + 1 < w1.heap.size := by have := hb1.size; simp at this; omega
     have h51 : w1.cell? ⟨X, 3, none⟩ = some (.slice (some ⟨g, 0, none⟩) s.tasks.length cap) := (CO.out _ _ hXl).trans h5
     have x21 : w1.cell? ⟨X, 2, none⟩ = some (.slice (some ⟨gc, 0, none⟩) s.cells.length kc) := (CO.out _ _ hXl).trans x2
     have t31 : w1.cell? ⟨g, i * 13 + 3, none⟩ = some (.slice (some ⟨br, 0, none⟩) (tkN s i).regs.length c3) := (CO.out _ _ hgl).trans t3
     have t91 : w1.cell? ⟨g, i * 13 + 9, none⟩ = some (.slice a9 (tkN s i).reads.length c9) := (CO.out _ _ hgl).trans t9
     have d01 : w1.cell? ⟨gc, kb * 3, none⟩ = some (.int .i64 (nth Ce.z s.cells kb).num) := (CO.out _ _ gcl).trans d0
     have k11 : w1.cell? ⟨w.heap.size, 1, none⟩ = some (.int .i64 (ka : Int)) := (CW.out _ _ (by omega)).trans (by simp [go_sem])
     have k21 : w1.cell? ⟨w.heap.size, 2, none⟩ = some (.int .i64 (kb : Int)) := (CW.out _ _ (by omega)).trans (by simp [go_sem])
     have k61 : w1.cell? ⟨w.heap.size + 1, 6, none⟩ = some (.int .i64 (tkN s i).at_) := (CW.out _ _ (by omega)).trans (by simp [go_sem])
     have k91 : w1.cell? ⟨w.heap.size + 1, 9, none⟩ = some (.slice a9 (tkN s i).reads.length c9) := (CW.out _ _ (by omega)).trans (by simp [go_sem])
     have br1 : w1.cell? ⟨br, ka, none⟩ = some (.int .i64 (nth 0 (tkN s i).regs ka)) := (CO.out _ _ brl).trans brka
     have bz1 : ∀ o, w1.frozen? ⟨br, o, none⟩ = false := fun o => (CZ.out _ _ brl).trans (brz o)
     have tz1 : Hid (∀ o, w1.frozen? ⟨g, o, none⟩ = false) := fun o => (CZ.out _ _ hgl).trans (tz o)
     have HPD1 : Hid (PusAt (w1.setCell ⟨br, ka, none⟩ (.int .i64 (nth Ce.z s.cells kb).num)) (.slice a9 (tkN s i).reads.length c9) (tkN s i).reads) := pus_keep ((pR_at HTI.out.d).mono (((((Below.refl _ _).alloc (Nat.le_refl _) _).alloc (by simp) _)).trans (hb1.mono (by simp; omega)))) (fun b hb => heap_set_ne _ _ _ _ (fun e => by
       have := HTI.out.d.2 b hb
       simp only at e
       rw [e, brk] at this; cases this)) (by simp)
     have zbr : br < w1.heap.size := by omega
     have zg : g < w1.heap.size := by omega
     have zX : X < w1.heap.size := by omega
     have zgc : gc < w1.heap.size := by omega
     clear hb1 CW CZ CO h5 x2 t0 t1 t2 t3 t4 t5 t6 t7 t8 t9 t10 t11 t12 d0 d1 d2 brka brz tz cz
     go_wp2_with fail
     go_region
     all_goals
       go_wp2_with fail
       have A3 := (HS1.out.reg hi h51 t31 (a := ka) (nth Ce.z s.cells kb).num).drew
       have F3 : Hid (FrS (SX X B) w (w1.setCell ⟨br, ka, none⟩ (.int .i64 (nth Ce.z s.cells kb).num)).drew) := (HF1.out.setCell (Or.inr brB) _).drew
       have SM0 : Hid ((w1.setCell ⟨br, ka, none⟩ (.int .i64 (nth Ce.z s.cells kb).num)).drew.cell? ⟨X, 3, none⟩ = some (.slice (some ⟨g, 0, none⟩) s.tasks.length cap) /\ (w1.setCell ⟨br, ka, none⟩ (.int .i64 (nth Ce.z s.cells kb).num)).drew.cell? ⟨X, 2, none⟩ = some (.slice (some ⟨gc, 0, none⟩) s.cells.length kc) /\ (w1.setCell ⟨br, ka, none⟩ (.int .i64 (nth Ce.z s.cells kb).num)).drew.cell? ⟨w.heap.size + 1, 9, none⟩ = some (.slice a9 (tkN s i).reads.length c9) /\ (w1.setCell ⟨br, ka, none⟩ (.int .i64 (nth Ce.z s.cells kb).num)).drew.cell? ⟨w.heap.size, 2, none⟩ = some (.int .i64 (kb : Int)) /\ (w1.setCell ⟨br, ka, none⟩ (.int .i64 (nth Ce.z s.cells kb).num)).drew.cell? ⟨gc, kb * 3, none⟩ = some (.int .i64 (nth Ce.z s.cells kb).num)) := ⟨(cell_set_blk _ _ _ _ _ _ hXbr).trans h51, (cell_set_blk _ _ _ _ _ _ hXbr).trans x21, (cell_set_blk _ _ _ _ _ _ (by omega)).trans k91, (cell_set_blk _ _ _ _ _ _ (by omega)).trans k21, (cell_set_blk _ _ _ _ _ _ hbrgc).trans d01⟩
       have G9 : (w1.setCell ⟨br, ka, none⟩ (.int .i64 (nth Ce.z s.cells kb).num)).drew.cell? ⟨g, i * 13 + 9, none⟩ = some (.slice a9 (tkN s i).reads.length c9) := (cell_set_blk _ _ _ _ _ _ (fun e => hbrg e.symm)).trans t91
       have K6 : (w1.setCell ⟨br, ka, none⟩ (.int .i64 (nth Ce.z s.cells kb).num)).drew.cell? ⟨w.heap.size + 1, 6, none⟩ = some (.int .i64 (tkN s i).at_) := (cell_set_blk _ _ _ _ _ _ (by omega)).trans k61
       have GZ : Hid (∀ o, (w1.setCell ⟨br, ka, none⟩ (.int .i64 (nth Ce.z s.cells kb).num)).drew.frozen? ⟨g, o, none⟩ = false) := fun o => (World.frozen?_of_block (heap_set_ne _ _ _ _ (fun e => hbrg e.symm))).trans (tz1.out o)
       have HPD2 : Hid (PusAt (w1.setCell ⟨br, ka, none⟩ (.int .i64 (nth Ce.z s.cells kb).num)).drew (.slice a9 (tkN s i).reads.length c9) (tkN s i).reads) := HPD1.out.mono (Below.drew (Below.refl _ _))
       have zs3 : w.heap.size + 1 < (w1.setCell ⟨br, ka, none⟩ (.int .i64 (nth Ce.z s.cells kb).num)).drew.heap.size := by simpa using zs
       clear h51 x21 t31 t91 d01 k11 k21 k61 k91 br1 bz1 tz1 HPD1 zbr zg zX zgc zs HS1 HF1
       revert A3 F3 SM0 G9 K6 GZ HPD2 zs3
       generalize (w1.setCell ⟨br, ka, none⟩ (.int .i64 (nth Ce.z s.cells kb).num)).drew = w3
       intro A3 F3 SM0 G9 K6 GZ HPD2 zs3
       have HA3 := (show Hid (SW _ _ _ _ _ _ _) from A3)
       have HPD : Hid (PusAt w3.drew (.slice a9 (tkN s i).reads.length c9) (tkN s i).reads) := HPD2.out.mono (Below.drew (Below.refl _ _))
       have hgl3 : g < w3.heap.size := by omega
       have hXl3 : X < w3.heap.size := by omega
       have SM : Hid (∀ W, Below w3.heap.size w3 W -> W.cell? ⟨X, 3, none⟩ = some (.slice (some ⟨g, 0, none⟩) s.tasks.length cap) /\ W.cell? ⟨X, 2, none⟩ = some (.slice (some ⟨gc, 0, none⟩) s.cells.length kc) /\ W.cell? ⟨w.heap.size + 1, 9, none⟩ = some (.slice a9 (tkN s i).reads.length c9) /\ W.cell? ⟨w.heap.size, 2, none⟩ = some (.int .i64 (kb : Int)) /\ W.cell? ⟨gc, kb * 3, none⟩ = some (.int .i64 (nth Ce.z s.cells kb).num)) := fun W hb => by
         have c : ∀ b o, b < w3.heap.size -> W.cell? ⟨b, o, none⟩ = w3.cell? ⟨b, o, none⟩ := fun b o h => hb.cell (p := ⟨b, o, none⟩) h
         obtain ⟨q0, q1, q2, q3, q4⟩ := SM0.out
         exact ⟨(c _ _ hXl3).trans q0, (c _ _ hXl3).trans q1, (c _ _ (by omega)).trans q2, (c _ _ (by omega)).trans q3, (c _ _ (by omega)).trans q4⟩
       clear A3 HPD2
       refine till_begin (S := fun w' => w'.cell? ⟨X, 3, none⟩ = some (.slice (some ⟨g, 0, none⟩) s.tasks.length cap) /\ w'.cell? ⟨X, 2, none⟩ = some (.slice (some ⟨gc, 0, none⟩) s.cells.length kc) /\ w'.cell? ⟨w.heap.size + 1, 9, none⟩ = some (.slice a9 (tkN s i).reads.length c9) /\ w'.cell? ⟨w.heap.size, 2, none⟩ = some (.int .i64 (kb : Int)) /\ w'.cell? ⟨gc, kb * 3, none⟩ = some (.int .i64 (nth Ce.z s.cells kb).num)) (z := 24) (by kernel_rfl) ?_
       refine till_take (i := 0) (v := (.pointer (some ⟨X, 0, none⟩))) rfl (by kernel_rfl) (fun _ _ _ h => h) (by rfl) ?_ (SM.out _ bq0) ?_
       . (intro w hSw; obtain ⟨q0, q1, q2, q3, q4⟩ := hSw; go_simp)
       (try simp only [Act.put, zq1, zq2, zq3])
       refine till_take (i := 1) (v := (.pointer (some ⟨X, 0, none⟩))) rfl (by kernel_rfl) (fun _ _ _ h => h) (by rfl) ?_ (SM.out _ bq0) ?_
       . (intro w hSw; obtain ⟨q0, q1, q2, q3, q4⟩ := hSw; go_simp)
       (try simp only [Act.put, zq1, zq2, zq3])
       refine till_take (i := 2) (v := (.pointer (some ⟨X, 2, none⟩))) rfl (by kernel_rfl) (fun _ _ _ h => h) (by rfl) ?_ (SM.out _ bq0) ?_
       . (intro w hSw; obtain ⟨q0, q1, q2, q3, q4⟩ := hSw; go_simp)
       (try simp only [Act.put, zq1, zq2, zq3])
       refine till_take (i := 3) (v := (.pointer (some ⟨X, 3, none⟩))) rfl (by kernel_rfl) (fun _ _ _ h => h) (by rfl) ?_ (SM.out _ bq0) ?_
       . (intro w hSw; obtain ⟨q0, q1, q2, q3, q4⟩ := hSw; go_simp)
       (try simp only [Act.put, zq1, zq2, zq3])
       refine till_take (i := 4) (v := (.slice (some ⟨g, 0, none⟩) s.tasks.length cap)) rfl (by kernel_rfl) (fun _ _ _ h => h) (by rfl) ?_ (SM.out _ bq0) ?_
       . (intro w hSw; obtain ⟨q0, q1, q2, q3, q4⟩ := hSw; go_simp)
       (try simp only [Act.put, zq1, zq2, zq3])
       refine till_take (i := 5) (v := (.int .i64 (i : Int))) rfl (by kernel_rfl) (fun _ _ _ h => h) (by rfl) ?_ (SM.out _ bq0) ?_
       . (intro w hSw; obtain ⟨q0, q1, q2, q3, q4⟩ := hSw; go_simp)
       (try simp only [Act.put, zq1, zq2, zq3])
       refine till_take (i := 6) (v := (.pointer (some ⟨(w.heap.size + 1), 9, none⟩))) rfl (by kernel_rfl) (fun _ _ _ h => h) (by rfl) ?_ (SM.out _ bq0) ?_
       . (intro w hSw; obtain ⟨q0, q1, q2, q3, q4⟩ := hSw; go_simp)
       (try simp only [Act.put, zq1, zq2, zq3])
       refine till_take (i := 7) (v := (.slice a9 (tkN s i).reads.length c9)) rfl (by kernel_rfl) (fun _ _ _ h => h) (by rfl) ?_ (SM.out _ bq0) ?_
       . (intro w hSw; obtain ⟨q0, q1, q2, q3, q4⟩ := hSw; go_simp)
       (try simp only [Act.put, zq1, zq2, zq3])
       refine till_take (i := 8) (v := (.pointer (some ⟨w.heap.size, 2, none⟩))) rfl (by kernel_rfl) (fun _ _ _ h => h) (by rfl) ?_ (SM.out _ bq0) ?_
       . (intro w hSw; obtain ⟨q0, q1, q2, q3, q4⟩ := hSw; go_simp)
       (try simp only [Act.put, zq1, zq2, zq3])
       refine till_take (i := 9) (v := (.int .i64 (kb : Int))) rfl (by kernel_rfl) (fun _ _ _ h => h) (by rfl) ?_ (SM.out _ bq0) ?_
       . (intro w hSw; obtain ⟨q0, q1, q2, q3, q4⟩ := hSw; go_simp)
       (try simp only [Act.put, zq1, zq2, zq3])
       refine till_take (i := 10) (v := (.pointer (some ⟨X, 0, none⟩))) rfl (by kernel_rfl) (fun _ _ _ h => h) (by rfl) ?_ (SM.out _ bq0) ?_
       . (intro w hSw; obtain ⟨q0, q1, q2, q3, q4⟩ := hSw; go_simp)
       (try simp only [Act.put, zq1, zq2, zq3])
       refine till_take (i := 11) (v := (.pointer (some ⟨X, 0, none⟩))) rfl (by kernel_rfl) (fun _ _ _ h => h) (by rfl) ?_ (SM.out _ bq0) ?_
       . (intro w hSw; obtain ⟨q0, q1, q2, q3, q4⟩ := hSw; go_simp)
       (try simp only [Act.put, zq1, zq2, zq3])
       refine till_take (i := 12) (v := (.pointer (some ⟨X, 2, none⟩))) rfl (by kernel_rfl) (fun _ _ _ h => h) (by rfl) ?_ (SM.out _ bq0) ?_
       . (intro w hSw; obtain ⟨q0, q1, q2, q3, q4⟩ := hSw; go_simp)
       (try simp only [Act.put, zq1, zq2, zq3])
       refine till_take (i := 13) (v := (.pointer (some ⟨X, 2, none⟩))) rfl (by kernel_rfl) (fun _ _ _ h => h) (by rfl) ?_ (SM.out _ bq0) ?_
       . (intro w hSw; obtain ⟨q0, q1, q2, q3, q4⟩ := hSw; go_simp)
       (try simp only [Act.put, zq1, zq2, zq3])
       refine till_take (i := 14) (v := (.slice (some ⟨gc, 0, none⟩) s.cells.length kc)) rfl (by kernel_rfl) (fun _ _ _ h => h) (by rfl) ?_ (SM.out _ bq0) ?_
       . (intro w hSw; obtain ⟨q0, q1, q2, q3, q4⟩ := hSw; go_simp)
       (try simp only [Act.put, zq1, zq2, zq3])
       refine till_take (i := 15) (v := (.pointer (some ⟨w.heap.size, 2, none⟩))) rfl (by kernel_rfl) (fun _ _ _ h => h) (by rfl) ?_ (SM.out _ bq0) ?_
       . (intro w hSw; obtain ⟨q0, q1, q2, q3, q4⟩ := hSw; go_simp)
       (try simp only [Act.put, zq1, zq2, zq3])
       refine till_take (i := 16) (v := (.int .i64 (kb : Int))) rfl (by kernel_rfl) (fun _ _ _ h => h) (by rfl) ?_ (SM.out _ bq0) ?_
       . (intro w hSw; obtain ⟨q0, q1, q2, q3, q4⟩ := hSw; go_simp)
       (try simp only [Act.put, zq1, zq2, zq3])
       refine till_take (i := 17) (v := (.pointer (some ⟨gc, kb * 3, none⟩))) rfl (by kernel_rfl) (fun _ _ _ h => h) (by rfl) ?_ (SM.out _ bq0) ?_
       . (intro w hSw; obtain ⟨q0, q1, q2, q3, q4⟩ := hSw; go_simp)
       (try simp only [Act.put, zq1, zq2, zq3])
       refine till_take (i := 18) (v := (.pointer (some ⟨gc, kb * 3, none⟩))) rfl (by kernel_rfl) (fun _ _ _ h => h) (by rfl) ?_ (SM.out _ bq0) ?_
       . (intro w hSw; obtain ⟨q0, q1, q2, q3, q4⟩ := hSw; go_simp)
       (try simp only [Act.put, zq1, zq2, zq3])
       refine till_take (i := 19) (v := (.int .i64 (nth Ce.z s.cells kb).num)) rfl (by kernel_rfl) (fun _ _ _ h => h) (by rfl) ?_ (SM.out _ bq0) ?_
       . (intro w hSw; obtain ⟨q0, q1, q2, q3, q4⟩ := hSw; go_simp)
       (try simp only [Act.put, zq1, zq2, zq3])
       refine till_take (i := 20) (v := .agg #[.int .i64 (kb : Int), .int .i64 (nth Ce.z s.cells kb).num]) rfl (by kernel_rfl) (fun _ _ _ h => h) (by rfl) ?_ (SM.out _ bq0) ?_
       . (intro w hSw; obtain ⟨q0, q1, q2, q3, q4⟩ := hSw; go_simp)
       (try simp only [Act.put, zq1, zq2, zq3])
       refine till_step (i := 21) rfl (by kernel_rfl) (fun K hK => ?_)
       go_simp
       refine (l11Add_any _ (tkN s i).reads ⟨(kb : Int), (nth Ce.z s.cells kb).num⟩ _ HPD.out hrn).mono ?_
       rintro e wd ⟨ad, cd, rfl, hod, hbd⟩
       have HBD : Hid (Below w3.heap.size w3 wd) := below_then bq0 (by simp) hbd
       have HOD := (show Hid (World.ownsRow _ _ _ _ _ _ _) from hod)
       have hds := HBD.out.size
       have y9 : ∃ q, wd.cell? ⟨g, i * 13 + 9, none⟩ = some q := ⟨_, (HBD.out.cell (p := ⟨g, i * 13 + 9, none⟩) hgl3).trans G9⟩
       obtain ⟨y9, Y9⟩ := y9
       have yz : ∀ o, wd.frozen? ⟨g, o, none⟩ = false := fun o => by rw [HBD.out.frozen (p := ⟨g, o, none⟩) hgl3]; exact GZ.out o
       have hgd : g < wd.heap.size := by omega
       clear hod hbd
       refine hK.out _ _ (fun _ => SM.out _ HBD.out) ?_
       clear hK
       (try simp only [Act.put, zq1, zq2, zq3])
       refine till_take (i := 22) (v := (.pointer (some ⟨g, i * 13, none⟩))) rfl (by kernel_rfl) (fun _ _ _ h => h) (by rfl) ?_ (SM.out _ HBD.out) ?_
       . (intro w hSw; obtain ⟨q0, q1, q2, q3, q4⟩ := hSw; go_simp)
       (try simp only [Act.put, zq1, zq2, zq3])
       refine till_take (i := 23) (v := (.pointer (some ⟨g, i * 13 + 9, none⟩))) rfl (by kernel_rfl) (fun _ _ _ h => h) (by rfl) ?_ (SM.out _ HBD.out) ?_
       . (intro w hSw; obtain ⟨q0, q1, q2, q3, q4⟩ := hSw; go_simp)
       (try simp only [Act.put, zq1, zq2, zq3])
       refine till_step (i := 24) rfl (by kernel_rfl) (fun K hK => ?_)
       go_simp
       refine hK.out _ _ (fun h => absurd rfl h) ?_
       clear hK
       refine till_done (by kernel_rfl) ?_ _
       have A5 := HA3.out.nd HBD.out SM0.out.1 (by rw [setTk_len]; exact hi) HOD.out
       rw [setTk_two, tkN_same hi] at A5
       have F5 : Hid (FrS (SX X B) w (wd.setCell ⟨g, i * 13 + 9, none⟩ (.slice ad (addP (tkN s i).reads ⟨(kb : Int), (nth Ce.z s.cells kb).num⟩).length cd))) := (F3.out.trans (.of_below HBD.out)).setCell (Or.inr hgB) _
       have b6 : (wd.setCell ⟨g, i * 13 + 9, none⟩ (.slice ad (addP (tkN s i).reads ⟨(kb : Int), (nth Ce.z s.cells kb).num⟩).length cd)).cell? ⟨w.heap.size + 1, 6, none⟩ = some (.int .i64 (tkN s i).at_) := (cell_set_blk _ _ _ _ _ _ (by omega)).trans ((HBD.out.cell (p := ⟨w.heap.size + 1, 6, none⟩) zs3).trans K6)
       have hbl : w.heap.size + 1 < (wd.setCell ⟨g, i * 13 + 9, none⟩ (.slice ad (addP (tkN s i).reads ⟨(kb : Int), (nth Ce.z s.cells kb).num⟩).length cd)).heap.size := by simp; omega
       have hi5 : i < (setTk s i { tkN s i with regs := (tkN s i).regs.set ka (nth Ce.z s.cells kb).num, reads := addP (tkN s i).reads ⟨(kb : Int), (nth Ce.z s.cells kb).num⟩ }).tasks.length := by rw [setTk_len]; exact hi
       have HG5 : Hid (loadS s i ⟨dk, (ka : Int), (kb : Int)⟩ = setTk (setTk s i { tkN s i with regs := (tkN s i).regs.set ka (nth Ce.z s.cells kb).num, reads := addP (tkN s i).reads ⟨(kb : Int), (nth Ce.z s.cells kb).num⟩ }) i { tkN (setTk s i { tkN s i with regs := (tkN s i).regs.set ka (nth Ce.z s.cells kb).num, reads := addP (tkN s i).reads ⟨(kb : Int), (nth Ce.z s.cells kb).num⟩ }) i with at_ := (tkN s i).at_ + 1 }) := by
         unfold Hid; rw [HG.out, setTk_two, tkN_same hi]
       clear SM SM0 G9 K6 GZ HPD HBD HOD Y9 yz hgd hds hgl3 hXl3 zs3 HA3 F3 HG HTI HK HS hgl hXl hXg hB hX hgB brl brB hbrg hXbr hi'
       revert A5 F5 b6 hbl hi5 HG5
       generalize wd.setCell ⟨g, i * 13 + 9, none⟩ (.slice ad (addP (tkN s i).reads ⟨(kb : Int), (nth Ce.z s.cells kb).num⟩).length cd) = w5
       generalize setTk s i { tkN s i with regs := (tkN s i).regs.set ka (nth Ce.z s.cells kb).num, reads := addP (tkN s i).reads ⟨(kb : Int), (nth Ce.z s.cells kb).num⟩ } = s5
       intro A5 F5 b6 hbl hi5 HG5
       obtain ⟨fq, cvq, gq, capq, lvq, Tq, Lq, Vq, h1, h2, h3, h4q, h5q, h6q, h7, h8, h9⟩ := A5.tk hi5
       obtain ⟨a3q, c3q, a8q, c8q, a9q, c9q, a10q, c10q, rfl⟩ := h7.ti.shapes
       obtain ⟨t0q, t1q, t2q, t3q, t4q, t5q, t6q, t7q, t8q, t9q, t10q, t11q, t12q⟩ := h7.cells
       simp only at t3q t8q t9q t10q
       have tzq := h7.fz
       have hi'q : (i : Int) < (s5.tasks.length : Int) := by omega
       have hXq := A5.lt
       have hBq := A5.le
       have hgBq := h7.ge
       have hglq := h7.lt
       have hXlq : X < w5.heap.size := by omega
       have hXgq : X ≠ gq := by omega
       have HTIq := (show Hid (TIn _ _ _ _ _) from h7.ti)
       have HKq := (show Hid (fq gq = .t /\ ∀ b, cvq.ownBlock = some b -> fq b = .c) from ⟨h7.key, h1.c.2⟩)
       have HSq := (show Hid (SW _ _ _ _ _ _ _) from A5)
       clear h1 h2 h3 h7 h8 h9 A5
       clear t0q t1q t2q t3q t4q t5q t7q t8q t9q t10q t11q t12q
       go_wp2_with fail
       go_region
       all_goals
         go_wp2_with fail
         go_end0
         refine ⟨rfl, ?_, (F5.out.setCell (Or.inr hgBq) _).drew⟩
         rw [HG5.out]
         exact (HSq.out.scs [(6, (tkN s i).at_ + 1)] rfl h5q hi5).drew
   . have HG : Hid (loadS s i ⟨dk, (ka : Int), (kb : Int)⟩ = againS s i) := by unfold Hid; rw [HF.out, hbl]; rfl
     clear hbl HF hb1
     go_wp2_with fail
     refine (again_any X B pc pb p s i _ HS1.out hi hn HOLD.out).mono ?_
     rintro e w2 ⟨rfl, hs2, hf2⟩
     have HS2 := (show Hid (SW _ _ _ _ _ _ _) from hs2)
     have HF2 : Hid (FrS (SX X B) w w2) := HF1.out.trans hf2
     clear hs2 hf2
     go_wp2_with fail
     ((try simp only [Exit.inBlock, Exit.then]); refine bodyPost_ret (results_none rfl _ _ _) rfl ?_)
     exact ⟨rfl, by rw [HG.out]; exact HS2.out, HF2.out⟩
end Go.Proofs.Ytgbgjljflgbcaaa
