import Derived.Test.YtnbgonmdjgapnaaBase13
namespace Go.Proofs.Ytnbgonmdjgapnaa
open Go.RowKit
set_option linter.unusedSimpArgs false
set_option linter.unusedVariables false
set_option maxRecDepth 20000
theorem cells_new (w : World) (M : List Value) (t : TypeId) : ∀ j u, M[j]? = some u → (w.alloc (.cells M.toArray t)).cell? ((⟨w.heap.size, 0, none⟩ : Addr).add j) = some u := fun j u hu => by
  rw [Go.WideShapes.add_plain, Nat.zero_add]
  simpa using hu
theorem grown_from {w w' : World} {o : Obj} {row : Option Nat} (h : (w.alloc o).grownBy w' row) : w.grownBy w' row :=
  ⟨h.os, h.tape, h.output, Nat.le_trans (by simp) h.size, fun k hk hr => (h.block k (by simp; omega) hr).trans (((Below.refl w.heap.size w).alloc (Nat.le_refl _) o).block k hk)⟩
set_option maxHeartbeats 8000000 in
theorem end_any (X B : Nat) (pc pb : Value) (p : Pr) (s : Sy) (i : Nat) (when_ : Int) (w : World) (h : SW X B w pc pb p s) (hi : i < s.tasks.length) (hpc : 0 ≤ (tkN s i).pc ∧ (tkN s i).pc ≤ 100) (hrn : (tkN s i).reads.length ≤ 1048576) (hun : (tkN s i).puts.length ≤ 1048576) (hln : s.log.length ≤ 1048576) :
    Calls Try.prog 203 #[.pointer (some ⟨X, 0, none⟩), .int .i64 (i : Int), .int .i64 when_] w fun r w' => r = .returned (.tuple #[]) ∧ SW X B w' pc pb p (endS s i when_) ∧ FrS (SX X B) w w' := by
  obtain ⟨f, cv, g, cap, lv, T, L, V, h1, h2, h3, h4, h5, h6, h7, h8, h9⟩ := h.tk hi
  obtain ⟨a3, c3, a8, c8, a9, c9, a10, c10, rfl⟩ := h7.ti.shapes
  obtain ⟨t0, t1, t2, t3, t4, t5, t6, t7, t8, t9, t10, t11, t12⟩ := h7.cells
  simp only at t3 t8 t9 t10
  obtain ⟨al, cl, el, _⟩ := own_shape h1.l.1
  have hLl : L.length = s.log.length := by rw [← h3]; simp
  rw [hLl] at el
  subst el
  have tz := h7.fz
  have hi' : (i : Int) < (s.tasks.length : Int) := by omega
  have hX := h.lt
  have hB := h.le
  have hgB := h7.ge
  have hgl := h7.lt
  have hXl : X < w.heap.size := by omega
  have hXg : X ≠ g := by omega
  obtain ⟨i0, hi0, hz0, hz1, hz2⟩ := info_parts (P := Try.prog) (e := 56) (z := .agg #[.int .i64 0, .int .i64 0, .int .i64 0, .slice none 0 0, .slice none 0 0, .int .i64 0]) (size := 6) (bytes := 80) (by kernel_rfl)
  have HOL := (show Hid (OwnSy _ _ _ _ _ _ _ _ _) from h1)
  have HLL := (show Hid (_ = _) from hLl)
  have HT2 := (show Hid (_ = _) from h2)
  have HL3 := (show Hid (_ = _) from h3)
  have HS := (show Hid (SW _ _ _ _ _ _ _) from h)
  have HPD : Hid (∀ W, Below (w.alloc (.cells #[.int .i64 (tkN s i).body, .int .i64 (tkN s i).pc, .int .i64 (tkN s i).up, .slice a3 (tkN s i).regs.length c3, .int .i64 (tkN s i).way, .int .i64 (tkN s i).stage, .int .i64 (tkN s i).at_, .int .i64 (tkN s i).since, .slice a8 (tkN s i).old.length c8, .slice a9 (tkN s i).reads.length c9, .slice a10 (tkN s i).puts.length c10, .int .i64 (tkN s i).when_, .int .i64 (tkN s i).from_] 64)).heap.size (w.alloc (.cells #[.int .i64 (tkN s i).body, .int .i64 (tkN s i).pc, .int .i64 (tkN s i).up, .slice a3 (tkN s i).regs.length c3, .int .i64 (tkN s i).way, .int .i64 (tkN s i).stage, .int .i64 (tkN s i).at_, .int .i64 (tkN s i).since, .slice a8 (tkN s i).old.length c8, .slice a9 (tkN s i).reads.length c9, .slice a10 (tkN s i).puts.length c10, .int .i64 (tkN s i).when_, .int .i64 (tkN s i).from_] 64)) W → PusAt W (.slice a9 (tkN s i).reads.length c9) (tkN s i).reads) := fun W hb => (pR_at h7.ti.d).mono (((Below.refl _ _).alloc (Nat.le_refl _) _).trans (hb.mono (by simp)))
  have HPU : Hid (∀ W, Below (w.alloc (.cells #[.int .i64 (tkN s i).body, .int .i64 (tkN s i).pc, .int .i64 (tkN s i).up, .slice a3 (tkN s i).regs.length c3, .int .i64 (tkN s i).way, .int .i64 (tkN s i).stage, .int .i64 (tkN s i).at_, .int .i64 (tkN s i).since, .slice a8 (tkN s i).old.length c8, .slice a9 (tkN s i).reads.length c9, .slice a10 (tkN s i).puts.length c10, .int .i64 (tkN s i).when_, .int .i64 (tkN s i).from_] 64)).heap.size (w.alloc (.cells #[.int .i64 (tkN s i).body, .int .i64 (tkN s i).pc, .int .i64 (tkN s i).up, .slice a3 (tkN s i).regs.length c3, .int .i64 (tkN s i).way, .int .i64 (tkN s i).stage, .int .i64 (tkN s i).at_, .int .i64 (tkN s i).since, .slice a8 (tkN s i).old.length c8, .slice a9 (tkN s i).reads.length c9, .slice a10 (tkN s i).puts.length c10, .int .i64 (tkN s i).when_, .int .i64 (tkN s i).from_] 64)) W → PusAt W (.slice a10 (tkN s i).puts.length c10) (tkN s i).puts) := fun W hb => (pR_at h7.ti.u).mono (((Below.refl _ _).alloc (Nat.le_refl _) _).trans (hb.mono (by simp)))
  have SM : Hid (∀ W : World, (∀ b, b < (w.alloc (.cells #[.int .i64 (tkN s i).body, .int .i64 (tkN s i).pc, .int .i64 (tkN s i).up, .slice a3 (tkN s i).regs.length c3, .int .i64 (tkN s i).way, .int .i64 (tkN s i).stage, .int .i64 (tkN s i).at_, .int .i64 (tkN s i).since, .slice a8 (tkN s i).old.length c8, .slice a9 (tkN s i).reads.length c9, .slice a10 (tkN s i).puts.length c10, .int .i64 (tkN s i).when_, .int .i64 (tkN s i).from_] 64)).heap.size → (Value.slice al s.log.length cl).ownBlock ≠ some b → W.heap[b]? = (w.alloc (.cells #[.int .i64 (tkN s i).body, .int .i64 (tkN s i).pc, .int .i64 (tkN s i).up, .slice a3 (tkN s i).regs.length c3, .int .i64 (tkN s i).way, .int .i64 (tkN s i).stage, .int .i64 (tkN s i).at_, .int .i64 (tkN s i).since, .slice a8 (tkN s i).old.length c8, .slice a9 (tkN s i).reads.length c9, .slice a10 (tkN s i).puts.length c10, .int .i64 (tkN s i).when_, .int .i64 (tkN s i).from_] 64)).heap[b]?) → W.cell? ⟨X, 5, none⟩ = some (.slice al s.log.length cl) ∧ W.cell? ⟨w.heap.size, 1, none⟩ = some (.int .i64 (tkN s i).pc) ∧ W.cell? ⟨w.heap.size, 9, none⟩ = some (.slice a9 (tkN s i).reads.length c9) ∧ W.cell? ⟨w.heap.size, 10, none⟩ = some (.slice a10 (tkN s i).puts.length c10) ∧ W.cell? ⟨w.heap.size, 12, none⟩ = some (.int .i64 (tkN s i).from_)) := fun W hb => by
    have c1 : ∀ o, W.cell? ⟨X, o, none⟩ = w.cell? ⟨X, o, none⟩ := fun o => (World.cell?_of_block (hb X (by simp; omega) (fun e => by have h1 := HOL.out.l.1.lt X e; omega))).trans (by simp [go_sem, hXl])
    have c2 : ∀ o, W.cell? ⟨w.heap.size, o, none⟩ = (w.alloc (.cells #[.int .i64 (tkN s i).body, .int .i64 (tkN s i).pc, .int .i64 (tkN s i).up, .slice a3 (tkN s i).regs.length c3, .int .i64 (tkN s i).way, .int .i64 (tkN s i).stage, .int .i64 (tkN s i).at_, .int .i64 (tkN s i).since, .slice a8 (tkN s i).old.length c8, .slice a9 (tkN s i).reads.length c9, .slice a10 (tkN s i).puts.length c10, .int .i64 (tkN s i).when_, .int .i64 (tkN s i).from_] 64)).cell? ⟨w.heap.size, o, none⟩ := fun o => World.cell?_of_block (hb w.heap.size (by simp) (fun e => by have h1 := HOL.out.l.1.lt w.heap.size e; omega))
    rw [c1, c2, c2, c2, c2]
    exact ⟨h6, by simp, by simp, by simp, by simp⟩
  clear h1 h2 h3 h7 h8 h9 h hLl
  go_enter Try.func203, Try.ntmps203
  go_wp2_with fail
  refine till_begin (S := fun w' => w'.cell? ⟨X, 5, none⟩ = some (.slice al s.log.length cl) ∧ w'.cell? ⟨w.heap.size, 1, none⟩ = some (.int .i64 (tkN s i).pc) ∧ w'.cell? ⟨w.heap.size, 9, none⟩ = some (.slice a9 (tkN s i).reads.length c9) ∧ w'.cell? ⟨w.heap.size, 10, none⟩ = some (.slice a10 (tkN s i).puts.length c10) ∧ w'.cell? ⟨w.heap.size, 12, none⟩ = some (.int .i64 (tkN s i).from_)) (z := 24) (by kernel_rfl) ?_
  refine till_take (i := 0) (v := (.pointer (some ⟨X, 0, none⟩))) rfl (by kernel_rfl) (fun _ _ _ h => h) (by rfl) ?_ (SM.out _ (fun b hb _ => rfl)) ?_
  · (intro w hSw; obtain ⟨q0, q1, q2, q3, q4⟩ := hSw; go_simp)
  (try simp only [Act.put, List.setIfInBounds_toArray, List.set_cons_zero, List.set_cons_succ])
  refine till_take (i := 1) (v := (.pointer (some ⟨X, 0, none⟩))) rfl (by kernel_rfl) (fun _ _ _ h => h) (by rfl) ?_ (SM.out _ (fun b hb _ => rfl)) ?_
  · (intro w hSw; obtain ⟨q0, q1, q2, q3, q4⟩ := hSw; go_simp)
  (try simp only [Act.put, List.setIfInBounds_toArray, List.set_cons_zero, List.set_cons_succ])
  refine till_take (i := 2) (v := (.pointer (some ⟨X, 0, none⟩))) rfl (by kernel_rfl) (fun _ _ _ h => h) (by rfl) ?_ (SM.out _ (fun b hb _ => rfl)) ?_
  · (intro w hSw; obtain ⟨q0, q1, q2, q3, q4⟩ := hSw; go_simp)
  (try simp only [Act.put, List.setIfInBounds_toArray, List.set_cons_zero, List.set_cons_succ])
  refine till_take (i := 3) (v := (.pointer (some ⟨X, 2, none⟩))) rfl (by kernel_rfl) (fun _ _ _ h => h) (by rfl) ?_ (SM.out _ (fun b hb _ => rfl)) ?_
  · (intro w hSw; obtain ⟨q0, q1, q2, q3, q4⟩ := hSw; go_simp)
  (try simp only [Act.put, List.setIfInBounds_toArray, List.set_cons_zero, List.set_cons_succ])
  refine till_take (i := 4) (v := (.pointer (some ⟨X, 5, none⟩))) rfl (by kernel_rfl) (fun _ _ _ h => h) (by rfl) ?_ (SM.out _ (fun b hb _ => rfl)) ?_
  · (intro w hSw; obtain ⟨q0, q1, q2, q3, q4⟩ := hSw; go_simp)
  (try simp only [Act.put, List.setIfInBounds_toArray, List.set_cons_zero, List.set_cons_succ])
  refine till_take (i := 5) (v := (.slice al s.log.length cl)) rfl (by kernel_rfl) (fun _ _ _ h => h) (by rfl) ?_ (SM.out _ (fun b hb _ => rfl)) ?_
  · (intro w hSw; obtain ⟨q0, q1, q2, q3, q4⟩ := hSw; go_simp)
  (try simp only [Act.put, List.setIfInBounds_toArray, List.set_cons_zero, List.set_cons_succ])
  refine till_take (i := 6) (v := (.int .i64 (i : Int))) rfl (by kernel_rfl) (fun _ _ _ h => h) (by rfl) ?_ (SM.out _ (fun b hb _ => rfl)) ?_
  · (intro w hSw; obtain ⟨q0, q1, q2, q3, q4⟩ := hSw; go_simp)
  (try simp only [Act.put, List.setIfInBounds_toArray, List.set_cons_zero, List.set_cons_succ])
  refine till_take (i := 7) (v := (.pointer (some ⟨w.heap.size, 1, none⟩))) rfl (by kernel_rfl) (fun _ _ _ h => h) (by rfl) ?_ (SM.out _ (fun b hb _ => rfl)) ?_
  · (intro w hSw; obtain ⟨q0, q1, q2, q3, q4⟩ := hSw; go_simp)
  (try simp only [Act.put, List.setIfInBounds_toArray, List.set_cons_zero, List.set_cons_succ])
  refine till_take (i := 8) (v := (.int .i64 (tkN s i).pc)) rfl (by kernel_rfl) (fun _ _ _ h => h) (by rfl) ?_ (SM.out _ (fun b hb _ => rfl)) ?_
  · (intro w hSw; obtain ⟨q0, q1, q2, q3, q4⟩ := hSw; go_simp)
  (try simp only [Act.put, List.setIfInBounds_toArray, List.set_cons_zero, List.set_cons_succ])
  refine till_take (i := 9) (v := (.int .i64 when_)) rfl (by kernel_rfl) (fun _ _ _ h => h) (by rfl) ?_ (SM.out _ (fun b hb _ => rfl)) ?_
  · (intro w hSw; obtain ⟨q0, q1, q2, q3, q4⟩ := hSw; go_simp)
  (try simp only [Act.put, List.setIfInBounds_toArray, List.set_cons_zero, List.set_cons_succ])
  refine till_take (i := 10) (v := (.pointer (some ⟨w.heap.size, 9, none⟩))) rfl (by kernel_rfl) (fun _ _ _ h => h) (by rfl) ?_ (SM.out _ (fun b hb _ => rfl)) ?_
  · (intro w hSw; obtain ⟨q0, q1, q2, q3, q4⟩ := hSw; go_simp)
  (try simp only [Act.put, List.setIfInBounds_toArray, List.set_cons_zero, List.set_cons_succ])
  refine till_take (i := 11) (v := (.slice a9 (tkN s i).reads.length c9)) rfl (by kernel_rfl) (fun _ _ _ h => h) (by rfl) ?_ (SM.out _ (fun b hb _ => rfl)) ?_
  · (intro w hSw; obtain ⟨q0, q1, q2, q3, q4⟩ := hSw; go_simp)
  (try simp only [Act.put, List.setIfInBounds_toArray, List.set_cons_zero, List.set_cons_succ])
  refine till_take (i := 13) (v := (.pointer (some ⟨w.heap.size, 10, none⟩))) rfl (by kernel_rfl) (fun _ _ _ h => h) (by rfl) ?_ (SM.out _ (fun b hb _ => rfl)) ?_
  · (intro w hSw; obtain ⟨q0, q1, q2, q3, q4⟩ := hSw; go_simp)
  (try simp only [Act.put, List.setIfInBounds_toArray, List.set_cons_zero, List.set_cons_succ])
  refine till_take (i := 14) (v := (.slice a10 (tkN s i).puts.length c10)) rfl (by kernel_rfl) (fun _ _ _ h => h) (by rfl) ?_ (SM.out _ (fun b hb _ => rfl)) ?_
  · (intro w hSw; obtain ⟨q0, q1, q2, q3, q4⟩ := hSw; go_simp)
  (try simp only [Act.put, List.setIfInBounds_toArray, List.set_cons_zero, List.set_cons_succ])
  refine till_take (i := 16) (v := (.pointer (some ⟨w.heap.size, 12, none⟩))) rfl (by kernel_rfl) (fun _ _ _ h => h) (by rfl) ?_ (SM.out _ (fun b hb _ => rfl)) ?_
  · (intro w hSw; obtain ⟨q0, q1, q2, q3, q4⟩ := hSw; go_simp)
  (try simp only [Act.put, List.setIfInBounds_toArray, List.set_cons_zero, List.set_cons_succ])
  refine till_take (i := 17) (v := (.int .i64 (tkN s i).from_)) rfl (by kernel_rfl) (fun _ _ _ h => h) (by rfl) ?_ (SM.out _ (fun b hb _ => rfl)) ?_
  · (intro w hSw; obtain ⟨q0, q1, q2, q3, q4⟩ := hSw; go_simp)
  (try simp only [Act.put, List.setIfInBounds_toArray, List.set_cons_zero, List.set_cons_succ])
  refine till_step (i := 12) rfl (by kernel_rfl) (fun K hK => ?_)
  go_simp
  refine (l11Puts_any _ _ _ (HPD.out _ (by repeat (first | with_reducible exact Below.refl _ _ | (with_reducible refine Below.setCell ?_ ?hs _; case hs => ((try simp); try omega)) | (with_reducible refine Below.alloc ?_ ?hs _; case hs => ((try simp); try omega)) | with_reducible refine Below.drew ?_ | with_reducible refine below_drewN ?_ _))) hrn).mono ?_
  rintro e wd ⟨ad, cd, rfl, hod, hbd⟩
  have HBD : Hid (Below (w.alloc (.cells #[.int .i64 (tkN s i).body, .int .i64 (tkN s i).pc, .int .i64 (tkN s i).up, .slice a3 (tkN s i).regs.length c3, .int .i64 (tkN s i).way, .int .i64 (tkN s i).stage, .int .i64 (tkN s i).at_, .int .i64 (tkN s i).since, .slice a8 (tkN s i).old.length c8, .slice a9 (tkN s i).reads.length c9, .slice a10 (tkN s i).puts.length c10, .int .i64 (tkN s i).when_, .int .i64 (tkN s i).from_] 64)).heap.size (w.alloc (.cells #[.int .i64 (tkN s i).body, .int .i64 (tkN s i).pc, .int .i64 (tkN s i).up, .slice a3 (tkN s i).regs.length c3, .int .i64 (tkN s i).way, .int .i64 (tkN s i).stage, .int .i64 (tkN s i).at_, .int .i64 (tkN s i).since, .slice a8 (tkN s i).old.length c8, .slice a9 (tkN s i).reads.length c9, .slice a10 (tkN s i).puts.length c10, .int .i64 (tkN s i).when_, .int .i64 (tkN s i).from_] 64)) wd) := below_then (by repeat (first | with_reducible exact Below.refl _ _ | (with_reducible refine Below.setCell ?_ ?hs _; case hs => ((try simp); try omega)) | (with_reducible refine Below.alloc ?_ ?hs _; case hs => ((try simp); try omega)) | with_reducible refine Below.drew ?_ | with_reducible refine below_drewN ?_ _)) (by simp) hbd
  have HOD := (show Hid (World.ownsRow _ _ _ _ _ _ _) from hod)
  clear hod hbd
  refine hK.out _ _ (fun _ => SM.out _ (fun b hb _ => HBD.out.block b hb)) ?_
  clear hK
  (try simp only [Act.put, List.setIfInBounds_toArray, List.set_cons_zero, List.set_cons_succ])
  refine till_step (i := 15) rfl (by kernel_rfl) (fun K hK => ?_)
  go_simp
  refine (l11Puts_any _ _ _ (HPU.out _ HBD.out) hun).mono ?_
  rintro e wu ⟨au, cu, rfl, hou, hbu⟩
  have HBU : Hid (Below (w.alloc (.cells #[.int .i64 (tkN s i).body, .int .i64 (tkN s i).pc, .int .i64 (tkN s i).up, .slice a3 (tkN s i).regs.length c3, .int .i64 (tkN s i).way, .int .i64 (tkN s i).stage, .int .i64 (tkN s i).at_, .int .i64 (tkN s i).since, .slice a8 (tkN s i).old.length c8, .slice a9 (tkN s i).reads.length c9, .slice a10 (tkN s i).puts.length c10, .int .i64 (tkN s i).when_, .int .i64 (tkN s i).from_] 64)).heap.size (w.alloc (.cells #[.int .i64 (tkN s i).body, .int .i64 (tkN s i).pc, .int .i64 (tkN s i).up, .slice a3 (tkN s i).regs.length c3, .int .i64 (tkN s i).way, .int .i64 (tkN s i).stage, .int .i64 (tkN s i).at_, .int .i64 (tkN s i).since, .slice a8 (tkN s i).old.length c8, .slice a9 (tkN s i).reads.length c9, .slice a10 (tkN s i).puts.length c10, .int .i64 (tkN s i).when_, .int .i64 (tkN s i).from_] 64)) wu) := below_then HBD.out HBD.out.size hbu
  have HOU := (show Hid (World.ownsRow _ _ _ _ _ _ _) from hou)
  have HOD2 : Hid (World.ownsRow wu _ _ _ _ _ _) := row_heap HOD.out (fun b hb => hbu.block b (HOD.out.lt b hb).2)
  have hdu := hbu.size
  clear hou hbu
  refine hK.out _ _ (fun _ => SM.out _ (fun b hb _ => HBU.out.block b hb)) ?_
  clear hK
  (try simp only [Act.put, List.setIfInBounds_toArray, List.set_cons_zero, List.set_cons_succ])
  refine till_take (i := 18) (v := .agg #[.int .i64 (i : Int), .int .i64 (tkN s i).pc, .int .i64 when_, .slice ad (tkN s i).reads.length cd, .slice au (tkN s i).puts.length cu, .int .i64 (tkN s i).from_]) rfl (by kernel_rfl) (fun _ _ _ h => h) (by rfl) ?_ (SM.out _ (fun b hb _ => HBU.out.block b hb)) ?_
  · (intro w hSw; obtain ⟨q0, q1, q2, q3, q4⟩ := hSw; go_simp)
  (try simp only [Act.put, List.setIfInBounds_toArray, List.set_cons_zero, List.set_cons_succ])
  refine till_step (i := 19) rfl (by kernel_rfl) (fun K hK => ?_)
  go_simp
  refine hK.out _ _ (fun _ => SM.out _ (fun b hb _ => (HBU.out.alloc HBU.out.size _).block b hb)) ?_
  clear hK
  (try simp only [Act.put, List.setIfInBounds_toArray, List.set_cons_zero, List.set_cons_succ])
  refine till_step (i := 20) rfl (by kernel_rfl) (fun K hK => ?_)
  have HLW : World.ownsRow (wu.alloc (.cells #[.int .i64 (i : Int), .int .i64 (tkN s i).pc, .int .i64 when_, .slice ad (tkN s i).reads.length cd, .slice au (tkN s i).puts.length cu, .int .i64 (tkN s i).from_] 56)) B 56 6 (.slice al s.log.length cl) s.log.length (L.flatMap enC) := by
    have h1 := HOL.out.l.1
    rw [HLL.out] at h1
    exact row_heap h1 (fun b hb => ((HBU.out.alloc HBU.out.size _).block b (by have := (h1.lt b hb).2; simp; omega)).trans (((Below.refl w.heap.size w).alloc (Nat.le_refl _) _).block b (h1.lt b hb).2))
  refine step_append_lies _ (by rfl) _ _ 30 (by rfl) B 56 i0 (.agg #[.int .i64 0, .int .i64 0, .int .i64 0, .slice none 0 0, .slice none 0 0, .int .i64 0]) 6 80 Try.underlying30 hi0 hz0 hz1 hz2 rfl (by omega) _ s.log.length (L.flatMap enC) (by rfl) HLW ⟨wu.heap.size, 0, none⟩ 1 1 [.int .i64 (i : Int), .int .i64 (tkN s i).pc, .int .i64 when_, .slice ad (tkN s i).reads.length cd, .slice au (tkN s i).puts.length cu, .int .i64 (tkN s i).from_] (by rfl) rfl (cells_new wu [.int .i64 (i : Int), .int .i64 (tkN s i).pc, .int .i64 when_, .slice ad (tkN s i).reads.length cd, .slice au (tkN s i).puts.length cu, .int .i64 (tkN s i).from_] _) (by intro u hu; simp at hu; rcases hu with rfl | rfl | rfl | rfl | rfl | rfl <;> rfl) (by omega) (by unfold maxLen; omega) (by omega) (by have := HBU.out.size; simp at this ⊢; omega) _ (by rfl) ?_
  intro g3 cap3 w3 hown3 hgrow hat3 hlt3
  clear HLW
  have HO3 := (show Hid (World.ownsRow _ _ _ _ _ _ _) from hown3)
  have HG3 := (show Hid (World.grownBy _ _ _) from hgrow)
  have HA3 := (show Hid (_ ∨ _) from hat3)
  have hnl : ∀ b, b < (w.alloc (.cells #[.int .i64 (tkN s i).body, .int .i64 (tkN s i).pc, .int .i64 (tkN s i).up, .slice a3 (tkN s i).regs.length c3, .int .i64 (tkN s i).way, .int .i64 (tkN s i).stage, .int .i64 (tkN s i).at_, .int .i64 (tkN s i).since, .slice a8 (tkN s i).old.length c8, .slice a9 (tkN s i).reads.length c9, .slice a10 (tkN s i).puts.length c10, .int .i64 (tkN s i).when_, .int .i64 (tkN s i).from_] 64)).heap.size → (Value.slice al s.log.length cl).ownBlock ≠ some b → w3.heap[b]? = (w.alloc (.cells #[.int .i64 (tkN s i).body, .int .i64 (tkN s i).pc, .int .i64 (tkN s i).up, .slice a3 (tkN s i).regs.length c3, .int .i64 (tkN s i).way, .int .i64 (tkN s i).stage, .int .i64 (tkN s i).at_, .int .i64 (tkN s i).since, .slice a8 (tkN s i).old.length c8, .slice a9 (tkN s i).reads.length c9, .slice a10 (tkN s i).puts.length c10, .int .i64 (tkN s i).when_, .int .i64 (tkN s i).from_] 64)).heap[b]? := fun b hb hne => (HG3.out.block b (Nat.lt_of_lt_of_le hb (HBU.out.alloc HBU.out.size _).size) (fun e => hne e.symm)).trans ((HBU.out.alloc HBU.out.size _).block b hb)
  have hXn : (Value.slice al s.log.length cl).ownBlock ≠ some X := fun e => by have h1 := HOL.out.l.1.lt X e; omega
  have X5 : ∃ q, w3.cell? ⟨X, 5, none⟩ = some q := ⟨_, (World.cell?_of_block (hnl X (by simp; omega) hXn)).trans (by simpa [go_sem, hXl] using h6)⟩
  have XZ : ∀ o, w3.frozen? ⟨X, o, none⟩ = false := fun o => by
    rw [World.frozen?_of_block (hnl X (by simp; omega) hXn), ((Below.refl w.heap.size w).alloc (Nat.le_refl _) _).frozen (p := ⟨X, o, none⟩) hXl]
    exact HS.out.fz o
  have HNL := (show Hid (∀ b, _) from hnl)
  clear hnl hXn
  obtain ⟨x5, X5⟩ := X5
  clear hown3 hgrow hat3
  refine hK.out _ _ (fun _ => SM.out _ HNL.out) ?_
  clear hK
  (try simp only [Act.put, List.setIfInBounds_toArray, List.set_cons_zero, List.set_cons_succ])
  refine till_take (i := 21) (v := (.pointer (some ⟨X, 0, none⟩))) rfl (by kernel_rfl) (fun _ _ _ h => h) (by rfl) ?_ (SM.out _ HNL.out) ?_
  · (intro w hSw; obtain ⟨q0, q1, q2, q3, q4⟩ := hSw; go_simp)
  (try simp only [Act.put, List.setIfInBounds_toArray, List.set_cons_zero, List.set_cons_succ])
  refine till_take (i := 22) (v := (.pointer (some ⟨X, 2, none⟩))) rfl (by kernel_rfl) (fun _ _ _ h => h) (by rfl) ?_ (SM.out _ HNL.out) ?_
  · (intro w hSw; obtain ⟨q0, q1, q2, q3, q4⟩ := hSw; go_simp)
  (try simp only [Act.put, List.setIfInBounds_toArray, List.set_cons_zero, List.set_cons_succ])
  refine till_take (i := 23) (v := (.pointer (some ⟨X, 5, none⟩))) rfl (by kernel_rfl) (fun _ _ _ h => h) (by rfl) ?_ (SM.out _ HNL.out) ?_
  · (intro w hSw; obtain ⟨q0, q1, q2, q3, q4⟩ := hSw; go_simp)
  (try simp only [Act.put, List.setIfInBounds_toArray, List.set_cons_zero, List.set_cons_succ])
  refine till_step (i := 24) rfl (by kernel_rfl) (fun K hK => ?_)
  go_simp
  refine hK.out _ _ (fun h => absurd rfl h) ?_
  clear hK
  refine till_done (by kernel_rfl) ?_ _
  have A1 := SW.logA HS.out (((Below.refl _ _).alloc (Nat.le_refl _) ((.cells #[.int .i64 (tkN s i).body, .int .i64 (tkN s i).pc, .int .i64 (tkN s i).up, .slice a3 (tkN s i).regs.length c3, .int .i64 (tkN s i).way, .int .i64 (tkN s i).stage, .int .i64 (tkN s i).at_, .int .i64 (tkN s i).since, .slice a8 (tkN s i).old.length c8, .slice a9 (tkN s i).reads.length c9, .slice a10 (tkN s i).puts.length c10, .int .i64 (tkN s i).when_, .int .i64 (tkN s i).from_] 64))).trans (HBU.out.mono (by simp))) HOL.out HT2.out HL3.out h4 h5 (e := endE (tkN s i) i when_) (m := wd.heap.size) (own_base HOD2.out (by simp)) (own_base HOU.out (by have := HBD.out.size; simp at this; omega)) (fun b hb => (HOD.out.lt b hb).2) (fun b hb => (HOU.out.lt b hb).1) (w2 := w3) (lv' := .slice (some ⟨g3, 0, none⟩) (s.log.length + 1) cap3) (by rw [HLL.out]; exact HO3.out) (grown_from HG3.out) (fun b hb => by
    rcases HA3.out with e | e
    · left; rw [e]; exact hb
    · right; injection hb with hb; rw [← hb, e]; show wu.heap.size ≤ _; simp)
  have F1 : FrS (SX X B) w (w3.setCell ⟨X, 5, none⟩ (.slice (some ⟨g3, 0, none⟩) (s.log.length + 1) cap3)) := by
    refine FrS.setCell ?_ (Or.inl rfl) _
    refine ((FrS.of_below ((Below.refl _ _).alloc (Nat.le_refl _) ((.cells #[.int .i64 (tkN s i).body, .int .i64 (tkN s i).pc, .int .i64 (tkN s i).up, .slice a3 (tkN s i).regs.length c3, .int .i64 (tkN s i).way, .int .i64 (tkN s i).stage, .int .i64 (tkN s i).at_, .int .i64 (tkN s i).since, .slice a8 (tkN s i).old.length c8, .slice a9 (tkN s i).reads.length c9, .slice a10 (tkN s i).puts.length c10, .int .i64 (tkN s i).when_, .int .i64 (tkN s i).from_] 64)))).trans ((FrS.of_below HBU.out).alloc _)).trans ⟨HG3.out.os, HG3.out.tape, HG3.out.output, HG3.out.size, fun k hk hS => HG3.out.block k hk (fun e => ?_)⟩
    have := HOL.out.l.1.lt k e.symm
    exact hS (Or.inr this.1)
  have b1 : (w3.setCell ⟨X, 5, none⟩ (.slice (some ⟨g3, 0, none⟩) (s.log.length + 1) cap3)).cell? ⟨w.heap.size, 1, none⟩ = some (.int .i64 (tkN s i).pc) := by
    rw [cell_set_blk _ _ _ _ _ _ (by omega)]; exact (SM.out _ HNL.out).2.1
  have bl : w.heap.size < (w3.setCell ⟨X, 5, none⟩ (.slice (some ⟨g3, 0, none⟩) (s.log.length + 1) cap3)).heap.size := by have := HG3.out.size; have := HBU.out.size; simp at *; omega
  have hi4 : i < ({ s with log := s.log ++ [endE (tkN s i) i when_] } : Sy).tasks.length := hi
  have HA4 : Hid (endS s i when_ = setTk { s with log := s.log ++ [endE (tkN s i) i when_] } i { tkN { s with log := s.log ++ [endE (tkN s i) i when_] } i with pc := (tkN s i).pc + 1, reads := [], puts := [], since := 0, when_ := 0, from_ := 0, stage := 0, at_ := 0 }) := rfl
  have hwr : IntKind.i64.wrap ((tkN s i).pc + 1) = (tkN s i).pc + 1 := by rw [IntKind.wrap_i64]; omega
  clear t0 t1 t2 t3 t4 t5 t6 t7 t8 t9 t10 t11 t12 tz h4 h5 h6 hi' hgB hgl hXl hXg hX hB HS SM HPD HPU HOL HLL HT2 HL3 HBD HOD HBU HOU HOD2 hdu HO3 HG3 HA3 X5 XZ HNL hlt3 hpc
  revert A1 F1 hi4 HA4 b1 bl
  generalize w3.setCell ⟨X, 5, none⟩ (.slice (some ⟨g3, 0, none⟩) (s.log.length + 1) cap3) = w4
  generalize ({ s with log := s.log ++ [endE (tkN s i) i when_] } : Sy) = s4
  intro A1 F1 b1 bl hi4 HA4
  obtain ⟨fq, cvq, gq, capq, lvq, Tq, Lq, Vq, h1, h2, h3, h4q, h5q, h6q, h7, h8, h9⟩ := A1.tk hi4
  obtain ⟨a3q, c3q, a8q, c8q, a9q, c9q, a10q, c10q, rfl⟩ := h7.ti.shapes
  obtain ⟨t0q, t1q, t2q, t3q, t4q, t5q, t6q, t7q, t8q, t9q, t10q, t11q, t12q⟩ := h7.cells
  simp only at t3q t8q t9q t10q
  have tzq := h7.fz
  have hi'q : (i : Int) < (s4.tasks.length : Int) := by omega
  have hXq := A1.lt
  have hBq := A1.le
  have hgBq := h7.ge
  have hglq := h7.lt
  have hXlq : X < w4.heap.size := by omega
  have hXgq : X ≠ gq := by omega
  have HTIq := (show Hid (TIn _ _ _ _ _) from h7.ti)
  have HKq := (show Hid (fq gq = .t ∧ ∀ b, cvq.ownBlock = some b → fq b = .c) from ⟨h7.key, h1.c.2⟩)
  have HSq := (show Hid (SW _ _ _ _ _ _ _) from A1)
  clear h1 h2 h3 h7 h8 h9 A1
  clear t0q t2q t3q t4q t8q
  have HF1 := (show Hid (FrS _ _ _) from F1)
  clear F1
  go_wp2_with fail
  go_region
  all_goals
    go_wp2_with fail
    have A1' := HSq.out.scs [(1, (tkN s i).pc + 1)] rfl h5q hi4
    have G1 := HSq.out.set3 (o := i * 13 + 1) (v := .int .i64 ((tkN s i).pc + 1)) h5q hi4
    have l1 : i < (setTk s4 i (scsT [(1, (tkN s i).pc + 1)] (tkN s4 i))).tasks.length := by rw [setTk_len]; exact hi4
    have A2 := A1'.nd ((Below.refl _ _).alloc (Nat.le_refl _) (.cells #[] 53)) G1 l1 (xs := []) (own_new _ _ 2 (by omega))
    have G2 := (A1'.alloc (.cells #[] 53)).set3 (o := i * 13 + 9) (v := .slice (some ⟨w4.heap.size, 0, none⟩) 0 0) (A1'.alloc3 G1 _) l1
    have A3 := A2.nu ((Below.refl _ _).alloc (Nat.le_refl _) (.cells #[] 53)) (by simpa [scsW] using G2) (by rw [setTk_len]; exact l1) (xs := []) (own_new _ _ 2 (by omega))
    have G3 := (A2.alloc (.cells #[] 53)).set3 (o := i * 13 + 10) (v := .slice (some ⟨w4.heap.size + 1, 0, none⟩) 0 0) (A2.alloc3 (by simpa [scsW] using G2) _) (by rw [setTk_len]; exact l1)
    have A4 : SW X B (((((((((w4.setCell ⟨gq, i * 13 + 1, none⟩ (.int .i64 ((tkN s i).pc + 1))).setCell ⟨gq, i * 13 + 9, none⟩ (.slice (some ⟨w4.heap.size, 0, none⟩) 0 0)).setCell ⟨gq, i * 13 + 10, none⟩ (.slice (some ⟨w4.heap.size + 1, 0, none⟩) 0 0)).setCell ⟨gq, i * 13 + 7, none⟩ (.int .i64 0)).setCell ⟨gq, i * 13 + 11, none⟩ (.int .i64 0)).setCell ⟨gq, i * 13 + 12, none⟩ (.int .i64 0)).alloc (.cells #[] 53)).alloc (.cells #[] 53)).drew) pc pb p (setTk s4 i { tkN s4 i with pc := (tkN s i).pc + 1, reads := [], puts := [], since := 0, when_ := 0, from_ := 0 }) := by
      have h := (A3.scs [(7, 0), (11, 0), (12, 0)] rfl (by simpa [scsW] using G3) (by rw [setTk_len, setTk_len]; exact l1)).drew
      simp only [setTk_two, setTk_len, tkN_same hi4, tkN_same l1, tkN_same (s := setTk s4 i { scsT [(1, (tkN s i).pc + 1)] (tkN s4 i) with reads := [] }) (by rw [setTk_len]; exact hi4)] at h
      simpa [go_sem, hglq, scsW, scsT, Go.Proofs.Ytnbgonmdjgapnaa.sc] using h
    clear A1' A2 A3 G1 G2 G3
    refine (stage_any X B pc pb p _ i 0 _ A4 (by rw [setTk_len]; exact hi4)).mono ?_
    rintro e w5 ⟨rfl, hs5, hf5⟩
    have HS5 : Hid (SW X B w5 pc pb p (endS s i when_)) := by
      unfold Hid
      rw [HA4.out]
      rw [setTk_two, tkN_same hi4] at hs5
      exact hs5
    have HF5 : Hid (FrS (SX X B) w w5) := FrS.trans ((((((((((HF1.out.setCell (Or.inr hgBq) _).setCell (Or.inr hgBq) _).setCell (Or.inr hgBq) _).setCell (Or.inr hgBq) _).setCell (Or.inr hgBq) _).setCell (Or.inr hgBq) _).alloc _).alloc _).drew)) hf5
    clear hs5 hf5 A4
    go_wp2_with fail
    go_end0
    exact ⟨rfl, HS5.out, HF5.out⟩
end Go.Proofs.Ytnbgonmdjgapnaa

namespace Go.Proofs.Ytnbgonmdjgapnaa
open Go.RowKit
set_option linter.unusedSimpArgs false
set_option linter.unusedVariables false
set_option maxRecDepth 20000
theorem pR_nth {f : Nat → Key} {κ : Key} {B : Nat} {w : World} {a : Option Addr} {n cap : Nat} {xs : List Pu} (h : pR f κ B w (.slice a n cap) xs) {k : Nat} (hk : k < xs.length) : ∃ b, a = some ⟨b, 0, none⟩ ∧ B ≤ b ∧ b < w.heap.size ∧ w.cell? ⟨b, k * 2, none⟩ = some (.int .i64 (nth Pu.z xs k).c) ∧ w.cell? ⟨b, k * 2 + 1, none⟩ = some (.int .i64 (nth Pu.z xs k).n) := by
  obtain ⟨g, c, e, hB, hl, _, _, _, hc, _⟩ := row_cells h (by omega) (by omega)
  injection e with e1 e2 e3
  have hlen : (xs.flatMap puC).length = xs.length * 2 := flat_len 2 puC puC_len xs
  have F := fun q (hq : q < 2) => (hc (k * 2 + q) (by omega)).trans (flat_at 2 puC puC_len Pu.z q hq xs k hk)
  exact ⟨g, e1, hB, hl, F 0 (by omega), F 1 (by omega)⟩
set_option maxHeartbeats 4000000 in
theorem check_any (X B : Nat) (pc pb : Value) (p : Pr) (s : Sy) (i : Nat) (w : World) (h : SW X B w pc pb p s) (hi : i < s.tasks.length) (hnp : Np p s) (hst : (tkN s i).stage = 4) (hn : s.cells.length ≤ 1048576) :
    Calls Try.prog 197 #[.pointer (some ⟨X, 0, none⟩), .int .i64 (i : Int)] w fun r w' => r = .returned (.tuple #[]) ∧ SW X B w' pc pb p (checkS s i) ∧ FrS (SX X B) w w' := by
  have hT := hnp.t i hi
  obtain ⟨_, hat0, hat1, _⟩ := hT.four hst
  have hold : (tkN s i).old.length = 3 := (rgB_iff.1 hT.old).1
  have hrl : (tkN s i).reads.length ≤ 1048576 := by have := puB_len hT.reads; have := hnp.cs; omega
  have hrd := hT.reads
  have hcs := hnp.cs
  obtain ⟨k, hk⟩ : ∃ k : Nat, (tkN s i).at_ = (k : Int) := ⟨(tkN s i).at_.toNat, by omega⟩
  clear hT hnp
  obtain ⟨f, cv, g, cap, lv, T, L, V, h1, h2, h3, h4, h5, h6, h7, h8, h9⟩ := h.tk hi
  obtain ⟨a3, c3, a8, c8, a9, c9, a10, c10, rfl⟩ := h7.ti.shapes
  obtain ⟨t0, t1, t2, t3, t4, t5, t6, t7, t8, t9, t10, t11, t12⟩ := h7.cells
  simp only at t3 t8 t9 t10
  have tz := h7.fz
  have hi' : (i : Int) < (s.tasks.length : Int) := by omega
  have hX := h.lt
  have hB := h.le
  have hgB := h7.ge
  have hgl := h7.lt
  have hXl : X < w.heap.size := by omega
  have hXg : X ≠ g := by omega
  have HTI := (show Hid (TIn _ _ _ _ _) from h7.ti)
  have HK := (show Hid (f g = .t ∧ ∀ b, cv.ownBlock = some b → f b = .c) from ⟨h7.key, h1.c.2⟩)
  have HS := (show Hid (SW _ _ _ _ _ _ _) from h)
  clear h1 h2 h3 h7 h8 h9 h
  rw [hk] at t6
  by_cases hlt : (tkN s i).at_ < (tkN s i).reads.length
  · have hkl : k < (tkN s i).reads.length := by omega
    obtain ⟨b9, e9, b9B, b9l, u0, u1⟩ := pR_nth HTI.out.d hkl
    subst e9
    have hc := puB_nth hrd hkl
    obtain ⟨cn, hcn⟩ : ∃ cn : Nat, (nth Pu.z (tkN s i).reads k).c = (cn : Int) := ⟨(nth Pu.z (tkN s i).reads k).c.toNat, by omega⟩
    have hcl : cn < s.cells.length := by omega
    rw [hcn] at u0
    have HF : Hid (checkS s i = if blindB s i cn then againS s i else setTk s i { tkN s i with at_ := (k : Int) + 1 }) := by
      unfold Hid checkS
      rw [if_pos hlt, hk, Int.toNat_natCast, hcn]
    have hkl' : ¬ (k : Int) ≥ ((tkN s i).reads.length : Int) := by omega
    have hkl2 : (k : Int) < ((tkN s i).reads.length : Int) := by omega
    clear hat0 hat1 hrd hcs hc hcn u1
    go_enter Try.func197, Try.ntmps197
    go_wp2_with fail
    refine (blind_any X B pc pb p s i cn _ (HS.out.alloc _) hi hcl).mono ?_
    rintro e w1 ⟨rfl, hb1⟩
    have HS1 : Hid (SW X B w1 pc pb p s) := (HS.out.alloc _).below hb1
    have HF1 : Hid (FrS (SX X B) w w1) := ((FrS.refl _ _).alloc _).trans (.of_below hb1)
    cases hbl : blindB s i cn
    · have HG : Hid (checkS s i = setTk s i { tkN s i with at_ := (k : Int) + 1 }) := by unfold Hid; rw [HF.out, hbl]; rfl
      clear hbl HF
      have h5w1 : w1.cell? ⟨X, 3, none⟩ = some (.slice (some ⟨g, 0, none⟩) s.tasks.length cap) := by rw [hb1.cell (p := ⟨X, 3, none⟩) (by (try simp); try omega)]; first | exact h5 | simpa [go_sem, hXl, hgl] using h5 | simp [go_sem]
      have t6w1 : w1.cell? ⟨g, i * 13 + 6, none⟩ = some (.int .i64 (k : Int)) := by rw [hb1.cell (p := ⟨g, i * 13 + 6, none⟩) (by (try simp); try omega)]; first | exact t6 | simpa [go_sem, hXl, hgl] using t6 | simp [go_sem]
      have v6w1 : w1.cell? ⟨w.heap.size, 6, none⟩ = some (.int .i64 (k : Int)) := by rw [hb1.cell (p := ⟨w.heap.size, 6, none⟩) (by (try simp); try omega)]; simp [go_sem]
      have zXw1 : X < w1.heap.size := by have := hb1.size; (try simp at this); omega
      have zgw1 : g < w1.heap.size := by have := hb1.size; (try simp at this); omega
      have zwheapsizew1 : w.heap.size < w1.heap.size := by have := hb1.size; (try simp at this); omega
      have tz1 : ∀ o, w1.frozen? ⟨g, o, none⟩ = false := fun o => by rw [hb1.frozen (p := ⟨g, o, none⟩) (by simp; omega)]; simpa [go_sem, hgl] using tz o
      have hwr : IntKind.i64.wrap ((k : Int) + 1) = (k : Int) + 1 := by rw [IntKind.wrap_i64]; omega
      clear hb1 t0 t1 t2 t3 t4 t5 t6 t7 t8 t9 t10 t11 t12 tz h5 u0
      go_wp2_with fail
      go_region
      all_goals
        go_wp2_with fail
        go_end0
        refine ⟨rfl, ?_, (HF1.out.setCell (Or.inr hgB) _).drew⟩
        rw [HG.out]
        exact (HS1.out.scs [(6, (k : Int) + 1)] rfl h5w1 hi).drew
    · have HG : Hid (checkS s i = againS s i) := by unfold Hid; rw [HF.out, hbl]; rfl
      clear hbl HF hb1
      go_wp2_with fail
      refine (again_any X B pc pb p s i _ HS1.out hi hn hold).mono ?_
      rintro e w2 ⟨rfl, hs2, hf2⟩
      have HS2 := (show Hid (SW _ _ _ _ _ _ _) from hs2)
      have HF2 : Hid (FrS (SX X B) w w2) := HF1.out.trans hf2
      clear hs2 hf2
      go_wp2_with fail
      ((try simp only [Exit.inBlock, Exit.then]); refine bodyPost_ret (results_none rfl _ _ _) rfl ?_)
      exact ⟨rfl, by rw [HG.out]; exact HS2.out, HF2.out⟩
  · have hke : (k : Int) ≥ ((tkN s i).reads.length : Int) := by omega
    have HF : Hid (checkS s i = setTk s i { tkN s i with stage := 5, at_ := 0 }) := by unfold Hid checkS; rw [if_neg hlt]
    clear hat0 hat1 hrd hcs hlt
    go_enter Try.func197, Try.ntmps197
    go_wp2_with fail
    refine (stage_any X B pc pb p s i 5 _ (HS.out.alloc _) hi).mono ?_
    rintro e w2 ⟨rfl, hs2, hf2⟩
    have HS2 := (show Hid (SW _ _ _ _ _ _ _) from hs2)
    have HF2 : Hid (FrS (SX X B) w w2) := ((FrS.refl _ _).alloc _).trans hf2
    clear hs2 hf2
    go_wp2_with fail
    ((try simp only [Exit.inBlock, Exit.then]); refine bodyPost_ret (results_none rfl _ _ _) rfl ?_)
    exact ⟨rfl, by rw [HF.out]; exact HS2.out, HF2.out⟩
theorem NpT.pc100 {p : Pr} {i : Nat} {t : Ta} (h : NpT p i t) (ho : okB p = true) : 0 ≤ t.pc ∧ t.pc ≤ 100 := by
  have h1 := h.pc
  have h2 := h.body
  simp only [okB, foB, Bool.and_eq_true, List.all_eq_true, List.mem_range] at ho
  have := ho.1.2 t.body.toNat (by omega)
  simp only [boB, Bool.and_eq_true, decide_eq_true_eq] at this
  unfold acts at h1
  omega
set_option maxHeartbeats 8000000 in
theorem lock_any (X B : Nat) (pc pb : Value) (p : Pr) (s : Sy) (i : Nat) (w : World) (h : SW X B w pc pb p s) (hi : i < s.tasks.length) (hnp : Np p s) (hst : (tkN s i).stage = 2) (hn : s.cells.length ≤ 1048576) :
    Calls Try.prog 195 #[.pointer (some ⟨X, 0, none⟩), .int .i64 (i : Int)] w fun r w' => r = .returned (.tuple #[]) ∧ SW X B w' pc pb p (lockS s i) ∧ FrS (SX X B) w w' := by
  have hT := hnp.t i hi
  obtain ⟨_, hat0, hat1⟩ := hT.two hst
  have hold : (tkN s i).old.length = 3 := (rgB_iff.1 hT.old).1
  have hrl : (tkN s i).reads.length ≤ 1048576 := by have := puB_len hT.reads; have := hnp.cs; omega
  have hul : (tkN s i).puts.length ≤ 1048576 := by have := puB_len hT.puts; have := hnp.cs; omega
  have hpu := hT.puts
  have hcs := hnp.cs
  have hpc : 0 ≤ (tkN s i).pc ∧ (tkN s i).pc ≤ 100 := hT.pc100 hnp.ok
  obtain ⟨k, hk⟩ : ∃ k : Nat, (tkN s i).at_ = (k : Int) := ⟨(tkN s i).at_.toNat, by omega⟩
  clear hT hnp
  obtain ⟨f, cv, g, cap, lv, T, L, V, h1, h2, h3, h4, h5, h6, h7, h8, h9⟩ := h.tk hi
  obtain ⟨a3, c3, a8, c8, a9, c9, a10, c10, rfl⟩ := h7.ti.shapes
  obtain ⟨t0, t1, t2, t3, t4, t5, t6, t7, t8, t9, t10, t11, t12⟩ := h7.cells
  simp only at t3 t8 t9 t10
  have tz := h7.fz
  have hi' : (i : Int) < (s.tasks.length : Int) := by omega
  have hX := h.lt
  have hB := h.le
  have hgB := h7.ge
  have hgl := h7.lt
  have hXl : X < w.heap.size := by omega
  have hXg : X ≠ g := by omega
  have HTI := (show Hid (TIn _ _ _ _ _) from h7.ti)
  have HK := (show Hid (f g = .t ∧ ∀ b, cv.ownBlock = some b → f b = .c) from ⟨h7.key, h1.c.2⟩)
  have HS := (show Hid (SW _ _ _ _ _ _ _) from h)
  clear h1 h2 h3 h7 h8 h9 h
  rw [hk] at t6
  have hkl : k < (tkN s i).puts.length := by omega
  obtain ⟨b10, e10, b10B, b10l, u0, u1⟩ := pR_nth HTI.out.u hkl
  subst e10
  have hc := puB_nth hpu hkl
  have hpn : putN (tkN s i) = nth Pu.z (tkN s i).puts k := by unfold putN; rw [hk, Int.toNat_natCast]
  obtain ⟨cn, hcn⟩ : ∃ cn : Nat, (nth Pu.z (tkN s i).puts k).c = (cn : Int) := ⟨(nth Pu.z (tkN s i).puts k).c.toNat, by omega⟩
  have hcl : cn < s.cells.length := by omega
  have hcl' : (cn : Int) < (s.cells.length : Int) := by omega
  have hkl2 : (k : Int) < ((tkN s i).puts.length : Int) := by omega
  have hce : ceN s (cn : Int) = nth Ce.z s.cells cn := by unfold ceN; rw [Int.toNat_natCast]
  have hwr : IntKind.i64.wrap ((k : Int) + 1) = (k : Int) + 1 := by rw [IntKind.wrap_i64]; omega
  rw [hcn] at u0
  have HOLD := (show Hid (_ = _) from hold)
  clear hold hst
  obtain ⟨gc, kc, x2, gcB, gcl, cc, cz⟩ := HS.out.cs hcl
  obtain ⟨d0, d1, d2⟩ := cc cn hcl
  have hgcg : gc ≠ g := by
    have x2' := x2
    rw [h4] at x2'
    injection x2' with e
    intro q
    have h1 := HK.out.2 gc (by rw [e]; rfl)
    rw [q, HK.out.1] at h1
    cases h1
  have hXgc : X ≠ gc := by omega
  clear cc h4
  by_cases ql : 0 ≤ (nth Ce.z s.cells cn).lock
  · have HG : Hid (lockS s i = againS s i) := by unfold Hid lockS; rw [hpn, hcn, hce, if_pos ql]
    have ql' : (nth Ce.z s.cells cn).lock ≥ 0 := ql
    clear hat0 hat1 hpu hcs hc hcn hpn hce hk
    go_enter Try.func195, Try.ntmps195
    go_wp2_with fail
    refine (again_any X B pc pb p s i _ (HS.out.alloc _) hi hn HOLD.out).mono ?_
    rintro e w2 ⟨rfl, hs2, hf2⟩
    have HS2 := (show Hid (SW _ _ _ _ _ _ _) from hs2)
    have HF2 : Hid (FrS (SX X B) w w2) := ((FrS.refl _ _).alloc _).trans hf2
    clear hs2 hf2
    go_wp2_with fail
    ((try simp only [Exit.inBlock, Exit.then]); refine bodyPost_ret (results_none rfl _ _ _) rfl ?_)
    exact ⟨rfl, by rw [HG.out]; exact HS2.out, HF2.out⟩
  · have HG : Hid (lockS s i = setTk { s with cells := s.cells.set cn { nth Ce.z s.cells cn with lock := i } } i (if (k : Int) + 1 = (tkN s i).puts.length then { tkN s i with stage := 3, at_ := 0 } else { tkN s i with at_ := (k : Int) + 1 })) := by
      unfold Hid lockS; rw [hpn, hcn, hce, if_neg ql, Int.toNat_natCast, hk]
    have ql' : ¬ (nth Ce.z s.cells cn).lock ≥ 0 := ql
    have hXg' : g ≠ gc := fun e => hgcg e.symm
    have A0 := HS.out.cel x2 hcl (j := 2) (by omega) (.int .i64 (i : Int)) { nth Ce.z s.cells cn with lock := i } rfl
    have G0 : (w.setCell ⟨gc, cn * 3 + 2, none⟩ (.int .i64 (i : Int))).cell? ⟨X, 3, none⟩ = some (.slice (some ⟨g, 0, none⟩) s.tasks.length cap) := by rw [cell_set_blk _ _ _ _ _ _ hXgc]; exact h5
    have A1 := ((A0.scs [(6, (k : Int) + 1)] rfl G0 hi).alloc (.cells #[.int .i64 (tkN s i).body, .int .i64 (tkN s i).pc, .int .i64 (tkN s i).up, .slice a3 (tkN s i).regs.length c3, .int .i64 (tkN s i).way, .int .i64 (tkN s i).stage, .int .i64 (k : Int), .int .i64 (tkN s i).since, .slice a8 (tkN s i).old.length c8, .slice a9 (tkN s i).reads.length c9, .slice (some ⟨b10, 0, none⟩) (tkN s i).puts.length c10, .int .i64 (tkN s i).when_, .int .i64 (tkN s i).from_] 64)).drew
    have A1H := (show Hid (SW _ _ _ _ _ _ _) from A1)
    have FH : Hid (FrS (SX X B) w ((((w.setCell ⟨gc, cn * 3 + 2, none⟩ (.int .i64 (i : Int))).setCell ⟨g, i * 13 + 6, none⟩ (.int .i64 ((k : Int) + 1))).alloc (.cells #[.int .i64 (tkN s i).body, .int .i64 (tkN s i).pc, .int .i64 (tkN s i).up, .slice a3 (tkN s i).regs.length c3, .int .i64 (tkN s i).way, .int .i64 (tkN s i).stage, .int .i64 (k : Int), .int .i64 (tkN s i).since, .slice a8 (tkN s i).old.length c8, .slice a9 (tkN s i).reads.length c9, .slice (some ⟨b10, 0, none⟩) (tkN s i).puts.length c10, .int .i64 (tkN s i).when_, .int .i64 (tkN s i).from_] 64)).drew)) := ((((FrS.refl _ _).setCell (Or.inr gcB) _).setCell (Or.inr hgB) _).alloc _).drew
    clear hat0 hat1 hpu hcs hc hcn hpn hce hk ql A0 A1 G0
    by_cases qe : (k : Int) + 1 = (tkN s i).puts.length
    · have qe' : ((k : Int) + 1 == ((tkN s i).puts.length : Int)) = true := by simp [qe]
      have HG2 : Hid (lockS s i = setTk { s with cells := s.cells.set cn { nth Ce.z s.cells cn with lock := i } } i { tkN s i with stage := 3, at_ := 0 }) := by unfold Hid; rw [HG.out, if_pos qe]
      have QE := (show Hid (_ = _) from qe)
      clear qe HG
      go_enter Try.func195, Try.ntmps195
      go_wp2_with fail
      go_region
      all_goals
        go_wp2_with fail
        refine (stage_any X B pc pb p _ i 3 _ A1H.out (by rw [setTk_len]; exact hi)).mono ?_
        rintro e w2 ⟨rfl, hs2, hf2⟩
        rw [setTk_two, tkN_same (s := { s with cells := s.cells.set cn { nth Ce.z s.cells cn with lock := i } }) hi] at hs2
        have HS2 := (show Hid (SW _ _ _ _ _ _ _) from hs2)
        have HF2 : Hid (FrS (SX X B) w w2) := FH.out.trans hf2
        clear hs2 hf2
        go_wp2_with fail
        go_end0
        exact ⟨rfl, by rw [HG2.out]; exact HS2.out, HF2.out⟩
    · have qe' : ((k : Int) + 1 == ((tkN s i).puts.length : Int)) = false := by simp [qe]
      have HG2 : Hid (lockS s i = setTk { s with cells := s.cells.set cn { nth Ce.z s.cells cn with lock := i } } i { tkN s i with at_ := (k : Int) + 1 }) := by unfold Hid; rw [HG.out, if_neg qe]
      clear qe HG
      go_enter Try.func195, Try.ntmps195
      go_wp2_with fail
      go_region
      all_goals
        go_wp2_with fail
        go_end0
        exact ⟨rfl, by rw [HG2.out]; exact A1H.out, FH.out⟩
end Go.Proofs.Ytnbgonmdjgapnaa
