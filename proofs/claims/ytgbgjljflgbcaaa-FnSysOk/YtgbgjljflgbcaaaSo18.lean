import Derived.Test.YtgbgjljflgbcaaaSo17
import Derived.Test.YtgbgjljflgbcaaaSo01
namespace Go.Proofs.Ytgbgjljflgbcaaa
set_option maxHeartbeats 8000000
open Go.RowKit
set_option linter.unusedSimpArgs false
set_option linter.unusedVariables false
set_option maxRecDepth 20000
theorem cells_new (w : World) (M : List Value) (t : TypeId) : ∀ j u, M[j]? = some u -> (w.alloc (.cells M.toArray t)).cell? ((⟨w.heap.size, 0, none⟩ : Addr).add j) = some u := fun j u hu => by
 rw [Go.WideShapes.add_plain, Nat.zero_add]
 simpa using hu
theorem grown_from {w w' : World} {o : Obj} {row : Option Nat} (h : (w.alloc o).grownBy w' row) : w.grownBy w' row :=
 ⟨h.os, h.tape, h.output, Nat.le_trans (by simp) h.size, fun k hk hr => (h.block k (by simp; omega) hr).trans (((Below.refl w.heap.size w).alloc (Nat.le_refl _) o).block k hk)⟩
theorem end_any (X B : Nat) (pc pb : Value) (p : Pr) (s : Sy) (i : Nat) (when_ : Int) (w : World) (h : SW X B w pc pb p s) (hi : i < s.tasks.length) (hpc : 0 <= (tkN s i).pc /\ (tkN s i).pc <= 100) (hrn : (tkN s i).reads.length <= 1048576) (hun : (tkN s i).puts.length <= 1048576) (hln : s.log.length <= 1048576) :
   Calls Try.prog 168 #[.pointer (some ⟨X, 0, none⟩), .int .i64 (i : Int), .int .i64 when_] w fun r w' => r = .returned (.tuple #[]) /\ SW X B w' pc pb p (endS s i when_) /\ FrS (SX X B) w w' := by
 obtain ⟨f, cv, g, cap, lv, T, L, V, h1, h2, h3, h4, h5, h6, h7, h8, h9⟩ := h.tk hi
 obtain ⟨a3, c3, a8, c8, a9, c9, a10, c10, rfl⟩ := h7.ti.shapes
 obtain ⟨t0, t1, t2, t3, t4, t5, t6, t7, t8, t9, t10, t11, t12⟩ := h7.cells
 simp only at t3 t8 t9 t10
 obtain ⟨al, cl, el, _⟩ := own_shape h1.l.1
 have hLl : L.length = s.log.length := by rw [<- h3]; simp
 rw [hLl] at el
 subst el
 have tz := h7.fz
 have hi' : (i : Int) < (s.tasks.length : Int) := by omega
 have hX := h.lt
 have hB := h.le
 have hgB := h7.ge
 have hgl := h7.lt
 have hXl : X < w.heap.size := by omega
 have hXg : X ≠ g := by omega
 obtain ⟨i0, hi0, hz0, hz1, hz2⟩ := info_parts (P := Try.prog) (e := 55) (z := .agg #[.int .i64 0, .int .i64 0, .int .i64 0, .slice none 0 0, .slice none 0 0, .int .i64 0]) (size := 6) (bytes := 80) (by kernel_rfl)
 have HOL := (show Hid (OwnSy _ _ _ _ _ _ _ _ _) from h1)
 have HLL := (show Hid (_ = _) from hLl)
 have HT2 := (show Hid (_ = _) from h2)
 have HL3 := (show Hid (_ = _) from h3)
 have HS := (show Hid (SW _ _ _ _ _ _ _) from h)
 have HPD : Hid (∀ W, Below (w.alloc (.cells #[.int .i64 (tkN s i).body, .int .i64 (tkN s i).pc, .int .i64 (tkN s i).up, .slice a3 (tkN s i).regs.length c3, .int .i64 (tkN s i).way, .int .i64 (tkN s i).stage, .int .i64 (tkN s i).at_, .int .i64 (tkN s i).since, .slice a8 (tkN s i).old.length c8, .slice a9 (tkN s i).reads.length c9, .slice a10 (tkN s i).puts.length c10, .int .i64 (tkN s i).when_, .int .i64 (tkN s i).from_] 70)).heap.size (w.alloc (.cells #[.int .i64 (tkN s i).body, .int .i64 (tkN s i).pc, .int .i64 (tkN s i).up, .slice a3 (tkN s i).regs.length c3, .int .i64 (tkN s i).way, .int .i64 (tkN s i).stage, .int .i64 (tkN s i).at_, .int .i64 (tkN s i).since, .slice a8 (tkN s i).old.length c8, .slice a9 (tkN s i).reads.length c9, .slice a10 (tkN s i).puts.length c10, .int .i64 (tkN s i).when_, .int .i64 (tkN s i).from_] 70)) W -> PusAt W (.slice a9 (tkN s i).reads.length c9) (tkN s i).reads) := fun W hb => (pR_at h7.ti.d).mono (((Below.refl _ _).alloc (Nat.le_refl _) _).trans (hb.mono (by simp)))
 have HPU : Hid (∀ W, Below (w.alloc (.cells #[.int .i64 (tkN s i).body, .int .i64 (tkN s i).pc, .int .i64 (tkN s i).up, .slice a3 (tkN s i).regs.length c3, .int .i64 (tkN s i).way, .int .i64 (tkN s i).stage, .int .i64 (tkN s i).at_, .int .i64 (tkN s i).since, .slice a8 (tkN s i).old.length c8, .slice a9 (tkN s i).reads.length c9, .slice a10 (tkN s i).puts.length c10, .int .i64 (tkN s i).when_, .int .i64 (tkN s i).from_] 70)).heap.size (w.alloc (.cells #[.int .i64 (tkN s i).body, .int .i64 (tkN s i).pc, .int .i64 (tkN s i).up, .slice a3 (tkN s i).regs.length c3, .int .i64 (tkN s i).way, .int .i64 (tkN s i).stage, .int .i64 (tkN s i).at_, .int .i64 (tkN s i).since, .slice a8 (tkN s i).old.length c8, .slice a9 (tkN s i).reads.length c9, .slice a10 (tkN s i).puts.length c10, .int .i64 (tkN s i).when_, .int .i64 (tkN s i).from_] 70)) W -> PusAt W (.slice a10 (tkN s i).puts.length c10) (tkN s i).puts) := fun W hb => (pR_at h7.ti.u).mono (((Below.refl _ _).alloc (Nat.le_refl _) _).trans (hb.mono (by simp)))
 have SM : Hid (∀ W : World, (∀ b, b < (w.alloc (.cells #[.int .i64 (tkN s i).body, .int .i64 (tkN s i).pc, .int .i64 (tkN s i).up, .slice a3 (tkN s i).regs.length c3, .int .i64 (tkN s i).way, .int .i64 (tkN s i).stage, .int .i64 (tkN s i).at_, .int .i64 (tkN s i).since, .slice a8 (tkN s i).old.length c8, .slice a9 (tkN s i).reads.length c9, .slice a10 (tkN s i).puts.length c10, .int .i64 (tkN s i).when_, .int .i64 (tkN s i).from_] 70)).heap.size -> (Value.slice al s.log.length cl).ownBlock ≠ some b -> W.heap[b]? = (w.alloc (.cells #[.int .i64 (tkN s i).body, .int .i64 (tkN s i).pc, .int .i64 (tkN s i).up, .slice a3 (tkN s i).regs.length c3, .int .i64 (tkN s i).way, .int .i64 (tkN s i).stage, .int .i64 (tkN s i).at_, .int .i64 (tkN s i).since, .slice a8 (tkN s i).old.length c8, .slice a9 (tkN s i).reads.length c9, .slice a10 (tkN s i).puts.length c10, .int .i64 (tkN s i).when_, .int .i64 (tkN s i).from_] 70)).heap[b]?) -> W.cell? ⟨X, 5, none⟩ = some (.slice al s.log.length cl) /\ W.cell? ⟨w.heap.size, 1, none⟩ = some (.int .i64 (tkN s i).pc) /\ W.cell? ⟨w.heap.size, 9, none⟩ = some (.slice a9 (tkN s i).reads.length c9) /\ W.cell? ⟨w.heap.size, 10, none⟩ = some (.slice a10 (tkN s i).puts.length c10) /\ W.cell? ⟨w.heap.size, 12, none⟩ = some (.int .i64 (tkN s i).from_)) := fun W hb => by
   have c1 : ∀ o, W.cell? ⟨X, o, none⟩ = w.cell? ⟨X, o, none⟩ := fun o => (World.cell?_of_block (hb X (by simp; omega) (fun e => by have h1 := HOL.out.l.1.lt X e; omega))).trans (by simp [go_sem, hXl])
   have c2 : ∀ o, W.cell? ⟨w.heap.size, o, none⟩ = (w.alloc (.cells #[.int .i64 (tkN s i).body, .int .i64 (tkN s i).pc, .int .i64 (tkN s i).up, .slice a3 (tkN s i).regs.length c3, .int .i64 (tkN s i).way, .int .i64 (tkN s i).stage, .int .i64 (tkN s i).at_, .int .i64 (tkN s i).since, .slice a8 (tkN s i).old.length c8, .slice a9 (tkN s i).reads.length c9, .slice a10 (tkN s i).puts.length c10, .int .i64 (tkN s i).when_, .int .i64 (tkN s i).from_] 70)).cell? ⟨w.heap.size, o, none⟩ := fun o => World.cell?_of_block (hb w.heap.size (by simp) (fun e => by have h1 := HOL.out.l.1.lt w.heap.size e; omega))
   rw [c1, c2, c2, c2, c2]
   exact ⟨h6, by simp, by simp, by simp, by simp⟩
 clear h1 h2 h3 h7 h8 h9 h hLl
 go_enter Try.func168, Try.ntmps168
 go_wp2_with fail
 refine till_begin (S := fun w' => w'.cell? ⟨X, 5, none⟩ = some (.slice al s.log.length cl) /\ w'.cell? ⟨w.heap.size, 1, none⟩ = some (.int .i64 (tkN s i).pc) /\ w'.cell? ⟨w.heap.size, 9, none⟩ = some (.slice a9 (tkN s i).reads.length c9) /\ w'.cell? ⟨w.heap.size, 10, none⟩ = some (.slice a10 (tkN s i).puts.length c10) /\ w'.cell? ⟨w.heap.size, 12, none⟩ = some (.int .i64 (tkN s i).from_)) (z := 24) (by kernel_rfl) ?_
 refine till_take (i := 0) (v := (.pointer (some ⟨X, 0, none⟩))) rfl (by kernel_rfl) (fun _ _ _ h => h) (by rfl) ?_ (SM.out _ (fun b hb _ => rfl)) ?_
 . (intro w hSw; obtain ⟨q0, q1, q2, q3, q4⟩ := hSw; go_simp)
 (try simp only [Act.put, zq1, zq2, zq3])
 refine till_take (i := 1) (v := (.pointer (some ⟨X, 0, none⟩))) rfl (by kernel_rfl) (fun _ _ _ h => h) (by rfl) ?_ (SM.out _ (fun b hb _ => rfl)) ?_
 . (intro w hSw; obtain ⟨q0, q1, q2, q3, q4⟩ := hSw; go_simp)
 (try simp only [Act.put, zq1, zq2, zq3])
 refine till_take (i := 2) (v := (.pointer (some ⟨X, 0, none⟩))) rfl (by kernel_rfl) (fun _ _ _ h => h) (by rfl) ?_ (SM.out _ (fun b hb _ => rfl)) ?_
 . (intro w hSw; obtain ⟨q0, q1, q2, q3, q4⟩ := hSw; go_simp)
 (try simp only [Act.put, zq1, zq2, zq3])
 refine till_take (i := 3) (v := (.pointer (some ⟨X, 2, none⟩))) rfl (by kernel_rfl) (fun _ _ _ h => h) (by rfl) ?_ (SM.out _ (fun b hb _ => rfl)) ?_
 . (intro w hSw; obtain ⟨q0, q1, q2, q3, q4⟩ := hSw; go_simp)
 (try simp only [Act.put, zq1, zq2, zq3])
 refine till_take (i := 4) (v := (.pointer (some ⟨X, 5, none⟩))) rfl (by kernel_rfl) (fun _ _ _ h => h) (by rfl) ?_ (SM.out _ (fun b hb _ => rfl)) ?_
 . (intro w hSw; obtain ⟨q0, q1, q2, q3, q4⟩ := hSw; go_simp)
 (try simp only [Act.put, zq1, zq2, zq3])
 refine till_take (i := 5) (v := (.slice al s.log.length cl)) rfl (by kernel_rfl) (fun _ _ _ h => h) (by rfl) ?_ (SM.out _ (fun b hb _ => rfl)) ?_
 . (intro w hSw; obtain ⟨q0, q1, q2, q3, q4⟩ := hSw; go_simp)
 (try simp only [Act.put, zq1, zq2, zq3])
 refine till_take (i := 6) (v := (.int .i64 (i : Int))) rfl (by kernel_rfl) (fun _ _ _ h => h) (by rfl) ?_ (SM.out _ (fun b hb _ => rfl)) ?_
 . (intro w hSw; obtain ⟨q0, q1, q2, q3, q4⟩ := hSw; go_simp)
 (try simp only [Act.put, zq1, zq2, zq3])
 refine till_take (i := 7) (v := (.pointer (some ⟨w.heap.size, 1, none⟩))) rfl (by kernel_rfl) (fun _ _ _ h => h) (by rfl) ?_ (SM.out _ (fun b hb _ => rfl)) ?_
 . (intro w hSw; obtain ⟨q0, q1, q2, q3, q4⟩ := hSw; go_simp)
 (try simp only [Act.put, zq1, zq2, zq3])
 refine till_take (i := 8) (v := (.int .i64 (tkN s i).pc)) rfl (by kernel_rfl) (fun _ _ _ h => h) (by rfl) ?_ (SM.out _ (fun b hb _ => rfl)) ?_
 . (intro w hSw; obtain ⟨q0, q1, q2, q3, q4⟩ := hSw; go_simp)
 (try simp only [Act.put, zq1, zq2, zq3])
 refine till_take (i := 9) (v := (.int .i64 when_)) rfl (by kernel_rfl) (fun _ _ _ h => h) (by rfl) ?_ (SM.out _ (fun b hb _ => rfl)) ?_
 . (intro w hSw; obtain ⟨q0, q1, q2, q3, q4⟩ := hSw; go_simp)
 (try simp only [Act.put, zq1, zq2, zq3])
 refine till_take (i := 10) (v := (.pointer (some ⟨w.heap.size, 9, none⟩))) rfl (by kernel_rfl) (fun _ _ _ h => h) (by rfl) ?_ (SM.out _ (fun b hb _ => rfl)) ?_
 . (intro w hSw; obtain ⟨q0, q1, q2, q3, q4⟩ := hSw; go_simp)
 (try simp only [Act.put, zq1, zq2, zq3])
 refine till_take (i := 11) (v := (.slice a9 (tkN s i).reads.length c9)) rfl (by kernel_rfl) (fun _ _ _ h => h) (by rfl) ?_ (SM.out _ (fun b hb _ => rfl)) ?_
 . (intro w hSw; obtain ⟨q0, q1, q2, q3, q4⟩ := hSw; go_simp)
 (try simp only [Act.put, zq1, zq2, zq3])
 refine till_take (i := 13) (v := (.pointer (some ⟨w.heap.size, 10, none⟩))) rfl (by kernel_rfl) (fun _ _ _ h => h) (by rfl) ?_ (SM.out _ (fun b hb _ => rfl)) ?_
 . (intro w hSw; obtain ⟨q0, q1, q2, q3, q4⟩ := hSw; go_simp)
 (try simp only [Act.put, zq1, zq2, zq3])
 refine till_take (i := 14) (v := (.slice a10 (tkN s i).puts.length c10)) rfl (by kernel_rfl) (fun _ _ _ h => h) (by rfl) ?_ (SM.out _ (fun b hb _ => rfl)) ?_
 . (intro w hSw; obtain ⟨q0, q1, q2, q3, q4⟩ := hSw; go_simp)
 (try simp only [Act.put, zq1, zq2, zq3])
 refine till_take (i := 16) (v := (.pointer (some ⟨w.heap.size, 12, none⟩))) rfl (by kernel_rfl) (fun _ _ _ h => h) (by rfl) ?_ (SM.out _ (fun b hb _ => rfl)) ?_
 . (intro w hSw; obtain ⟨q0, q1, q2, q3, q4⟩ := hSw; go_simp)
 (try simp only [Act.put, zq1, zq2, zq3])
 refine till_take (i := 17) (v := (.int .i64 (tkN s i).from_)) rfl (by kernel_rfl) (fun _ _ _ h => h) (by rfl) ?_ (SM.out _ (fun b hb _ => rfl)) ?_
 . (intro w hSw; obtain ⟨q0, q1, q2, q3, q4⟩ := hSw; go_simp)
 (try simp only [Act.put, zq1, zq2, zq3])
 refine till_step (i := 12) rfl (by kernel_rfl) (fun K hK => ?_)
 go_simp
 refine (l11Puts_any _ _ _ (HPD.out _ bq0) hrn).mono ?_
 rintro e wd ⟨ad, cd, rfl, hod, hbd⟩
 have HBD : Hid (Below (w.alloc (.cells #[.int .i64 (tkN s i).body, .int .i64 (tkN s i).pc, .int .i64 (tkN s i).up, .slice a3 (tkN s i).regs.length c3, .int .i64 (tkN s i).way, .int .i64 (tkN s i).stage, .int .i64 (tkN s i).at_, .int .i64 (tkN s i).since, .slice a8 (tkN s i).old.length c8, .slice a9 (tkN s i).reads.length c9, .slice a10 (tkN s i).puts.length c10, .int .i64 (tkN s i).when_, .int .i64 (tkN s i).from_] 70)).heap.size (w.alloc (.cells #[.int .i64 (tkN s i).body, .int .i64 (tkN s i).pc, .int .i64 (tkN s i).up, .slice a3 (tkN s i).regs.length c3, .int .i64 (tkN s i).way, .int .i64 (tkN s i).stage, .int .i64 (tkN s i).at_, .int .i64 (tkN s i).since, .slice a8 (tkN s i).old.length c8, .slice a9 (tkN s i).reads.length c9, .slice a10 (tkN s i).puts.length c10, .int .i64 (tkN s i).when_, .int .i64 (tkN s i).from_] 70)) wd) := below_then bq0 (by simp) hbd
 have HOD := (show Hid (World.ownsRow _ _ _ _ _ _ _) from hod)
 clear hod hbd
 refine hK.out _ _ (fun _ => SM.out _ (fun b hb _ => HBD.out.block b hb)) ?_
 clear hK
 (try simp only [Act.put, zq1, zq2, zq3])
 refine till_step (i := 15) rfl (by kernel_rfl) (fun K hK => ?_)
 go_simp
 refine (l11Puts_any _ _ _ (HPU.out _ HBD.out) hun).mono ?_
 rintro e wu ⟨au, cu, rfl, hou, hbu⟩
 have HBU : Hid (Below (w.alloc (.cells #[.int .i64 (tkN s i).body, .int .i64 (tkN s i).pc, .int .i64 (tkN s i).up, .slice a3 (tkN s i).regs.length c3, .int .i64 (tkN s i).way, .int .i64 (tkN s i).stage, .int .i64 (tkN s i).at_, .int .i64 (tkN s i).since, .slice a8 (tkN s i).old.length c8, .slice a9 (tkN s i).reads.length c9, .slice a10 (tkN s i).puts.length c10, .int .i64 (tkN s i).when_, .int .i64 (tkN s i).from_] 70)).heap.size (w.alloc (.cells #[.int .i64 (tkN s i).body, .int .i64 (tkN s i).pc, .int .i64 (tkN s i).up, .slice a3 (tkN s i).regs.length c3, .int .i64 (tkN s i).way, .int .i64 (tkN s i).stage, .int .i64 (tkN s i).at_, .int .i64 (tkN s i).since, .slice a8 (tkN s i).old.length c8, .slice a9 (tkN s i).reads.length c9, .slice a10 (tkN s i).puts.length c10, .int .i64 (tkN s i).when_, .int .i64 (tkN s i).from_] 70)) wu) := below_then HBD.out HBD.out.size hbu
 have HOU := (show Hid (World.ownsRow _ _ _ _ _ _ _) from hou)
 have HOD2 : Hid (World.ownsRow wu _ _ _ _ _ _) := row_heap HOD.out (fun b hb => hbu.block b (HOD.out.lt b hb).2)
 have hdu := hbu.size
 clear hou hbu
 refine hK.out _ _ (fun _ => SM.out _ (fun b hb _ => HBU.out.block b hb)) ?_
 clear hK
 (try simp only [Act.put, zq1, zq2, zq3])
 refine till_take (i := 18) (v := .agg #[.int .i64 (i : Int), .int .i64 (tkN s i).pc, .int .i64 when_, .slice ad (tkN s i).reads.length cd, .slice au (tkN s i).puts.length cu, .int .i64 (tkN s i).from_]) rfl (by kernel_rfl) (fun _ _ _ h => h) (by rfl) ?_ (SM.out _ (fun b hb _ => HBU.out.block b hb)) ?_
 . (intro w hSw; obtain ⟨q0, q1, q2, q3, q4⟩ := hSw; go_simp)
 (try simp only [Act.put, zq1, zq2, zq3])
 refine till_step (i := 19) rfl (by kernel_rfl) (fun K hK => ?_)
 go_simp
 refine hK.out _ _ (fun _ => SM.out _ (fun b hb _ => (HBU.out.alloc HBU.out.size _).block b hb)) ?_
 clear hK
 (try simp only [Act.put, zq1, zq2, zq3])
 refine till_step (i := 20) rfl (by kernel_rfl) (fun K hK => ?_)
 have HLW : World.ownsRow (wu.alloc (.cells #[.int .i64 (i : Int), .int .i64 (tkN s i).pc, .int .i64 when_, .slice ad (tkN s i).reads.length cd, .slice au (tkN s i).puts.length cu, .int .i64 (tkN s i).from_] 55)) B 55 6 (.slice al s.log.length cl) s.log.length (L.flatMap enC) := by
   have h1 := HOL.out.l.1
   rw [HLL.out] at h1
   exact row_heap h1 (fun b hb => ((HBU.out.alloc HBU.out.size _).block b (by have := (h1.lt b hb).2; simp; omega)).trans (((Below.refl w.heap.size w).alloc (Nat.le_refl _) _).block b (h1.lt b hb).2))
 refine step_append_lies _ (by rfl) _ _ 30 (by rfl) B 55 i0 (.agg #[.int .i64 0, .int .i64 0, .int .i64 0, .slice none 0 0, .slice none 0 0, .int .i64 0]) 6 80 Try.underlying30 hi0 hz0 hz1 hz2 rfl (by omega) _ s.log.length (L.flatMap enC) (by rfl) HLW ⟨wu.heap.size, 0, none⟩ 1 1 [.int .i64 (i : Int), .int .i64 (tkN s i).pc, .int .i64 when_, .slice ad (tkN s i).reads.length cd, .slice au (tkN s i).puts.length cu, .int .i64 (tkN s i).from_] (by rfl) rfl (cells_new wu [.int .i64 (i : Int), .int .i64 (tkN s i).pc, .int .i64 when_, .slice ad (tkN s i).reads.length cd, .slice au (tkN s i).puts.length cu, .int .i64 (tkN s i).from_] _) (by intro u hu; simp at hu; rcases hu with rfl | rfl | rfl | rfl | rfl | rfl <;> rfl) (by omega) (by unfold maxLen; omega) (by omega) (by have := HBU.out.size; simp at this ⊢; omega) _ (by rfl) ?_
 intro g3 cap3 w3 hown3 hgrow hat3 hlt3
 clear HLW
 have HO3 := (show Hid (World.ownsRow _ _ _ _ _ _ _) from hown3)
 have HG3 := (show Hid (World.grownBy _ _ _) from hgrow)
 have HA3 := (show Hid (_ \/ _) from hat3)
 have hnl : ∀ b, b < (w.alloc (.cells #[.int .i64 (tkN s i).body, .int .i64 (tkN s i).pc, .int .i64 (tkN s i).up, .slice a3 (tkN s i).regs.length c3, .int .i64 (tkN s i).way, .int .i64 (tkN s i).stage, .int .i64 (tkN s i).at_, .int .i64 (tkN s i).since, .slice a8 (tkN s i).old.length c8, .slice a9 (tkN s i).reads.length c9, .slice a10 (tkN s i).puts.length c10, .int .i64 (tkN s i).when_, .int .i64 (tkN s i).from_] 70)).heap.size -> (Value.slice al s.log.length cl).ownBlock ≠ some b -> w3.heap[b]? = (w.alloc (.cells #[.int .i64 (tkN s i).body, .int .i64 (tkN s i).pc, .int .i64 (tkN s i).up, .slice a3 (tkN s i).regs.length c3, .int .i64 (tkN s i).way, .int .i64 (tkN s i).stage, .int .i64 (tkN s i).at_, .int .i64 (tkN s i).since, .slice a8 (tkN s i).old.length c8, .slice a9 (tkN s i).reads.length c9, .slice a10 (tkN s i).puts.length c10, .int .i64 (tkN s i).when_, .int .i64 (tkN s i).from_] 70)).heap[b]? := fun b hb hne => (HG3.out.block b (Nat.lt_of_lt_of_le hb (HBU.out.alloc HBU.out.size _).size) (fun e => hne e.symm)).trans ((HBU.out.alloc HBU.out.size _).block b hb)
 have hXn : (Value.slice al s.log.length cl).ownBlock ≠ some X := fun e => by have h1 := HOL.out.l.1.lt X e; omega
 have X5 : ∃ q, w3.cell? ⟨X, 5, none⟩ = some q := ⟨_, (World.cell?_of_block (hnl X (by simp; omega) hXn)).trans (by simpa [go_sem, hXl] using h6)⟩
 have XZ : ∀ o, w3.frozen? ⟨X, o, none⟩ = false := fun o => by
   rw [World.frozen?_of_block (hnl X (by simp; omega) hXn), ((Below.refl w.heap.size w).alloc (Nat.le_refl _) _).frozen (p := ⟨X, o, none⟩) hXl]
   exact HS.out.fz o
 have HNL := (show Hid (∀ b, _) from hnl)
 clear hnl hXn
 obtain ⟨x5, X5⟩ := X5
 clear hown3 hgrow hat3
 refine hK.out _ _ (fun _ => SM.out _ HNL.out) ?_
 clear hK
 (try simp only [Act.put, zq1, zq2, zq3])
 refine till_take (i := 21) (v := (.pointer (some ⟨X, 0, none⟩))) rfl (by kernel_rfl) (fun _ _ _ h => h) (by rfl) ?_ (SM.out _ HNL.out) ?_
 . (intro w hSw; obtain ⟨q0, q1, q2, q3, q4⟩ := hSw; go_simp)
 (try simp only [Act.put, zq1, zq2, zq3])
 refine till_take (i := 22) (v := (.pointer (some ⟨X, 2, none⟩))) rfl (by kernel_rfl) (fun _ _ _ h => h) (by rfl) ?_ (SM.out _ HNL.out) ?_
 . (intro w hSw; obtain ⟨q0, q1, q2, q3, q4⟩ := hSw; go_simp)
 (try simp only [Act.put, zq1, zq2, zq3])
 refine till_take (i := 23) (v := (.pointer (some ⟨X, 5, none⟩))) rfl (by kernel_rfl) (fun _ _ _ h => h) (by rfl) ?_ (SM.out _ HNL.out) ?_
 . (intro w hSw; obtain ⟨q0, q1, q2, q3, q4⟩ := hSw; go_simp)
 (try simp only [Act.put, zq1, zq2, zq3])
 refine till_step (i := 24) rfl (by kernel_rfl) (fun K hK => ?_)
 go_simp
 refine hK.out _ _ (fun h => absurd rfl h) ?_
 clear hK
 refine till_done (by kernel_rfl) ?_ _
 have A1 := SW.logA HS.out (((Below.refl _ _).alloc (Nat.le_refl _) ((.cells #[.int .i64 (tkN s i).body, .int .i64 (tkN s i).pc, .int .i64 (tkN s i).up, .slice a3 (tkN s i).regs.length c3, .int .i64 (tkN s i).way, .int .i64 (tkN s i).stage, .int .i64 (tkN s i).at_, .int .i64 (tkN s i).since, .slice a8 (tkN s i).old.length c8, .slice a9 (tkN s i).reads.length c9, .slice a10 (tkN s i).puts.length c10, .int .i64 (tkN s i).when_, .int .i64 (tkN s i).from_] 70))).trans (HBU.out.mono (by simp))) HOL.out HT2.out HL3.out h4 h5 (e := endE (tkN s i) i when_) (m := wd.heap.size) (own_base HOD2.out (by simp)) (own_base HOU.out (by have := HBD.out.size; simp at this; omega)) (fun b hb => (HOD.out.lt b hb).2) (fun b hb => (HOU.out.lt b hb).1) (w2 := w3) (lv' := .slice (some ⟨g3, 0, none⟩) (s.log.length + 1) cap3) (by rw [HLL.out]; exact HO3.out) (grown_from HG3.out) (fun b hb => by
   rcases HA3.out with e | e
   . left; rw [e]; exact hb
   . right; injection hb with hb; rw [<- hb, e]; show wu.heap.size <= _; simp)
 have F1 : FrS (SX X B) w (w3.setCell ⟨X, 5, none⟩ (.slice (some ⟨g3, 0, none⟩) (s.log.length + 1) cap3)) := by
   refine FrS.setCell ?_ (Or.inl rfl) _
   refine ((FrS.of_below ((Below.refl _ _).alloc (Nat.le_refl _) ((.cells #[.int .i64 (tkN s i).body, .int .i64 (tkN s i).pc, .int .i64 (tkN s i).up, .slice a3 (tkN s i).regs.length c3, .int .i64 (tkN s i).way, .int .i64 (tkN s i).stage, .int .i64 (tkN s i).at_, .int .i64 (tkN s i).since, .slice a8 (tkN s i).old.length c8, .slice a9 (tkN s i).reads.length c9, .slice a10 (tkN s i).puts.length c10, .int .i64 (tkN s i).when_, .int .i64 (tkN s i).from_] 70)))).trans ((FrS.of_below HBU.out).alloc _)).trans ⟨HG3.out.os, HG3.out.tape, HG3.out.output, HG3.out.size, fun k hk hS => HG3.out.block k hk (fun e => ?_)⟩
   have := HOL.out.l.1.lt k e.symm
   exact hS (Or.inr this.1)
 have b1 : (w3.setCell ⟨X, 5, none⟩ (.slice (some ⟨g3, 0, none⟩) (s.log.length + 1) cap3)).cell? ⟨w.heap.size, 1, none⟩ = some (.int .i64 (tkN s i).pc) := by
   rw [cell_set_blk _ _ _ _ _ _ (by omega)]; exact (SM.out _ HNL.out).2.1
 have bl : w.heap.size < (w3.setCell ⟨X, 5, none⟩ (.slice (some ⟨g3, 0, none⟩) (s.log.length + 1) cap3)).heap.size := by have := HG3.out.size; have := HBU.out.size; simp at *; omega
 have hi4 : i < ({ s with log := s.log ++ [endE (tkN s i) i when_] } : Sy).tasks.length := hi
 have HA4 : Hid (endS s i when_ = setTk { s with log := s.log ++ [endE (tkN s i) i when_] } i { tkN { s with log := s.log ++ [endE (tkN s i) i when_] } i with pc := (tkN s i).pc + 1, reads := [], puts := [], since := 0, when_ := 0, from_ := 0, stage := 0, at_ := 0 }) := rfl
 have hwr : IntKind.i64.wrap ((tkN s i).pc + 1) = (tkN s i).pc + 1 := by rw [IntKind.wrap_i64]; omega
 clear t0 t1 t2 t3 t4 t5 t6 t7 t8 t9 t10 t11 t12 tz h4 h5 h6 hi' hgB hgl hXl hXg hX hB HS SM HPD HPU HOL HLL HT2 HL3 HBD HOD HBU HOU HOD2 hdu HO3 HG3 HA3 X5 XZ HNL hlt3 hpc
 revert A1 F1 hi4 HA4 b1 bl
 generalize w3.setCell ⟨X, 5, none⟩ (.slice (some ⟨g3, 0, none⟩) (s.log.length + 1) cap3) = w4
 generalize ({ s with log := s.log ++ [endE (tkN s i) i when_] } : Sy) = s4
 intro A1 F1 b1 bl hi4 HA4
 obtain ⟨fq, cvq, gq, capq, lvq, Tq, Lq, Vq, h1, h2, h3, h4q, h5q, h6q, h7, h8, h9⟩ := A1.tk hi4
 obtain ⟨a3q, c3q, a8q, c8q, a9q, c9q, a10q, c10q, rfl⟩ := h7.ti.shapes
 obtain ⟨t0q, t1q, t2q, t3q, t4q, t5q, t6q, t7q, t8q, t9q, t10q, t11q, t12q⟩ := h7.cells
 simp only at t3q t8q t9q t10q
 have tzq := h7.fz
 have hi'q : (i : Int) < (s4.tasks.length : Int) := by omega
 have hXq := A1.lt
 have hBq := A1.le
 have hgBq := h7.ge
 have hglq := h7.lt
 have hXlq : X < w4.heap.size := by omega
 have hXgq : X ≠ gq := by omega
 have HTIq := (show Hid (TIn _ _ _ _ _) from h7.ti)
 have HKq := (show Hid (fq gq = .t /\ ∀ b, cvq.ownBlock = some b -> fq b = .c) from ⟨h7.key, h1.c.2⟩)
 have HSq := (show Hid (SW _ _ _ _ _ _ _) from A1)
 clear h1 h2 h3 h7 h8 h9 A1
 clear t0q t2q t3q t4q t8q
 have HF1 := (show Hid (FrS _ _ _) from F1)
 clear F1
 go_wp2_with fail
 go_region
 all_goals
   go_wp2_with fail
   have A1' := HSq.out.scs [(1, (tkN s i).pc + 1)] rfl h5q hi4
   have G1 := HSq.out.set3 (o := i * 13 + 1) (v := .int .i64 ((tkN s i).pc + 1)) h5q hi4
   have l1 : i < (setTk s4 i (scsT [(1, (tkN s i).pc + 1)] (tkN s4 i))).tasks.length := by rw [setTk_len]; exact hi4
   have A2 := A1'.nd ((Below.refl _ _).alloc (Nat.le_refl _) (.cells #[] 52)) G1 l1 (xs := []) (own_new _ _ 2 (by omega))
   have G2 := (A1'.alloc (.cells #[] 52)).set3 (o := i * 13 + 9) (v := .slice (some ⟨w4.heap.size, 0, none⟩) 0 0) (A1'.alloc3 G1 _) l1
   have A3 := A2.nu ((Below.refl _ _).alloc (Nat.le_refl _) (.cells #[] 52)) (by simpa [scsW] using G2) (by rw [setTk_len]; exact l1) (xs := []) (own_new _ _ 2 (by omega))
   have G3 := (A2.alloc (.cells #[] 52)).set3 (o := i * 13 + 10) (v := .slice (some ⟨w4.heap.size + 1, 0, none⟩) 0 0) (A2.alloc3 (by simpa [scsW] using G2) _) (by rw [setTk_len]; exact l1)
   have A4 : SW X B (((((((((w4.setCell ⟨gq, i * 13 + 1, none⟩ (.int .i64 ((tkN s i).pc + 1))).setCell ⟨gq, i * 13 + 9, none⟩ (.slice (some ⟨w4.heap.size, 0, none⟩) 0 0)).setCell ⟨gq, i * 13 + 10, none⟩ (.slice (some ⟨w4.heap.size + 1, 0, none⟩) 0 0)).setCell ⟨gq, i * 13 + 7, none⟩ (.int .i64 0)).setCell ⟨gq, i * 13 + 11, none⟩ (.int .i64 0)).setCell ⟨gq, i * 13 + 12, none⟩ (.int .i64 0)).alloc (.cells #[] 52)).alloc (.cells #[] 52)).drew) pc pb p (setTk s4 i { tkN s4 i with pc := (tkN s i).pc + 1, reads := [], puts := [], since := 0, when_ := 0, from_ := 0 }) := by
     have h := (A3.scs [(7, 0), (11, 0), (12, 0)] rfl (by simpa [scsW] using G3) (by rw [setTk_len, setTk_len]; exact l1)).drew
     simp only [setTk_two, setTk_len, tkN_same hi4, tkN_same l1, tkN_same (s := setTk s4 i { scsT [(1, (tkN s i).pc + 1)] (tkN s4 i) with reads := [] }) (by rw [setTk_len]; exact hi4)] at h
     simpa [go_sem, hglq, scsW, scsT, Go.Proofs.Ytgbgjljflgbcaaa.sc] using h
   clear A1' A2 A3 G1 G2 G3
   refine (stage_any X B pc pb p _ i 0 _ A4 (by rw [setTk_len]; exact hi4)).mono ?_
   rintro e w5 ⟨rfl, hs5, hf5⟩
   have HS5 : Hid (SW X B w5 pc pb p (endS s i when_)) := by
     unfold Hid
     rw [HA4.out]
     rw [setTk_two, tkN_same hi4] at hs5
     exact hs5
   have HF5 : Hid (FrS (SX X B) w w5) := FrS.trans ((((((((((HF1.out.setCell (Or.inr hgBq) _).setCell (Or.inr hgBq) _).setCell (Or.inr hgBq) _).setCell (Or.inr hgBq) _).setCell (Or.inr hgBq) _).setCell (Or.inr hgBq) _).alloc _).alloc _).drew)) hf5
   clear hs5 hf5 A4
   go_wp2_with fail
   go_end0
   exact ⟨rfl, HS5.out, HF5.out⟩
end Go.Proofs.Ytgbgjljflgbcaaa
