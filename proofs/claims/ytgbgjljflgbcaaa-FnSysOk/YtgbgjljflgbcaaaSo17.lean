import Derived.Test.YtgbgjljflgbcaaaSo16
import Derived.Test.YtgbgjljflgbcaaaSo14
import Derived.Deep.Upon
import Derived.Deep.AppendLies
import Derived.Handy
import Derived.Test.YtgbgjljflgbcaaaSo01
namespace Go.Proofs.Ytgbgjljflgbcaaa
set_option maxHeartbeats 8000000
open Go.RowKit
set_option linter.unusedSimpArgs false
set_option linter.unusedVariables false
set_option maxRecDepth 20000
def freeK (cs : List Ce) (i : Int) (k : Nat) : List Ce := (List.range cs.length).map fun j => if j < k /\ (nth Ce.z cs j).lock = i then { nth Ce.z cs j with lock := -1 } else nth Ce.z cs j
theorem freeK_len (cs : List Ce) (i : Int) (k : Nat) : (freeK cs i k).length = cs.length := by simp [freeK]
theorem freeK_nth {cs : List Ce} {i : Int} {k j : Nat} (hj : j < cs.length) : nth Ce.z (freeK cs i k) j = if j < k /\ (nth Ce.z cs j).lock = i then { nth Ce.z cs j with lock := -1 } else nth Ce.z cs j := by
 rw [nth_eq Ce.z _ j (by rw [freeK_len]; exact hj)]
 simp [freeK]
theorem ce_ext {a b : List Ce} (hl : a.length = b.length) (h : ∀ j, j < a.length -> nth Ce.z a j = nth Ce.z b j) : a = b := by
 apply List.ext_getElem hl
 intro j h1 h2
 have := h j h1
 rwa [nth_eq Ce.z a j h1, nth_eq Ce.z b j h2] at this
theorem freeK_zero (cs : List Ce) (i : Int) : freeK cs i 0 = cs := ce_ext (freeK_len _ _ _) fun j hj => by
 rw [freeK_len] at hj; rw [freeK_nth hj]; simp
theorem freeK_all (cs : List Ce) (i : Int) : freeK cs i cs.length = freeC cs i := ce_ext (by rw [freeK_len, freeC_len]) fun j hj => by
 rw [freeK_len] at hj; rw [freeK_nth hj, freeC_nth hj]; simp [hj]
theorem freeK_no {cs : List Ce} {i : Int} {k : Nat} (hk : k < cs.length) (h : (nth Ce.z cs k).lock ≠ i) : freeK cs i (k + 1) = freeK cs i k := ce_ext (by simp [freeK_len]) fun j hj => by
 rw [freeK_len] at hj; rw [freeK_nth hj, freeK_nth hj]
 by_cases e : j = k
 . subst e; simp [h]
 . have : (j < k + 1) ↔ (j < k) := by omega
   simp only [this]
theorem freeK_yes {cs : List Ce} {i : Int} {k : Nat} (hk : k < cs.length) (h : (nth Ce.z cs k).lock = i) : freeK cs i (k + 1) = (freeK cs i k).set k { nth Ce.z (freeK cs i k) k with lock := -1 } := ce_ext (by simp [freeK_len]) fun j hj => by
 rw [freeK_len] at hj
 rw [nth_set' Ce.z _ _ _ _ (by rw [freeK_len]; exact hk), freeK_nth hj, freeK_nth hj, freeK_nth hk]
 by_cases e : k = j
 . subst e; simp [h]
 . have : (j < k + 1) ↔ (j < k) := by omega
   rw [if_neg e]
   simp only [this]
theorem free_any (X B : Nat) (pc pb : Value) (p : Pr) (s : Sy) (i : Nat) (w : World) (h : SW X B w pc pb p s) (hn : s.cells.length <= 1048576) :
   Calls Try.prog 173 #[.pointer (some ⟨X, 0, none⟩), .int .i64 (i : Int)] w fun r w' => r = .returned (.tuple #[]) /\ SW X B w' pc pb p { s with cells := freeC s.cells i } /\ FrS (SX X B) w w' := by
 have hX := h.lt
 have hB := h.le
 have HS := (show Hid (SW _ _ _ _ _ _ _) from h)
 clear h
 go_enter Try.func173, Try.ntmps173
 go_wp2_with fail
 go_loopw [4] (fun q w' => ∃ k : Nat, k <= s.cells.length /\ q = .int .i64 k /\ SW X B w' pc pb p { s with cells := freeK s.cells i k } /\ FrS (SX X B) w w') (fun q _ => s.cells.length - (intOf q).toNat)
 case atStart => exact ⟨0, Nat.zero_le _, rfl, by rw [freeK_zero]; exact HS.out, FrS.refl _ _⟩
 case round =>
   obtain ⟨k, hk, rfl, hs, hf⟩ := hrel
   have hl := freeK_len s.cells i k
   have hXl : X < wr.heap.size := by have := hs.lt; have := hs.le; omega
   have HS2 := (show Hid (SW _ _ _ _ _ _ _) from hs)
   have HF := (show Hid (FrS _ _ _) from hf)
   clear hf HS
   by_cases hlt : k < s.cells.length
   . have hlt' : (k : Int) < (s.cells.length : Int) := by omega
     have hk2 : k < ({ s with cells := freeK s.cells i k } : Sy).cells.length := by show k < (freeK s.cells i k).length; omega
     obtain ⟨gc, kc, x2, gcB, gcl, cc, cz⟩ := hs.cs hk2
     obtain ⟨d0, d1, d2⟩ := cc k hk2
     have e : nth Ce.z (freeK s.cells i k) k = nth Ce.z s.cells k := by rw [freeK_nth hlt]; simp
     have E := (show Hid (_ = _) from e)
     simp only [hl] at x2
     simp only [e] at d2
     clear cc hs hk2 e
     have hXg : X ≠ gc := by omega
     by_cases q : (nth Ce.z s.cells k).lock = (i : Int)
     . have q' : ((nth Ce.z s.cells k).lock == (i : Int)) = true := by simp [q]
       have HN : Hid (freeK s.cells i (k + 1) = (freeK s.cells i k).set k { nth Ce.z (freeK s.cells i k) k with lock := -1 }) := freeK_yes hlt q
       clear q
       go_wp2_with fail
       go_roundw
       case rel =>
         refine ⟨k + 1, by omega, by go_num, ?_, HF.out.setCell (Or.inr gcB) _⟩
         rw [HN.out]
         exact HS2.out.cel (c := k) (j := 2) x2 (by show k < (freeK s.cells i k).length; omega) (by omega) _ _ rfl
       case measure => simp [intOf]; omega
     . have q' : ((nth Ce.z s.cells k).lock == (i : Int)) = false := by simp [q]
       have HN : Hid (freeK s.cells i (k + 1) = freeK s.cells i k) := freeK_no hlt q
       clear q
       go_wp2_with fail
       go_roundw
       case rel => exact ⟨k + 1, by omega, by go_num, by rw [HN.out]; exact HS2.out, HF.out⟩
       case measure => simp [intOf]; omega
   . have hk' : ¬ (k : Int) < (s.cells.length : Int) := by omega
     have hke : k = s.cells.length := by omega
     have HR : Hid (SW X B wr pc pb p { s with cells := freeC s.cells i }) := by
       have := HS2.out
       rw [hke, freeK_all] at this
       exact this
     have hx2 : ∃ a c, wr.cell? ⟨X, 2, none⟩ = some (.slice a s.cells.length c) := by
       obtain ⟨f, cv, tv, lv, T, L, h1, h2, h3, h4, h5, h6⟩ := hs.ex
       obtain ⟨a, c, e, _⟩ := own_shape h1.c.1
       refine ⟨a, c, ?_⟩
       rw [h4, e]
       simp [freeK_len]
     obtain ⟨xa, xc, x2⟩ := hx2
     clear hs hke
     go_wp2_with fail
     go_end0
     exact ⟨rfl, HR.out, HF.out⟩
theorem SW.alloc3 {X B : Nat} {w : World} {pc pb : Value} {p : Pr} {s : Sy} (h : SW X B w pc pb p s) {v : Value} (hg : w.cell? ⟨X, 3, none⟩ = some v) (o : Obj) : (w.alloc o).cell? ⟨X, 3, none⟩ = some v := by
 rw [((Below.refl w.heap.size w).alloc (Nat.le_refl _) o).cell (p := ⟨X, 3, none⟩) (by have := h.lt; have := h.le; show X < _; omega)]; exact hg
theorem own_new (w : World) (t : TypeId) (sz : Nat) (hs : 0 < sz) : (w.alloc (.cells #[] t)).ownsRow w.heap.size t sz (.slice (some ⟨w.heap.size, 0, none⟩) 0 0) 0 [] :=
 ⟨by simp, .inr ⟨w.heap.size, 0, #[], rfl, Nat.le_refl _, heap_top w _, by omega, by unfold maxLen; omega, by simp, by simp⟩⟩
theorem row_src {f : Nat -> Key} {κ : Key} {B : Nat} {w w' : World} {e : TypeId} {size g n n' c : Nat} {xs : List Value} (h : Row f κ B w e size (.slice (some ⟨g, 0, none⟩) n c) n' xs) (hb : Below w.heap.size w w') : ∀ j u, xs[j]? = some u -> w'.cell? ((⟨g, 0, none⟩ : Addr).add j) = some u := fun j u hu => by
 rw [hb.cell (p := (⟨g, 0, none⟩ : Addr).add j) (by have : ((⟨g, 0, none⟩ : Addr).add j).block = g := (by unfold Addr.add; split <;> rfl); rw [this]; exact (h.1.lt g rfl).2)]
 exact h.1.cells rfl j u hu
theorem puC_one (xs : List Pu) : ∀ u ∈ xs.flatMap puC, u.oneCell' = true := fun u hu => by
 obtain ⟨x, _, h⟩ := List.mem_flatMap.1 hu
 simp only [puC, List.mem_cons, List.not_mem_nil, or_false] at h
 rcases h with rfl | rfl <;> rfl
theorem again_any (X B : Nat) (pc pb : Value) (p : Pr) (s : Sy) (i : Nat) (w : World) (h : SW X B w pc pb p s) (hi : i < s.tasks.length) (hn : s.cells.length <= 1048576) (ho : (tkN s i).old.length = 3) :
   Calls Try.prog 167 #[.pointer (some ⟨X, 0, none⟩), .int .i64 (i : Int)] w fun r w' => r = .returned (.tuple #[]) /\ SW X B w' pc pb p (againS s i) /\ FrS (SX X B) w w' := by
 have HS := (show Hid (SW _ _ _ _ _ _ _) from h)
 clear h
 obtain ⟨i0, hi0, hz0, hz1, hz2⟩ := info_parts Try.info_int
 go_enter Try.func167, Try.ntmps167
 go_wp2_with fail
 refine (free_any X B pc pb p s i _ HS.out hn).mono ?_
 rintro e w1 ⟨rfl, hs1, hf1⟩
 have HFR := (show Hid (FrS _ _ _) from hf1)
 clear hf1 HS
 have HA : Hid (againS s i = setTk { s with cells := freeC s.cells i } i (againT (tkN { s with cells := freeC s.cells i } i))) := rfl
 have ho1 : (tkN { s with cells := freeC s.cells i } i).old.length = 3 := ho
 have hi1 : i < ({ s with cells := freeC s.cells i } : Sy).tasks.length := hi
 revert hs1 HA ho1 hi1
 generalize ({ s with cells := freeC s.cells i } : Sy) = s1
 intro hs1 HA ho1 hi1
 obtain ⟨f, cv, g, cap, lv, T, L, V, h1, h2, h3, h4, h5, h6, h7, h8, h9⟩ := hs1.tk hi1
 obtain ⟨a3, c3, a8, c8, a9, c9, a10, c10, rfl⟩ := h7.ti.shapes
 obtain ⟨t0, t1, t2, t3, t4, t5, t6, t7, t8, t9, t10, t11, t12⟩ := h7.cells
 simp only at t3 t8 t9 t10
 have tz := h7.fz
 have hi' : (i : Int) < (s1.tasks.length : Int) := by omega
 have hX := hs1.lt
 have hB := hs1.le
 have hgB := h7.ge
 have hgl := h7.lt
 have hXl : X < w1.heap.size := by omega
 have hXg : X ≠ g := by omega
 have HTI := (show Hid (TIn _ _ _ _ _) from h7.ti)
 have HK := (show Hid (f g = .t /\ ∀ b, cv.ownBlock = some b -> f b = .c) from ⟨h7.key, h1.c.2⟩)
 have HS := (show Hid (SW _ _ _ _ _ _ _) from hs1)
 clear h1 h2 h3 h7 h8 h9 hs1
 clear t0 t1 t2 t4 t7 t12
 obtain ⟨bo, co, eo, boB, bol, _, _, _, _, _⟩ := row_cells HTI.out.o (by omega) (by show 0 < (tkN s1 i).old.length; omega)
 injection eo with eo1 eo2 eo3
 subst eo1 eo3
 clear eo2
 have HO1 := (show Hid (_ = _) from ho1)
 clear ho1
 have SM : Hid (∀ W, Below w1.heap.size w1 W -> W.cell? ⟨X, 3, none⟩ = some (.slice (some ⟨g, 0, none⟩) s1.tasks.length cap) /\ W.cell? ⟨g, i * 13 + 8, none⟩ = some (.slice (some ⟨bo, 0, none⟩) (tkN s1 i).old.length c8)) := fun W hb => ⟨by rw [hb.cell (p := ⟨X, 3, none⟩) hXl]; exact h5, by rw [hb.cell (p := ⟨g, i * 13 + 8, none⟩) hgl]; exact t8⟩
 go_wp2_with fail
 refine till_begin (S := fun w' => w'.cell? ⟨X, 3, none⟩ = some (.slice (some ⟨g, 0, none⟩) s1.tasks.length cap) /\ w'.cell? ⟨g, i * 13 + 8, none⟩ = some (.slice (some ⟨bo, 0, none⟩) (tkN s1 i).old.length c8)) (z := 19) (by kernel_rfl) ?_
 refine till_take (i := 0) (v := (.pointer (some ⟨X, 0, none⟩))) rfl (by kernel_rfl) (fun _ _ _ h => h) (by rfl) ?_ (SM.out _ bq0) ?_
 . (intro w hSw; obtain ⟨q0, q1⟩ := hSw; go_simp)
 (try simp only [Act.put, zq1, zq2, zq3])
 refine till_take (i := 1) (v := (.pointer (some ⟨X, 0, none⟩))) rfl (by kernel_rfl) (fun _ _ _ h => h) (by rfl) ?_ (SM.out _ bq0) ?_
 . (intro w hSw; obtain ⟨q0, q1⟩ := hSw; go_simp)
 (try simp only [Act.put, zq1, zq2, zq3])
 refine till_take (i := 2) (v := (.pointer (some ⟨X, 2, none⟩))) rfl (by kernel_rfl) (fun _ _ _ h => h) (by rfl) ?_ (SM.out _ bq0) ?_
 . (intro w hSw; obtain ⟨q0, q1⟩ := hSw; go_simp)
 (try simp only [Act.put, zq1, zq2, zq3])
 refine till_take (i := 3) (v := (.pointer (some ⟨X, 3, none⟩))) rfl (by kernel_rfl) (fun _ _ _ h => h) (by rfl) ?_ (SM.out _ bq0) ?_
 . (intro w hSw; obtain ⟨q0, q1⟩ := hSw; go_simp)
 (try simp only [Act.put, zq1, zq2, zq3])
 refine till_take (i := 4) (v := (.slice (some ⟨g, 0, none⟩) s1.tasks.length cap)) rfl (by kernel_rfl) (fun _ _ _ h => h) (by rfl) ?_ (SM.out _ bq0) ?_
 . (intro w hSw; obtain ⟨q0, q1⟩ := hSw; go_simp)
 (try simp only [Act.put, zq1, zq2, zq3])
 refine till_take (i := 5) (v := (.int .i64 (i : Int))) rfl (by kernel_rfl) (fun _ _ _ h => h) (by rfl) ?_ (SM.out _ bq0) ?_
 . (intro w hSw; obtain ⟨q0, q1⟩ := hSw; go_simp)
 (try simp only [Act.put, zq1, zq2, zq3])
 refine till_take (i := 7) (v := (.pointer (some ⟨X, 0, none⟩))) rfl (by kernel_rfl) (fun _ _ _ h => h) (by rfl) ?_ (SM.out _ bq0) ?_
 . (intro w hSw; obtain ⟨q0, q1⟩ := hSw; go_simp)
 (try simp only [Act.put, zq1, zq2, zq3])
 refine till_take (i := 8) (v := (.pointer (some ⟨X, 0, none⟩))) rfl (by kernel_rfl) (fun _ _ _ h => h) (by rfl) ?_ (SM.out _ bq0) ?_
 . (intro w hSw; obtain ⟨q0, q1⟩ := hSw; go_simp)
 (try simp only [Act.put, zq1, zq2, zq3])
 refine till_take (i := 9) (v := (.pointer (some ⟨X, 2, none⟩))) rfl (by kernel_rfl) (fun _ _ _ h => h) (by rfl) ?_ (SM.out _ bq0) ?_
 . (intro w hSw; obtain ⟨q0, q1⟩ := hSw; go_simp)
 (try simp only [Act.put, zq1, zq2, zq3])
 refine till_take (i := 10) (v := (.pointer (some ⟨X, 3, none⟩))) rfl (by kernel_rfl) (fun _ _ _ h => h) (by rfl) ?_ (SM.out _ bq0) ?_
 . (intro w hSw; obtain ⟨q0, q1⟩ := hSw; go_simp)
 (try simp only [Act.put, zq1, zq2, zq3])
 refine till_take (i := 11) (v := (.slice (some ⟨g, 0, none⟩) s1.tasks.length cap)) rfl (by kernel_rfl) (fun _ _ _ h => h) (by rfl) ?_ (SM.out _ bq0) ?_
 . (intro w hSw; obtain ⟨q0, q1⟩ := hSw; go_simp)
 (try simp only [Act.put, zq1, zq2, zq3])
 refine till_take (i := 12) (v := (.int .i64 (i : Int))) rfl (by kernel_rfl) (fun _ _ _ h => h) (by rfl) ?_ (SM.out _ bq0) ?_
 . (intro w hSw; obtain ⟨q0, q1⟩ := hSw; go_simp)
 (try simp only [Act.put, zq1, zq2, zq3])
 refine till_take (i := 13) (v := (.pointer (some ⟨g, i * 13, none⟩))) rfl (by kernel_rfl) (fun _ _ _ h => h) (by rfl) ?_ (SM.out _ bq0) ?_
 . (intro w hSw; obtain ⟨q0, q1⟩ := hSw; go_simp)
 (try simp only [Act.put, zq1, zq2, zq3])
 refine till_take (i := 14) (v := (.pointer (some ⟨g, i * 13 + 8, none⟩))) rfl (by kernel_rfl) (fun _ _ _ h => h) (by rfl) ?_ (SM.out _ bq0) ?_
 . (intro w hSw; obtain ⟨q0, q1⟩ := hSw; go_simp)
 (try simp only [Act.put, zq1, zq2, zq3])
 refine till_take (i := 15) (v := (.slice (some ⟨bo, 0, none⟩) (tkN s1 i).old.length c8)) rfl (by kernel_rfl) (fun _ _ _ h => h) (by rfl) ?_ (SM.out _ bq0) ?_
 . (intro w hSw; obtain ⟨q0, q1⟩ := hSw; go_simp)
 (try simp only [Act.put, zq1, zq2, zq3])
 refine till_step (i := 6) rfl (by kernel_rfl) (fun K hK => ?_)
 go_simp
 refine hK.out _ _ (fun _ => SM.out _ bq0) ?_
 clear hK
 (try simp only [Act.put, zq1, zq2, zq3])
 refine till_step (i := 16) rfl (by kernel_rfl) (fun K hK => ?_)
 refine step_append_lies _ (by rfl) _ _ 23 (by rfl) w1.heap.size 3 i0 (.int .i64 0) 1 8 Try.underlying23 hi0 hz0 hz1 hz2 rfl (by omega) _ 0 [] (by rfl) (own_new w1.drew _ _ (by omega)) ⟨bo, 0, none⟩ (tkN s1 i).old.length c8 ((tkN s1 i).old.map (Value.int .i64)) (by rfl) (by simp) (row_src HTI.out.o bq0) (ints_one _) (by have := HO1.out; omega) (by have := HO1.out; unfold maxLen; omega) (by have := HO1.out; omega) (by simp) _ (by rfl) ?_
 intro g3 cap3 w3 hown3 hgrow _ hlt3
 have hb3 : Below w1.heap.size w1 w3 := Below.grown bq0 hgrow (by simp) (fun b hb => by simp [Value.ownBlock] at hb; subst hb; exact Nat.le_refl _)
 have HB3 := (show Hid (Below _ _ _) from hb3)
 simp only [Nat.zero_add, List.nil_append] at hown3
 have HO3 := (show Hid (World.ownsRow _ _ _ _ _ _ _) from hown3)
 clear hb3 hown3 hgrow
 rw [Nat.zero_add]
 refine hK.out _ _ (fun _ => SM.out _ HB3.out) ?_
 clear hK
 (try simp only [Act.put, zq1, zq2, zq3])
 refine till_take (i := 17) (v := (.pointer (some ⟨g, i * 13, none⟩))) rfl (by kernel_rfl) (fun _ _ _ h => h) (by rfl) ?_ (SM.out _ HB3.out) ?_
 . (intro w hSw; obtain ⟨q0, q1⟩ := hSw; go_simp)
 (try simp only [Act.put, zq1, zq2, zq3])
 refine till_take (i := 18) (v := (.pointer (some ⟨g, i * 13 + 3, none⟩))) rfl (by kernel_rfl) (fun _ _ _ h => h) (by rfl) ?_ (SM.out _ HB3.out) ?_
 . (intro w hSw; obtain ⟨q0, q1⟩ := hSw; go_simp)
 (try simp only [Act.put, zq1, zq2, zq3])
 have y3 : w3.cell? ⟨g, i * 13 + 3, none⟩ = some (.slice a3 (tkN s1 i).regs.length c3) := by rw [HB3.out.cell (p := ⟨g, i * 13 + 3, none⟩) hgl]; exact t3
 have yz : ∀ o, w3.frozen? ⟨g, o, none⟩ = false := fun o => by rw [HB3.out.frozen (p := ⟨g, o, none⟩) hgl]; exact tz o
 refine till_step (i := 19) rfl (by kernel_rfl) (fun K hK => ?_)
 go_simp
 refine hK.out _ _ (fun h => absurd rfl h) ?_
 clear hK
 refine till_done (by kernel_rfl) ?_ _
 have A1 := HS.out.nr HB3.out h5 hi1 HO3.out
 have F1 : FrS (SX X B) w (w3.setCell ⟨g, i * 13 + 3, none⟩ (.slice (some ⟨g3, 0, none⟩) (tkN s1 i).old.length cap3)) := (HFR.out.trans (.of_below HB3.out)).setCell (Or.inr hgB) _
 have hi4 : i < (setTk s1 i { tkN s1 i with regs := (tkN s1 i).old }).tasks.length := by rw [setTk_len]; exact hi1
 have HA4 : Hid (againS s i = setTk (setTk s1 i { tkN s1 i with regs := (tkN s1 i).old }) i { tkN (setTk s1 i { tkN s1 i with regs := (tkN s1 i).old }) i with reads := [], puts := [], when_ := 0, stage := 0, at_ := 0 }) := by
   unfold Hid
   rw [setTk_two, tkN_same hi1]
   exact HA.out
 clear t3 t5 t6 t8 t9 t10 t11 tz h4 h5 h6 hi' hgB hgl hXl hXg hX hB HTI HS SM HB3 HO3 HO1 y3 yz HA HFR hlt3 boB bol hi1
 revert A1 F1 hi4 HA4
 generalize w3.setCell ⟨g, i * 13 + 3, none⟩ (.slice (some ⟨g3, 0, none⟩) (tkN s1 i).old.length cap3) = w4
 generalize setTk s1 i { tkN s1 i with regs := (tkN s1 i).old } = s4
 intro A1 F1 hi4 HA4
 obtain ⟨fq, cvq, gq, capq, lvq, Tq, Lq, Vq, h1, h2, h3, h4q, h5q, h6q, h7, h8, h9⟩ := A1.tk hi4
 obtain ⟨a3q, c3q, a8q, c8q, a9q, c9q, a10q, c10q, rfl⟩ := h7.ti.shapes
 obtain ⟨t0q, t1q, t2q, t3q, t4q, t5q, t6q, t7q, t8q, t9q, t10q, t11q, t12q⟩ := h7.cells
 simp only at t3q t8q t9q t10q
 have tzq := h7.fz
 have hi'q : (i : Int) < (s4.tasks.length : Int) := by omega
 have hXq := A1.lt
 have hBq := A1.le
 have hgBq := h7.ge
 have hglq := h7.lt
 have hXlq : X < w4.heap.size := by omega
 have hXgq : X ≠ gq := by omega
 have HTIq := (show Hid (TIn _ _ _ _ _) from h7.ti)
 have HKq := (show Hid (fq gq = .t /\ ∀ b, cvq.ownBlock = some b -> fq b = .c) from ⟨h7.key, h1.c.2⟩)
 have HSq := (show Hid (SW _ _ _ _ _ _ _) from A1)
 clear h1 h2 h3 h7 h8 h9 A1
 clear t0q t1q t2q t3q t4q t7q t8q t12q
 have HF1 := (show Hid (FrS _ _ _) from F1)
 clear F1
 go_wp2_with fail
 have A2 := HSq.out.nd ((Below.refl _ _).alloc (Nat.le_refl _) (.cells #[] 52)) h5q hi4 (xs := []) (own_new _ _ 2 (by omega))
 have G2 := (HSq.out.alloc (.cells #[] 52)).set3 (o := i * 13 + 9) (v := .slice (some ⟨w4.heap.size, 0, none⟩) 0 0) (HSq.out.alloc3 h5q _) hi4
 have A3 := A2.nu ((Below.refl _ _).alloc (Nat.le_refl _) (.cells #[] 52)) G2 (by rw [setTk_len]; exact hi4) (xs := []) (own_new _ _ 2 (by omega))
 have G3 := (A2.alloc (.cells #[] 52)).set3 (o := i * 13 + 10) (v := .slice (some ⟨w4.heap.size + 1, 0, none⟩) 0 0) (A2.alloc3 G2 _) (by rw [setTk_len]; exact hi4)
 have A4 : SW X B (((((w4.setCell ⟨gq, i * 13 + 9, none⟩ (.slice (some ⟨w4.heap.size, 0, none⟩) 0 0)).setCell ⟨gq, i * 13 + 10, none⟩ (.slice (some ⟨w4.heap.size + 1, 0, none⟩) 0 0)).setCell ⟨gq, i * 13 + 11, none⟩ (.int .i64 0)).alloc (.cells #[] 52)).alloc (.cells #[] 52)) pc pb p (setTk s4 i { tkN s4 i with reads := [], puts := [], when_ := 0 }) := by
   have h := A3.scs [(11, 0)] rfl (by simpa using G3) (by rw [setTk_len, setTk_len]; exact hi4)
   simp only [setTk_two, setTk_len, tkN_same hi4, tkN_same (s := setTk s4 i { tkN s4 i with reads := [] }) (by rw [setTk_len]; exact hi4)] at h
   simpa [go_sem, hglq, scsW, scsT, Go.Proofs.Ytgbgjljflgbcaaa.sc] using h
 clear A2 A3 G2 G3
 refine (stage_any X B pc pb p _ i 0 _ A4 (by rw [setTk_len]; exact hi4)).mono ?_
 rintro e w5 ⟨rfl, hs5, hf5⟩
 have HS5 : Hid (SW X B w5 pc pb p (againS s i)) := by
   unfold Hid
   rw [HA4.out]
   rw [setTk_two, tkN_same hi4] at hs5
   exact hs5
 have HF5 : Hid (FrS (SX X B) w w5) := FrS.trans (((((HF1.out.setCell (Or.inr hgBq) _).setCell (Or.inr hgBq) _).setCell (Or.inr hgBq) _).alloc _).alloc _) hf5
 clear hs5 hf5 A4
 go_wp2_with fail
 go_end0
 exact ⟨rfl, HS5.out, HF5.out⟩

set_option maxRecDepth 20000
theorem pR_at {f : Nat -> Key} {κ : Key} {B : Nat} {w : World} {v : Value} {xs : List Pu} (h : pR f κ B w v xs) : PusAt w v xs := by
 obtain ⟨a, cap, rfl, h1, h2⟩ := own_shape h.1
 refine ⟨a, cap, rfl, ⟨h1, h2⟩, fun i hi => ?_⟩
 obtain ⟨g, c, e, hB, hl, _, _, _, hc, _⟩ := row_cells h (by omega) (by omega)
 injection e with e1 e2 e3
 subst e1
 have hlen : (xs.flatMap puC).length = xs.length * 2 := flat_len 2 puC puC_len xs
 have F := fun q (hq : q < 2) => (hc (i * 2 + q) (by omega)).trans (flat_at 2 puC puC_len Pu.z q hq xs i hi)
 exact ⟨g, 0, rfl, hl, by rw [Nat.zero_add]; exact F 0 (by omega), by rw [Nat.zero_add]; exact F 1 (by omega)⟩
theorem iR_at {f : Nat -> Key} {κ : Key} {B : Nat} {w : World} {v : Value} {xs : List Int} (h : iR f κ B w v xs) : IntsAt w v xs := by
 obtain ⟨a, cap, rfl, h1, h2⟩ := own_shape h.1
 refine ⟨a, cap, rfl, by omega, fun i hi => ?_⟩
 obtain ⟨g, c, e, hB, hl, _, _, _, hc, _⟩ := row_cells h (by omega) (by omega)
 injection e with e1 e2 e3
 subst e1
 refine ⟨g, 0, rfl, hl, ?_⟩
 rw [Nat.zero_add, hc i (by simpa using hi), nth_eq 0 xs i hi]
 simp [hi]
theorem pus_src {w : World} {a : Option Addr} {n cap : Nat} {xs : List Pu} (h : PusAt w (.slice a n cap) xs) : n = 0 \/ ∃ ad, a = some ad /\ ∀ j u, (xs.flatMap puC)[j]? = some u -> w.cell? (ad.add j) = some u := by
 obtain ⟨a', cap', e, _, hc⟩ := h
 injection e with e1 e2 e3
 subst e1 e2
 by_cases h0 : xs.length = 0
 . exact .inl h0
 . obtain ⟨b, off, rfl, _⟩ := hc 0 (by omega)
   refine .inr ⟨_, rfl, fun j u hj => ?_⟩
   have hlen : (xs.flatMap puC).length = xs.length * 2 := flat_len 2 puC puC_len xs
   have hjl : j < xs.length * 2 := by
     rcases Nat.lt_or_ge j (xs.length * 2) with h | h
     . exact h
     . rw [List.getElem?_eq_none (by omega)] at hj; cases hj
   obtain ⟨b', off', e', _, c0, c1⟩ := hc (j / 2) (by omega)
   injection e' with e2
   injection e2 with e3 e4
   subst e3 e4
   have hq : j = j / 2 * 2 + j % 2 := by omega
   have F := fun q (hq : q < 2) => flat_at 2 puC puC_len Pu.z q hq xs (j / 2) (by omega)
   rw [Go.WideShapes.add_plain]
   rcases Nat.mod_two_eq_zero_or_one j with h2 | h2
   . rw [hq, h2] at hj ⊢
     rw [F 0 (by omega)] at hj
     simp only [puC] at hj
     rw [Nat.add_zero, c0]
     simpa using hj
   . rw [hq, h2] at hj ⊢
     rw [F 1 (by omega)] at hj
     simp only [puC] at hj
     rw [<- Nat.add_assoc, c1]
     simpa using hj
theorem l11Puts_any (v : Value) (xs : List Pu) (w : World) (h : PusAt w v xs) (hn : xs.length <= 1048576) :
  Calls Try.prog 131 #[v] w fun r w' => ∃ a c, r = .returned (.slice a xs.length c) /\ w'.ownsRow w.heap.size 52 2 (.slice a xs.length c) xs.length (xs.flatMap puC) /\ Below w.heap.size w w' := by
 obtain ⟨i0, hi, hz0, hz1, hz2⟩ := info_parts (P := Try.prog) (e := 52) (z := .agg #[.int .i64 0, .int .i64 0]) (size := 2) (bytes := 16) (by kernel_rfl)
 obtain ⟨a, cap, rfl, _⟩ := h.cap
 have HS := (show Hid (PusAt _ _ _) from h)
 clear h
 go_enter Try.func131, Try.ntmps131
 go_wp2_with (at_builtin; refine wpList_append_src rfl _ _ 53 rfl w.heap.size 52 i0 (.agg #[.int .i64 0, .int .i64 0]) 2 16 Try.underlying53 hi hz0 hz1 hz2 rfl (by decide) _ 0 [] rfl (own_new w _ 2 (by omega)) _ _ _ (xs.flatMap puC) rfl (flat_len 2 puC puC_len xs) (pus_src (HS.out.mono ((Below.refl _ _).alloc (Nat.le_refl _) _))) (puC_one _) (by unfold maxLen; omega) (by omega) (by simp) ?_)
 intro v' w' hown hgrow
 (try simp only [Nat.zero_add, List.nil_append] at hown)
 obtain ⟨a', c', rfl, _⟩ := own_shape hown
 have hb : Below w.heap.size w w' := Below.grown bq0 hgrow (by simp) (fun b hb => by simp [Value.ownBlock] at hb; subst hb; exact Nat.le_refl _)
 go_wp2_with fail
 go_ret
 exact ⟨_, _, rfl, hown, hb⟩
theorem SW.logA {X B : Nat} {w0 w1 w2 : World} {pc pb : Value} {p : Pr} {s : Sy} (h : SW X B w0 pc pb p s) (hb : Below w0.heap.size w0 w1) {f : Nat -> Key} {cv tv lv lv' : Value} {T : List TT} {L : List EE} (ho : OwnSy f B w0 cv tv lv s.cells T L) (hT : T.map (·.1) = s.tasks) (hL : L.map (·.1) = s.log) (k2 : w0.cell? ⟨X, 2, none⟩ = some cv) (k3 : w0.cell? ⟨X, 3, none⟩ = some tv)
   {e : En} {vd vu : Value} {m : Nat} (hd : w1.ownsRow w0.heap.size 52 2 vd e.reads.length (e.reads.flatMap puC)) (hu : w1.ownsRow w0.heap.size 52 2 vu e.puts.length (e.puts.flatMap puC)) (hdm : ∀ g, vd.ownBlock = some g -> g < m) (hum : ∀ g, vu.ownBlock = some g -> m <= g)
   (hl : w2.ownsRow B 55 6 lv' (L.length + 1) (L.flatMap enC ++ enC (e, ⟨vd, vu⟩))) (hg : w1.grownBy w2 lv.ownBlock) (hlb : ∀ g, lv'.ownBlock = some g -> lv.ownBlock = some g \/ w1.heap.size <= g) :
   SW X B (w2.setCell ⟨X, 5, none⟩ lv') pc pb p { s with log := s.log ++ [e] } := by
 have hXl : X < w0.heap.size := by have := h.le; have := h.lt; omega
 have hX1 : X < w1.heap.size := Nat.lt_of_lt_of_le hXl hb.size
 have hlv : ∀ g, lv.ownBlock = some g -> B <= g /\ g < w0.heap.size /\ f g = .l := fun g hg => ⟨(ho.l.1.lt g hg).1, (ho.l.1.lt g hg).2, ho.l.2 g hg⟩
 have hne : some X ≠ lv.ownBlock := fun e => by have := (hlv X e.symm).1; have := h.lt; omega
 have bl : ∀ k, k < w0.heap.size -> f k ≠ .l -> w2.heap[k]? = w0.heap[k]? := fun k hk hf => by
   rw [hg.block k (Nat.lt_of_lt_of_le hk hb.size) (fun e => hf (hlv k e.symm).2.2)]
   exact hb.block k hk
 have cl : ∀ o, w2.cell? ⟨X, o, none⟩ = w0.cell? ⟨X, o, none⟩ := fun o => World.cell?_of_block ((hg.block X hX1 hne).trans (hb.block X hXl))
 have fl : ∀ o, w2.frozen? ⟨X, o, none⟩ = w0.frozen? ⟨X, o, none⟩ := fun o => World.frozen?_of_block ((hg.block X hX1 hne).trans (hb.block X hXl))
 have hsz : w0.heap.size <= w2.heap.size := Nat.le_trans hb.size hg.size
 have H := ho.addL (f' := fun b => if b < w0.heap.size then f b else if b < w1.heap.size then (if b < m then .ed L.length else .eu L.length) else .l) (w' := w2) (lv' := lv') (e, ⟨vd, vu⟩) (fun b _ hb1 => if_pos hb1) (fun b _ hb1 hf => bl b hb1 hf)
   ⟨hl, fun g hg' => by
     rcases hlb g hg' with h1 | h1
     . show (if g < w0.heap.size then f g else _) = _
       rw [if_pos (hlv g h1).2.1]; exact (hlv g h1).2.2
     . show (if g < w0.heap.size then f g else _) = _
       rw [if_neg (by have := hb.size; omega), if_neg (by omega)]⟩
   ⟨⟨own_base (row_heap hd fun g hg' => hg.block g (hd.lt g hg').2 (fun e => by have := (hlv g e.symm).2.1; have := (hd.lt g hg').1; omega)) (by have := h.le; omega), fun g hg' => by
       have h1 := hd.lt g hg'
       show (if g < w0.heap.size then f g else _) = _
       rw [if_neg (by omega), if_pos h1.2, if_pos (hdm g hg')]⟩,
    ⟨own_base (row_heap hu fun g hg' => hg.block g (hu.lt g hg').2 (fun e => by have := (hlv g e.symm).2.1; have := (hu.lt g hg').1; omega)) (by have := h.le; omega), fun g hg' => by
       have h1 := hu.lt g hg'
       have h2 := hum g hg'
       show (if g < w0.heap.size then f g else _) = _
       rw [if_neg (by omega), if_pos h1.2, if_neg (by omega)]⟩⟩
 have hc : ∀ o, o ≠ 5 -> (w2.setCell ⟨X, 5, none⟩ lv').cell? ⟨X, o, none⟩ = w0.cell? ⟨X, o, none⟩ := fun o ho5 => (cell_set_other w2 X 5 lv' ⟨X, o, none⟩ (fun e => ho5 (by injection e))).trans (cl o)
 have hk5 : ∃ q, w2.cell? ⟨X, 5, none⟩ = some q := by
   obtain ⟨f', cv', tv', lv0, T', L', _, _, _, _, _, h6⟩ := h.ex
   exact ⟨lv0, (cl 5).trans h6⟩
 refine h.with (s' := { s with log := s.log ++ [e] }) (H.setX h.lt _) hT (by rw [List.map_append, hL]; rfl) ?_ ((hc 2 (by omega)).trans k2) ((hc 3 (by omega)).trans k3) ?_ ((hc 0 (by omega)).trans h.c0) ((hc 1 (by omega)).trans h.c1) ((hc 4 (by omega)).trans h.c4) (fun o => by rw [World.frozen?_setCell, fl]; exact h.fz o)
 . refine FrS.setCell ?_ (Or.inl rfl) _
   exact ⟨hg.os.trans hb.os, hg.tape.trans hb.tape, hg.output.trans hb.output, hsz, fun k hk hS => by
     have : ¬ (k = X \/ B <= k) := hS
     rw [hg.block k (Nat.lt_of_lt_of_le hk hb.size) (fun e => by have := (hlv k e.symm).1; omega)]
     exact hb.block k hk⟩
 . obtain ⟨q, hq⟩ := hk5
   exact World.cell?_setCell_same w2 ⟨X, 5, none⟩ _ hq
end Go.Proofs.Ytgbgjljflgbcaaa
