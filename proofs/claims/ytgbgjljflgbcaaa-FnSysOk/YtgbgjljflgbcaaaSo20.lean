import Derived.Test.YtgbgjljflgbcaaaSo19
import Derived.Test.YtgbgjljflgbcaaaSo01
namespace Go.Proofs.Ytgbgjljflgbcaaa
set_option maxHeartbeats 8000000
open Go.RowKit
set_option linter.unusedSimpArgs false
set_option linter.unusedVariables false
set_option maxRecDepth 20000
theorem SW.celA {X B : Nat} {w : World} {pc pb : Value} {p : Pr} {s : Sy} (h : SW X B w pc pb p s) {g n cap c : Nat} (hXg : X ≠ g) (hg : w.cell? ⟨X, 2, none⟩ = some (.slice (some ⟨g, 0, none⟩) n cap)) (hcl : c < s.cells.length) (a b d : Int) :
  SW X B (((w.setCell ⟨g, c * 3, none⟩ (.int .i64 a)).setCell ⟨g, c * 3 + 1, none⟩ (.int .i64 b)).setCell ⟨g, c * 3 + 2, none⟩ (.int .i64 d)) pc pb p { s with cells := s.cells.set c ⟨a, b, d⟩ } := by
 have h1 := h.cel hg hcl (j := 0) (by omega) (.int .i64 a) { nth Ce.z s.cells c with num := a } rfl
 have g1 : (w.setCell ⟨g, c * 3 + 0, none⟩ (.int .i64 a)).cell? ⟨X, 2, none⟩ = some (.slice (some ⟨g, 0, none⟩) n cap) := by rw [cell_set_blk _ _ _ _ _ _ hXg]; exact hg
 have h2 := h1.cel g1 (c := c) (by simpa using hcl) (j := 1) (by omega) (.int .i64 b) { nth Ce.z s.cells c with num := a, time := b } (by show _ = (ceC (nth Ce.z (s.cells.set c _) c)).set 1 _; rw [nth_set' _ _ _ _ _ hcl, if_pos rfl]; rfl)
 have g2 : ((w.setCell ⟨g, c * 3 + 0, none⟩ (.int .i64 a)).setCell ⟨g, c * 3 + 1, none⟩ (.int .i64 b)).cell? ⟨X, 2, none⟩ = some (.slice (some ⟨g, 0, none⟩) n cap) := by rw [cell_set_blk _ _ _ _ _ _ hXg]; exact g1
 have h3 := h2.cel g2 (c := c) (by simpa using hcl) (j := 2) (by omega) (.int .i64 d) ⟨a, b, d⟩ (by show _ = (ceC (nth Ce.z ((s.cells.set c _).set c _) c)).set 2 _; rw [nth_set' _ _ _ _ _ (by simpa using hcl), if_pos rfl]; rfl)
 have e : ((s.cells.set c { nth Ce.z s.cells c with num := a }).set c { nth Ce.z s.cells c with num := a, time := b }).set c ⟨a, b, d⟩ = s.cells.set c ⟨a, b, d⟩ := by simp
 have h4 : SW X B _ pc pb p { s with cells := ((s.cells.set c { nth Ce.z s.cells c with num := a }).set c { nth Ce.z s.cells c with num := a, time := b }).set c ⟨a, b, d⟩ } := h3
 rw [e] at h4
 exact h4
theorem write_any (X B : Nat) (pc pb : Value) (p : Pr) (s : Sy) (i : Nat) (w : World) (h : SW X B w pc pb p s) (hi : i < s.tasks.length) (hnp : Np p s) (hst : (tkN s i).stage = 5) (hn : s.cells.length <= 1048576) (hln : s.log.length <= 1048576) :
   Calls Try.prog 163 #[.pointer (some ⟨X, 0, none⟩), .int .i64 (i : Int)] w fun r w' => r = .returned (.tuple #[]) /\ SW X B w' pc pb p (writeS s i) /\ FrS (SX X B) w w' := by
 have hT := hnp.t i hi
 obtain ⟨_, hat0, hat1⟩ := hT.five hst
 have hold : (tkN s i).old.length = 3 := (rgB_iff.1 hT.old).1
 have hrl : (tkN s i).reads.length <= 1048576 := by have := puB_len hT.reads; have := hnp.cs; omega
 have hul : (tkN s i).puts.length <= 1048576 := by have := puB_len hT.puts; have := hnp.cs; omega
 have hpu := hT.puts
 have hcs := hnp.cs
 have hpc : 0 <= (tkN s i).pc /\ (tkN s i).pc <= 100 := hT.pc100 hnp.ok
 obtain ⟨k, hk⟩ : ∃ k : Nat, (tkN s i).at_ = (k : Int) := ⟨(tkN s i).at_.toNat, by omega⟩
 clear hT hnp
 obtain ⟨f, cv, g, cap, lv, T, L, V, h1, h2, h3, h4, h5, h6, h7, h8, h9⟩ := h.tk hi
 obtain ⟨a3, c3, a8, c8, a9, c9, a10, c10, rfl⟩ := h7.ti.shapes
 obtain ⟨t0, t1, t2, t3, t4, t5, t6, t7, t8, t9, t10, t11, t12⟩ := h7.cells
 simp only at t3 t8 t9 t10
 have tz := h7.fz
 have hi' : (i : Int) < (s.tasks.length : Int) := by omega
 have hX := h.lt
 have hB := h.le
 have hgB := h7.ge
 have hgl := h7.lt
 have hXl : X < w.heap.size := by omega
 have hXg : X ≠ g := by omega
 have HTI := (show Hid (TIn _ _ _ _ _) from h7.ti)
 have HK := (show Hid (f g = .t /\ ∀ b, cv.ownBlock = some b -> f b = .c) from ⟨h7.key, h1.c.2⟩)
 have HS := (show Hid (SW _ _ _ _ _ _ _) from h)
 clear h1 h2 h3 h7 h8 h9 h
 rw [hk] at t6
 have hkl : k < (tkN s i).puts.length := by omega
 obtain ⟨b10, e10, b10B, b10l, u0, u1⟩ := pR_nth HTI.out.u hkl
 subst e10
 have hc := puB_nth hpu hkl
 have hpn : putN (tkN s i) = nth Pu.z (tkN s i).puts k := by unfold putN; rw [hk, Int.toNat_natCast]
 obtain ⟨cn, hcn⟩ : ∃ cn : Nat, (nth Pu.z (tkN s i).puts k).c = (cn : Int) := ⟨(nth Pu.z (tkN s i).puts k).c.toNat, by omega⟩
 have hcl : cn < s.cells.length := by omega
 have hcl' : (cn : Int) < (s.cells.length : Int) := by omega
 have hkl2 : (k : Int) < ((tkN s i).puts.length : Int) := by omega
 have hce : ceN s (cn : Int) = nth Ce.z s.cells cn := by unfold ceN; rw [Int.toNat_natCast]
 have hwr : IntKind.i64.wrap ((k : Int) + 1) = (k : Int) + 1 := by rw [IntKind.wrap_i64]; omega
 rw [hcn] at u0
 have HOLD := (show Hid (_ = _) from hold)
 clear hold hst
 obtain ⟨gc, kc, x2, gcB, gcl, cc, cz⟩ := HS.out.cs hcl
 obtain ⟨d0, d1, d2⟩ := cc cn hcl
 have hgcg : gc ≠ g := by
   have x2' := x2
   rw [h4] at x2'
   injection x2' with e
   intro q
   have h1 := HK.out.2 gc (by rw [e]; rfl)
   rw [q, HK.out.1] at h1
   cases h1
 have hXgc : X ≠ gc := by omega
 clear cc h4
 have hXg' : g ≠ gc := fun e => hgcg e.symm
 have W1 : write1 s i = setTk { s with cells := s.cells.set cn ⟨(nth Pu.z (tkN s i).puts k).n, (tkN s i).when_, -1⟩ } i { tkN s i with at_ := (k : Int) + 1 } := by
   unfold write1; rw [hpn, hcn, Int.toNat_natCast, hk]
 have A0 := HS.out.celA hXgc x2 hcl (nth Pu.z (tkN s i).puts k).n (tkN s i).when_ (-1)
 have G0 : (((w.setCell ⟨gc, cn * 3, none⟩ (.int .i64 (nth Pu.z (tkN s i).puts k).n)).setCell ⟨gc, cn * 3 + 1, none⟩ (.int .i64 (tkN s i).when_)).setCell ⟨gc, cn * 3 + 2, none⟩ (.int .i64 (-1))).cell? ⟨X, 3, none⟩ = some (.slice (some ⟨g, 0, none⟩) s.tasks.length cap) := by rw [cell_set_blk _ _ _ _ _ _ hXgc, cell_set_blk _ _ _ _ _ _ hXgc, cell_set_blk _ _ _ _ _ _ hXgc]; exact h5
 have A1H : Hid (SW X B (((((((w.setCell ⟨gc, cn * 3, none⟩ (.int .i64 (nth Pu.z (tkN s i).puts k).n)).setCell ⟨gc, cn * 3 + 1, none⟩ (.int .i64 (tkN s i).when_)).setCell ⟨gc, cn * 3 + 2, none⟩ (.int .i64 (-1))).setCell ⟨g, i * 13 + 6, none⟩ (.int .i64 ((k : Int) + 1))).alloc (.cells #[.int .i64 (tkN s i).body, .int .i64 (tkN s i).pc, .int .i64 (tkN s i).up, .slice a3 (tkN s i).regs.length c3, .int .i64 (tkN s i).way, .int .i64 (tkN s i).stage, .int .i64 (k : Int), .int .i64 (tkN s i).since, .slice a8 (tkN s i).old.length c8, .slice a9 (tkN s i).reads.length c9, .slice (some ⟨b10, 0, none⟩) (tkN s i).puts.length c10, .int .i64 (tkN s i).when_, .int .i64 (tkN s i).from_] 70)).alloc (.cells #[.int .i64 (cn : Int), .int .i64 (nth Pu.z (tkN s i).puts k).n] 52)).drewN 2) pc pb p (write1 s i)) := by
   unfold Hid
   rw [W1]
   exact ((((A0.scs [(6, (k : Int) + 1)] rfl G0 hi).alloc _).alloc _).drew).drew
 have FH : Hid (FrS (SX X B) w (((((((w.setCell ⟨gc, cn * 3, none⟩ (.int .i64 (nth Pu.z (tkN s i).puts k).n)).setCell ⟨gc, cn * 3 + 1, none⟩ (.int .i64 (tkN s i).when_)).setCell ⟨gc, cn * 3 + 2, none⟩ (.int .i64 (-1))).setCell ⟨g, i * 13 + 6, none⟩ (.int .i64 ((k : Int) + 1))).alloc (.cells #[.int .i64 (tkN s i).body, .int .i64 (tkN s i).pc, .int .i64 (tkN s i).up, .slice a3 (tkN s i).regs.length c3, .int .i64 (tkN s i).way, .int .i64 (tkN s i).stage, .int .i64 (k : Int), .int .i64 (tkN s i).since, .slice a8 (tkN s i).old.length c8, .slice a9 (tkN s i).reads.length c9, .slice (some ⟨b10, 0, none⟩) (tkN s i).puts.length c10, .int .i64 (tkN s i).when_, .int .i64 (tkN s i).from_] 70)).alloc (.cells #[.int .i64 (cn : Int), .int .i64 (nth Pu.z (tkN s i).puts k).n] 52)).drewN 2)) := ((((((((FrS.refl _ _).setCell (Or.inr gcB) _).setCell (Or.inr gcB) _).setCell (Or.inr gcB) _).setCell (Or.inr hgB) _).alloc _).alloc _).drew).drew
 have ET : tkN (write1 s i) i = { tkN s i with at_ := (k : Int) + 1 } := by rw [W1]; exact tkN_same (s := { s with cells := _ }) hi
 have HE : Hid ((0 <= (tkN (write1 s i) i).pc /\ (tkN (write1 s i) i).pc <= 100) /\ (tkN (write1 s i) i).reads.length <= 1048576 /\ (tkN (write1 s i) i).puts.length <= 1048576 /\ (write1 s i).log.length <= 1048576 /\ i < (write1 s i).tasks.length) := by
   unfold Hid
   rw [ET]
   exact ⟨hpc, hrl, hul, by rw [W1]; exact hln, by rw [W1, setTk_len]; exact hi⟩
 have HWS : Hid (writeS s i = if (k : Int) + 1 = (tkN s i).puts.length then endS (write1 s i) i (tkN s i).when_ else write1 s i) := by unfold Hid writeS; rw [hk]
 clear hat0 hat1 hpu hcs hc hcn hpn hce hk A0 G0 W1 ET hln hpc hrl hul
 by_cases qe : (k : Int) + 1 = (tkN s i).puts.length
 . have qe' : ((k : Int) + 1 == ((tkN s i).puts.length : Int)) = true := by simp [qe]
   have HG2 : Hid (writeS s i = endS (write1 s i) i (tkN s i).when_) := by unfold Hid; rw [HWS.out, if_pos qe]
   have QE := (show Hid (_ = _) from qe)
   clear qe HWS
   go_enter Try.func163, Try.ntmps163
   go_wp2_with fail
   go_region
   all_goals
     go_wp2_with fail
     go_region
     all_goals
       go_wp2_with fail
       refine (end_any X B pc pb p _ i (tkN s i).when_ _ A1H.out HE.out.2.2.2.2 HE.out.1 HE.out.2.1 HE.out.2.2.1 HE.out.2.2.2.1).mono ?_
       rintro e w2 ⟨rfl, hs2, hf2⟩
       have HS2 := (show Hid (SW _ _ _ _ _ _ _) from hs2)
       have HF2 : Hid (FrS (SX X B) w w2) := FH.out.trans hf2
       clear hs2 hf2
       go_wp2_with fail
       go_end0
       exact ⟨rfl, by rw [HG2.out]; exact HS2.out, HF2.out⟩
 . have qe' : ((k : Int) + 1 == ((tkN s i).puts.length : Int)) = false := by simp [qe]
   have HG2 : Hid (writeS s i = write1 s i) := by unfold Hid; rw [HWS.out, if_neg qe]
   clear qe HWS
   go_enter Try.func163, Try.ntmps163
   go_wp2_with fail
   go_region
   all_goals
     go_wp2_with fail
     go_region
     all_goals
       go_wp2_with fail
       go_end0
       exact ⟨rfl, by rw [HG2.out]; exact A1H.out, FH.out⟩

set_option maxRecDepth 20000
theorem world_ext {w w' : World} (h : ∀ k : Nat, w'.heap[k]? = w.heap[k]?) (h1 : w'.tape = w.tape) (h2 : w'.drawn = w.drawn) (h3 : w'.os = w.os) (h4 : w'.output = w.output) : w' = w := by
 have : w'.heap = w.heap := Array.ext_getElem? h
 cases w; cases w'; simp_all
theorem set_comm (w : World) (g a b : Nat) (u v : Value) (hab : a ≠ b) : (w.setCell ⟨g, a, none⟩ u).setCell ⟨g, b, none⟩ v = (w.setCell ⟨g, b, none⟩ v).setCell ⟨g, a, none⟩ u := by
 refine world_ext (fun k => ?_) rfl rfl rfl rfl
 unfold World.setCell
 simp only [Array.getElem?_modify]
 by_cases e : g = k
 . subst e
   simp only [if_true]
   cases w.heap[g]? with
   | none => rfl
   | some o => cases o <;> simp [Array.setIfInBounds_comm _ _ hab]
 . simp [e]
theorem set_id {w : World} {g o : Nat} {cur : Array Value} {t : TypeId} {v : Value} (hg : w.heap[g]? = some (.cells cur t (0, 0))) (hv : cur[o]? = some v) : w.setCell ⟨g, o, none⟩ v = w :=
 world_ext (heap_set_id hg hv) rfl rfl rfl rfl
theorem SW.setSame {X B : Nat} {w : World} {pc pb : Value} {p : Pr} {s : Sy} (h : SW X B w pc pb p s) {g cap n i o : Nat} {v : Value} (hg : w.cell? ⟨X, 3, none⟩ = some (.slice (some ⟨g, 0, none⟩) n cap)) (hi : i < s.tasks.length) (hv : w.cell? ⟨g, o, none⟩ = some v) : w.setCell ⟨g, o, none⟩ v = w := by
 obtain ⟨f, cv, g', cap', lv, T, L, V, h1, h2, h3, h4, h5, h6, h7, h8, h9⟩ := h.tk hi
 rw [hg] at h5
 simp only [Option.some.injEq, Value.slice.injEq, Addr.mk.injEq, and_true] at h5
 obtain ⟨rfl, rfl, rfl⟩ := h5
 rcases h1.t.1.2 with ⟨e, _⟩ | ⟨g2, cap2, cur, e, hb, hgg, _⟩
 . cases e
 . injection e with e1
   injection e1 with e1
   injection e1 with e1
   subst e1
   rw [cell_of_row w _ o cur _ (0, 0) hgg] at hv
   exact set_id hgg hv
theorem own_newH (W : World) (t : TypeId) (sz H B : Nat) (hs : 0 < sz) (hH : W.heap.size = H) (hB : B <= H) : (W.alloc (.cells #[] t)).ownsRow B t sz (.slice (some ⟨H, 0, none⟩) 0 0) 0 [] := by
 subst hH; exact own_base (own_new W t sz hs) hB
theorem begin_any (X B : Nat) (pc pb : Value) (p : Pr) (s : Sy) (i : Nat) (w : World) (h : SW X B w pc pb p s) (hi : i < s.tasks.length) (hr : (tkN s i).regs.length = 3) (hln : s.log.length <= 1048576) :
   Calls Try.prog 158 #[.pointer (some ⟨X, 0, none⟩), .int .i64 (i : Int)] w fun r w' => r = .returned (.tuple #[]) /\ SW X B w' pc pb p (setTk s i (beginT s (tkN s i))) /\ FrS (SX X B) w w' := by
 obtain ⟨i0, hi0, hz0, hz1, hz2⟩ := info_parts Try.info_int
 have h4c := h.c4
 have hlv : ∃ al cl, w.cell? ⟨X, 5, none⟩ = some (.slice al s.log.length cl) := by
   obtain ⟨f, cv, tv, lv, T, L, h1, h2, h3, h4, h5, h6⟩ := h.ex
   obtain ⟨al, cl, el, _⟩ := own_shape h1.l.1
   have hLl : L.length = s.log.length := by rw [<- h3]; simp
   exact ⟨al, cl, by rw [h6, el, hLl]⟩
 obtain ⟨f, cv, g, cap, lv, T, L, V, h1, h2, h3, h4, h5, h6, h7, h8, h9⟩ := h.tk hi
 obtain ⟨a3, c3, a8, c8, a9, c9, a10, c10, rfl⟩ := h7.ti.shapes
 obtain ⟨t0, t1, t2, t3, t4, t5, t6, t7, t8, t9, t10, t11, t12⟩ := h7.cells
 simp only at t3 t8 t9 t10
 have tz := h7.fz
 have hi' : (i : Int) < (s.tasks.length : Int) := by omega
 have hX := h.lt
 have hB := h.le
 have hgB := h7.ge
 have hgl := h7.lt
 have hXl : X < w.heap.size := by omega
 have hXg : X ≠ g := by omega
 have HTI := (show Hid (TIn _ _ _ _ _) from h7.ti)
 have HK := (show Hid (f g = .t /\ ∀ b, cv.ownBlock = some b -> f b = .c) from ⟨h7.key, h1.c.2⟩)
 have HS := (show Hid (SW _ _ _ _ _ _ _) from h)
 clear h1 h2 h3 h7 h8 h9 h
 clear h6
 obtain ⟨al, cl, h6⟩ := hlv
 have HR := (show Hid (_ = _) from hr)
 have HPI : Hid (IntsAt w (.slice a3 (tkN s i).regs.length c3) (tkN s i).regs) := iR_at HTI.out.r
 have hr1 : (tkN s i).regs.length <= 1048576 := by omega
 clear hr
 go_enter Try.func158, Try.ntmps158
 go_wp2_with (at_builtin; go_loud (refine wpList_append_src rfl _ _ 23 rfl w.heap.size 3 i0 (.int .i64 0) 1 8 Try.underlying23 hi0 hz0 hz1 hz2 rfl (by decide) _ 0 [] rfl (own_newH _ _ 1 _ _ (by omega) (by first | rfl | simp | simp [go_sem]) (by omega)) _ _ _ ((tkN s i).regs.map (Value.int .i64)) rfl (by simp) (ints_from (HPI.out.mono bq0)) (ints_one _) (by unfold maxLen; omega) (by omega) (by (try simp); try omega) ?_))
 intro v' w4 hown hgrow
 obtain ⟨vo, vc, rfl, _⟩ := own_shape hown
 have HB4 : Hid (Below w.heap.size w w4) := Below.grown bq0 hgrow (by (try simp); try omega) (fun b hb => by simp [Value.ownBlock] at hb; omega)
 have HO4 := (show Hid (World.ownsRow _ _ _ _ _ _ _) from hown)
 have HNB : Hid (∀ b, (Value.slice vo (tkN s i).regs.length vc).ownBlock = some b -> b ≠ w.heap.size) := fun b hb e => by
   have h1 := hown
   rcases h1.2 with ⟨e1, _⟩ | ⟨g', cap', cur, e1, _, hg', _⟩
   . rw [e1] at hb; cases hb
   . rw [e1] at hb
     injection hb with hb
     have hb' : g' = b := hb
     rw [hb', e] at hg'
     have h2 := (hgrow.block w.heap.size (by (try simp); try omega) (by simp [Value.ownBlock]))
     have h3 : ((w.alloc (.cells #[.int .i64 (tkN s i).body, .int .i64 (tkN s i).pc, .int .i64 (tkN s i).up, .slice a3 (tkN s i).regs.length c3, .int .i64 (tkN s i).way, .int .i64 (tkN s i).stage, .int .i64 (tkN s i).at_, .int .i64 s.clock, .slice a8 (tkN s i).old.length c8, .slice a9 (tkN s i).reads.length c9, .slice a10 (tkN s i).puts.length c10, .int .i64 (tkN s i).when_, .int .i64 (tkN s i).from_] 70)).alloc (.cells #[] 3)).heap[w.heap.size]? = some (.cells #[.int .i64 (tkN s i).body, .int .i64 (tkN s i).pc, .int .i64 (tkN s i).up, .slice a3 (tkN s i).regs.length c3, .int .i64 (tkN s i).way, .int .i64 (tkN s i).stage, .int .i64 (tkN s i).at_, .int .i64 s.clock, .slice a8 (tkN s i).old.length c8, .slice a9 (tkN s i).reads.length c9, .slice a10 (tkN s i).puts.length c10, .int .i64 (tkN s i).when_, .int .i64 (tkN s i).from_] 70) := ((((Below.refl (w.alloc (.cells #[.int .i64 (tkN s i).body, .int .i64 (tkN s i).pc, .int .i64 (tkN s i).up, .slice a3 (tkN s i).regs.length c3, .int .i64 (tkN s i).way, .int .i64 (tkN s i).stage, .int .i64 (tkN s i).at_, .int .i64 s.clock, .slice a8 (tkN s i).old.length c8, .slice a9 (tkN s i).reads.length c9, .slice a10 (tkN s i).puts.length c10, .int .i64 (tkN s i).when_, .int .i64 (tkN s i).from_] 70)).heap.size (w.alloc (.cells #[.int .i64 (tkN s i).body, .int .i64 (tkN s i).pc, .int .i64 (tkN s i).up, .slice a3 (tkN s i).regs.length c3, .int .i64 (tkN s i).way, .int .i64 (tkN s i).stage, .int .i64 (tkN s i).at_, .int .i64 s.clock, .slice a8 (tkN s i).old.length c8, .slice a9 (tkN s i).reads.length c9, .slice a10 (tkN s i).puts.length c10, .int .i64 (tkN s i).when_, .int .i64 (tkN s i).from_] 70))).alloc (Nat.le_refl _) (.cells #[] 3)).block w.heap.size (by simp))).trans (heap_top w _)
     rw [hg', h3] at h2
     simp at h2
 have hbx : ∀ o, w4.cell? ⟨w.heap.size, o, none⟩ = ((w.alloc (.cells #[.int .i64 (tkN s i).body, .int .i64 (tkN s i).pc, .int .i64 (tkN s i).up, .slice a3 (tkN s i).regs.length c3, .int .i64 (tkN s i).way, .int .i64 (tkN s i).stage, .int .i64 (tkN s i).at_, .int .i64 s.clock, .slice a8 (tkN s i).old.length c8, .slice a9 (tkN s i).reads.length c9, .slice a10 (tkN s i).puts.length c10, .int .i64 (tkN s i).when_, .int .i64 (tkN s i).from_] 70)).alloc (.cells #[] 3)).cell? ⟨w.heap.size, o, none⟩ := fun o => World.cell?_of_block (hgrow.block w.heap.size (by (try simp); try omega) (by simp [Value.ownBlock]))
 have hbz : ∀ o, w4.frozen? ⟨w.heap.size, o, none⟩ = false := fun o => by rw [World.frozen?_of_block (hgrow.block w.heap.size (by (try simp); try omega) (by simp [Value.ownBlock]))]; simp [go_sem]
 have x0 : w4.cell? ⟨w.heap.size, 0, none⟩ = some (.int .i64 (tkN s i).body) := by rw [hbx]; simp [go_sem]
 have x1 : w4.cell? ⟨w.heap.size, 1, none⟩ = some (.int .i64 (tkN s i).pc) := by rw [hbx]; simp [go_sem]
 have x2 : w4.cell? ⟨w.heap.size, 2, none⟩ = some (.int .i64 (tkN s i).up) := by rw [hbx]; simp [go_sem]
 have x3 : w4.cell? ⟨w.heap.size, 3, none⟩ = some (.slice a3 (tkN s i).regs.length c3) := by rw [hbx]; simp [go_sem]
 have x4 : w4.cell? ⟨w.heap.size, 4, none⟩ = some (.int .i64 (tkN s i).way) := by rw [hbx]; simp [go_sem]
 have x5 : w4.cell? ⟨w.heap.size, 5, none⟩ = some (.int .i64 (tkN s i).stage) := by rw [hbx]; simp [go_sem]
 have x6 : w4.cell? ⟨w.heap.size, 6, none⟩ = some (.int .i64 (tkN s i).at_) := by rw [hbx]; simp [go_sem]
 have x7 : w4.cell? ⟨w.heap.size, 7, none⟩ = some (.int .i64 s.clock) := by rw [hbx]; simp [go_sem]
 have x8 : w4.cell? ⟨w.heap.size, 8, none⟩ = some (.slice a8 (tkN s i).old.length c8) := by rw [hbx]; simp [go_sem]
 have x9 : w4.cell? ⟨w.heap.size, 9, none⟩ = some (.slice a9 (tkN s i).reads.length c9) := by rw [hbx]; simp [go_sem]
 have x10 : w4.cell? ⟨w.heap.size, 10, none⟩ = some (.slice a10 (tkN s i).puts.length c10) := by rw [hbx]; simp [go_sem]
 have x11 : w4.cell? ⟨w.heap.size, 11, none⟩ = some (.int .i64 (tkN s i).when_) := by rw [hbx]; simp [go_sem]
 have x12 : w4.cell? ⟨w.heap.size, 12, none⟩ = some (.int .i64 (tkN s i).from_) := by rw [hbx]; simp [go_sem]
 have hz4 : w.heap.size + 1 < w4.heap.size + 1 := by have := hgrow.size; simp at this; omega
 have hz4' : w.heap.size < w4.heap.size := by omega
 have y3 : w4.cell? ⟨X, 3, none⟩ = some (.slice (some ⟨g, 0, none⟩) s.tasks.length cap) := by rw [HB4.out.cell (p := ⟨X, 3, none⟩) hXl]; exact h5
 have y5 : w4.cell? ⟨X, 5, none⟩ = some (.slice al s.log.length cl) := by rw [HB4.out.cell (p := ⟨X, 5, none⟩) hXl]; exact h6
 have yz : ∀ o, w4.frozen? ⟨g, o, none⟩ = false := fun o => by rw [HB4.out.frozen (p := ⟨g, o, none⟩) hgl]; exact tz o
 have gk0 : w4.cell? ⟨g, i * 13, none⟩ = some (.int .i64 (tkN s i).body) := by rw [HB4.out.cell (p := ⟨g, i * 13, none⟩) hgl]; exact t0
 have gk1 : w4.cell? ⟨g, i * 13 + 1, none⟩ = some (.int .i64 (tkN s i).pc) := by rw [HB4.out.cell (p := ⟨g, i * 13 + 1, none⟩) hgl]; exact t1
 have gk2 : w4.cell? ⟨g, i * 13 + 2, none⟩ = some (.int .i64 (tkN s i).up) := by rw [HB4.out.cell (p := ⟨g, i * 13 + 2, none⟩) hgl]; exact t2
 have gk3 : w4.cell? ⟨g, i * 13 + 3, none⟩ = some (.slice a3 (tkN s i).regs.length c3) := by rw [HB4.out.cell (p := ⟨g, i * 13 + 3, none⟩) hgl]; exact t3
 have gk4 : w4.cell? ⟨g, i * 13 + 4, none⟩ = some (.int .i64 (tkN s i).way) := by rw [HB4.out.cell (p := ⟨g, i * 13 + 4, none⟩) hgl]; exact t4
 have gk5 : w4.cell? ⟨g, i * 13 + 5, none⟩ = some (.int .i64 (tkN s i).stage) := by rw [HB4.out.cell (p := ⟨g, i * 13 + 5, none⟩) hgl]; exact t5
 have gk6 : w4.cell? ⟨g, i * 13 + 6, none⟩ = some (.int .i64 (tkN s i).at_) := by rw [HB4.out.cell (p := ⟨g, i * 13 + 6, none⟩) hgl]; exact t6
 have gk7 : w4.cell? ⟨g, i * 13 + 7, none⟩ = some (.int .i64 (tkN s i).since) := by rw [HB4.out.cell (p := ⟨g, i * 13 + 7, none⟩) hgl]; exact t7
 have gk8 : w4.cell? ⟨g, i * 13 + 8, none⟩ = some (.slice a8 (tkN s i).old.length c8) := by rw [HB4.out.cell (p := ⟨g, i * 13 + 8, none⟩) hgl]; exact t8
 have gk9 : w4.cell? ⟨g, i * 13 + 9, none⟩ = some (.slice a9 (tkN s i).reads.length c9) := by rw [HB4.out.cell (p := ⟨g, i * 13 + 9, none⟩) hgl]; exact t9
 have gk10 : w4.cell? ⟨g, i * 13 + 10, none⟩ = some (.slice a10 (tkN s i).puts.length c10) := by rw [HB4.out.cell (p := ⟨g, i * 13 + 10, none⟩) hgl]; exact t10
 have gk11 : w4.cell? ⟨g, i * 13 + 11, none⟩ = some (.int .i64 (tkN s i).when_) := by rw [HB4.out.cell (p := ⟨g, i * 13 + 11, none⟩) hgl]; exact t11
 have gk12 : w4.cell? ⟨g, i * 13 + 12, none⟩ = some (.int .i64 (tkN s i).from_) := by rw [HB4.out.cell (p := ⟨g, i * 13 + 12, none⟩) hgl]; exact t12
 have yXl : X < w4.heap.size := by omega
 have ygl : g < w4.heap.size := by omega
 have hgb : g ≠ w.heap.size := by omega
 have hXb : X ≠ w.heap.size := by omega
 have SF : Hid (∀ W, Below w.heap.size w W -> W.ownsRow w.heap.size 3 1 (.slice vo (tkN s i).regs.length vc) (tkN s i).regs.length ((tkN s i).regs.map (Value.int .i64)) -> SW X B (((((((((((((W.setCell ⟨g, i * 13, none⟩ (.int .i64 (tkN s i).body)).setCell ⟨g, i * 13 + 1, none⟩ (.int .i64 (tkN s i).pc)).setCell ⟨g, i * 13 + 2, none⟩ (.int .i64 (tkN s i).up)).setCell ⟨g, i * 13 + 3, none⟩ (.slice a3 (tkN s i).regs.length c3)).setCell ⟨g, i * 13 + 4, none⟩ (.int .i64 (tkN s i).way)).setCell ⟨g, i * 13 + 5, none⟩ (.int .i64 (tkN s i).stage)).setCell ⟨g, i * 13 + 6, none⟩ (.int .i64 (tkN s i).at_)).setCell ⟨g, i * 13 + 7, none⟩ (.int .i64 s.clock)).setCell ⟨g, i * 13 + 8, none⟩ (.slice vo (tkN s i).regs.length vc)).setCell ⟨g, i * 13 + 9, none⟩ (.slice a9 (tkN s i).reads.length c9)).setCell ⟨g, i * 13 + 10, none⟩ (.slice a10 (tkN s i).puts.length c10)).setCell ⟨g, i * 13 + 11, none⟩ (.int .i64 0)).setCell ⟨g, i * 13 + 12, none⟩ (.int .i64 (s.log.length : Int))) pc pb p (setTk s i { tkN s i with since := s.clock, old := (tkN s i).regs, when_ := 0, from_ := s.log.length })) := by
   intro W hb hv
   have HW := HS.out.below hb
   have gW : W.cell? ⟨X, 3, none⟩ = some (.slice (some ⟨g, 0, none⟩) s.tasks.length cap) := by rw [hb.cell (p := ⟨X, 3, none⟩) hXl]; exact h5
   have cW : ∀ o, W.cell? ⟨g, o, none⟩ = w.cell? ⟨g, o, none⟩ := fun o => hb.cell (p := ⟨g, o, none⟩) hgl
   rw [HW.setSame gW hi ((cW _).trans t0), HW.setSame gW hi ((cW _).trans t1), HW.setSame gW hi ((cW _).trans t2), HW.setSame gW hi ((cW _).trans t3), HW.setSame gW hi ((cW _).trans t4), HW.setSame gW hi ((cW _).trans t5), HW.setSame gW hi ((cW _).trans t6)]
   have A1 := HS.out.no hb h5 hi hv
   have G1 := HW.set3 (o := i * 13 + 8) (v := .slice vo (tkN s i).regs.length vc) gW hi
   have l1 : i < (setTk s i { tkN s i with old := (tkN s i).regs }).tasks.length := by rw [setTk_len]; exact hi
   have A2 : SW X B ((W.setCell ⟨g, i * 13 + 8, none⟩ (.slice vo (tkN s i).regs.length vc)).setCell ⟨g, i * 13 + 7, none⟩ (.int .i64 s.clock)) pc pb p _ := A1.scs [(7, s.clock)] rfl G1 l1
   have G2 := A1.set3 (o := i * 13 + 7) (v := .int .i64 s.clock) G1 l1
   have l2 : i < (setTk (setTk s i { tkN s i with old := (tkN s i).regs }) i (scsT [(7, s.clock)] (tkN (setTk s i { tkN s i with old := (tkN s i).regs }) i))).tasks.length := by rw [setTk_len]; exact l1
   rw [set_comm W g (i * 13 + 7) (i * 13 + 8) _ _ (by omega)]
   have c2 : ∀ k, k ≠ i * 13 + 7 -> k ≠ i * 13 + 8 -> ((W.setCell ⟨g, i * 13 + 8, none⟩ (.slice vo (tkN s i).regs.length vc)).setCell ⟨g, i * 13 + 7, none⟩ (.int .i64 s.clock)).cell? ⟨g, k, none⟩ = w.cell? ⟨g, k, none⟩ := fun k h7 h8 => by
     rw [cell_set_other _ _ _ _ ⟨g, k, none⟩ (fun e => h7 (by injection e)), cell_set_other _ _ _ _ ⟨g, k, none⟩ (fun e => h8 (by injection e))]; exact cW k
   rw [A2.setSame G2 l2 ((c2 _ (by omega) (by omega)).trans t9), A2.setSame G2 l2 ((c2 _ (by omega) (by omega)).trans t10)]
   have A3 := A2.scs [(11, 0), (12, (s.log.length : Int))] rfl G2 l2
   simp only [setTk_two, tkN_same hi, tkN_same l1] at A3
   exact A3
 clear t0 t1 t2 t3 t4 t5 t6 t7 t8 t9 t10 t11 t12 tz h4 h5 h6 hown hgrow hbx
 go_wp2_with fail
 go_region
 all_goals
   go_wp2_with fail
   have HB0 : Below w.heap.size w (((w4.setCell ⟨w.heap.size, 8, none⟩ (.slice vo (tkN s i).regs.length vc)).setCell ⟨w.heap.size, 12, none⟩ (.int .i64 (s.log.length : Int))).setCell ⟨w.heap.size, 11, none⟩ (.int .i64 0)) := ((HB4.out.setCell (Nat.le_refl _) _).setCell (Nat.le_refl _) _).setCell (Nat.le_refl _) _
   have A := (SF.out _ HB0 (row_heap HO4.out (fun b hb => ?_))).drew
   case refine_1 =>
     have hb1 : b ≠ w.heap.size := fun e => HNB.out b hb e
     rw [heap_set_ne _ _ _ _ hb1, heap_set_ne _ _ _ _ hb1, heap_set_ne _ _ _ _ hb1]
   have HB0F := (FrS.of_below (S := SX X B) (Below.mono HB0 (Nat.le_refl _)))
   refine (stage_any X B pc pb p _ i 1 _ A (by rw [setTk_len]; exact hi)).mono ?_
   rintro e w5 ⟨rfl, hs5, hf5⟩
   have HS5 : Hid (SW X B w5 pc pb p (setTk s i (beginT s (tkN s i)))) := by
     unfold Hid
     rw [setTk_two, tkN_same hi] at hs5
     exact hs5
   have HF5 : Hid (FrS (SX X B) w w5) := FrS.trans (by repeat (first | with_reducible exact HB0F | with_reducible refine FrS.drew ?_ | refine FrS.setCell ?_ (Or.inr hgB) _)) hf5
   clear hs5 hf5 A HB0F HB0
   go_wp2_with fail
   go_end0
   exact ⟨rfl, HS5.out, HF5.out⟩

set_option maxRecDepth 20000
theorem iR_nth {f : Nat -> Key} {κ : Key} {B : Nat} {w : World} {a : Option Addr} {n cap : Nat} {xs : List Int} (h : iR f κ B w (.slice a n cap) xs) (h0 : 0 < xs.length) : ∃ b, a = some ⟨b, 0, none⟩ /\ n = xs.length /\ B <= b /\ b < w.heap.size /\ f b = κ /\ (∀ k, k < xs.length -> w.cell? ⟨b, k, none⟩ = some (.int .i64 (nth 0 xs k))) /\ ∀ o, w.frozen? ⟨b, o, none⟩ = false := by
 obtain ⟨g, c, e, hB, hl, _, _, hk, hc, hz⟩ := row_cells h (by omega) h0
 injection e with e1 e2 e3
 refine ⟨g, e1, e2, hB, hl, hk, fun k hk => ?_, hz⟩
 rw [hc k (by simpa using hk), nth_eq 0 xs k hk]
 simp [hk]
theorem l2Reg_w (b n cap : Nat) (r : List Int) (ka kb : Nat) (w : World) (hn : n = r.length) (hr : ∀ k, k < r.length -> w.cell? ⟨b, k, none⟩ = some (.int .i64 (nth 0 r k))) (hz : ∀ o, w.frozen? ⟨b, o, none⟩ = false) (hb : b < w.heap.size) (hl : r.length = 3) (ha : ka < 3) (hkb : kb < 3) (hr0 : ∀ i, i < 3 -> 0 <= nth 0 r i /\ nth 0 r i <= 99) :
  Calls Try.prog 171 #[.slice (some ⟨b, 0, none⟩) n cap, .agg #[.int .i64 4, .int .i64 (ka : Int), .int .i64 (kb : Int)]] w fun e w' => e = .returned (.tuple #[]) /\ w' = ((w.setCell ⟨b, ka, none⟩ (.int .i64 ((nth 0 r ka + nth 0 r kb) % 100))).alloc (.cells #[.int .i64 4, .int .i64 (ka : Int), .int .i64 (kb : Int)] 125)).drew := by
 subst hn
 have r0 := hr ka (by omega)
 have r2 := hr kb (by omega)
 have hai : (ka : Int) < (r.length : Int) := by omega
 have hbi : (kb : Int) < (r.length : Int) := by omega
 obtain ⟨n0, n1⟩ := hr0 ka ha
 obtain ⟨n2, n3⟩ := hr0 kb hkb
 clear hr hr0
 go_enter Try.func171, Try.ntmps171
 go_wp2_with fail
 go_region
 all_goals
  go_wp2_with fail
  go_end0
  exact ⟨rfl, rfl⟩
theorem l2Reg_n (b n cap : Nat) (r : List Int) (ka : Nat) (kb : Int) (w : World) (hn : n = r.length) (hr : ∀ k, k < r.length -> w.cell? ⟨b, k, none⟩ = some (.int .i64 (nth 0 r k))) (hz : ∀ o, w.frozen? ⟨b, o, none⟩ = false) (hb : b < w.heap.size) (hl : r.length = 3) (ha : ka < 3) :
  Calls Try.prog 171 #[.slice (some ⟨b, 0, none⟩) n cap, .agg #[.int .i64 3, .int .i64 (ka : Int), .int .i64 kb]] w fun e w' => e = .returned (.tuple #[]) /\ w' = (w.setCell ⟨b, ka, none⟩ (.int .i64 kb)).alloc (.cells #[.int .i64 3, .int .i64 (ka : Int), .int .i64 kb] 125) := by
 subst hn
 have r0 := hr ka (by omega)
 have hai : (ka : Int) < (r.length : Int) := by omega
 clear hr
 go_enter Try.func171, Try.ntmps171
 go_wp2_with fail
 go_end0
 exact ⟨rfl, rfl⟩
theorem l2Reg_any (X B : Nat) (pc pb : Value) (p : Pr) (s : Sy) (i : Nat) (d : De) {g0 c0 n0 b n cap : Nat} (w : World) (h : SW X B w pc pb p s) (hi : i < s.tasks.length) (hg : w.cell? ⟨X, 3, none⟩ = some (.slice (some ⟨g0, 0, none⟩) n0 c0)) (hr : w.cell? ⟨g0, i * 13 + 3, none⟩ = some (.slice (some ⟨b, 0, none⟩) n cap)) (hrg : rgB (tkN s i).regs = true) (hk : d.k = 3 \/ d.k = 4) (ha : 0 <= d.a /\ d.a < 3) (hb : d.k = 4 -> 0 <= d.b /\ d.b < 3) :
   Calls Try.prog 171 #[.slice (some ⟨b, 0, none⟩) n cap, .agg #[.int .i64 d.k, .int .i64 d.a, .int .i64 d.b]] w fun e w' => e = .returned (.tuple #[]) /\ SW X B w' pc pb p (setTk s i { tkN s i with regs := regT (tkN s i).regs d }) /\ FrS (fun k => k = b) w w' := by
 obtain ⟨f, cv, g', cap', lv, T, L, V, h1, h2, h3, h4, h5, h6, h7, h8, h9⟩ := h.tk hi
 have hg' := hg
 rw [hg] at h5
 simp only [Option.some.injEq, Value.slice.injEq, Addr.mk.injEq, and_true] at h5
 obtain ⟨rfl, rfl, rfl⟩ := h5
 have hV : V.r = .slice (some ⟨b, 0, none⟩) n cap := by
   have := h7.cells.2.2.2.1
   rw [this] at hr
   injection hr
 have hti := h7.ti.r
 simp only at hti
 rw [hV] at hti
 have hl3 := (rgB_iff.1 hrg).1
 obtain ⟨b', e1, e2, e3, e4, e5, e6, e7⟩ := iR_nth hti (by omega)
 injection e1 with e1
 injection e1 with e1
 subst e1
 obtain ⟨dk, da, db⟩ := d
 obtain ⟨ka, hka⟩ : ∃ k : Nat, da = (k : Int) := ⟨da.toNat, by simp only at ha; omega⟩
 subst hka
 simp only at ha hk hb
 have hr0 : ∀ i', i' < 3 -> 0 <= nth 0 (tkN s i).regs i' /\ nth 0 (tkN s i).regs i' <= 99 := fun i' hi' => by have := rgB_nth hrg hi'; omega
 rcases hk with rfl | rfl
 . refine (l2Reg_n b n cap (tkN s i).regs ka db w e2 e6 e7 e4 hl3 (by omega)).mono ?_
   rintro e w' ⟨rfl, rfl⟩
   refine ⟨rfl, ?_, ((FrS.refl (fun k => k = b) w).setCell (p := ⟨b, ka, none⟩) rfl _).alloc _⟩
   have := (h.reg hi hg' hr (a := ka) db).alloc (.cells #[.int .i64 3, .int .i64 (ka : Int), .int .i64 db] 125)
   simpa [regT] using this
 . obtain ⟨kb, hkb⟩ : ∃ k : Nat, db = (k : Int) := ⟨db.toNat, by have := hb rfl; omega⟩
   subst hkb
   refine (l2Reg_w b n cap (tkN s i).regs ka kb w e2 e6 e7 e4 hl3 (by omega) (by have := hb rfl; omega) hr0).mono ?_
   rintro e w' ⟨rfl, rfl⟩
   refine ⟨rfl, ?_, (((FrS.refl (fun k => k = b) w).setCell (p := ⟨b, ka, none⟩) rfl _).alloc _).drew⟩
   have := ((h.reg hi hg' hr (a := ka) ((nth 0 (tkN s i).regs ka + nth 0 (tkN s i).regs kb) % 100)).alloc (.cells #[.int .i64 4, .int .i64 (ka : Int), .int .i64 (kb : Int)] 125)).drew
   simpa [regT] using this
end Go.Proofs.Ytgbgjljflgbcaaa
