import Derived.Test.YtgbgjljflgbcaaaSo29
import Derived.Test.YtgbgjljflgbcaaaSo17
import Derived.Laws.ResultCell
import Derived.Test.YtgbgjljflgbcaaaSo26
import Derived.Test.YtgbgjljflgbcaaaSo06
namespace Go.Proofs.Ytgbgjljflgbcaaa
set_option maxHeartbeats 8000000
open Go.RowKit
set_option linter.unusedSimpArgs false
set_option linter.unusedVariables false
set_option maxRecDepth 20000
theorem l11Copy_any (s : Sy) (cv tv lv : Value) (w : World) (h : SyAt w cv tv lv s) (hsm : SmSy s) :
   Calls Try.prog 98 #[.agg #[cv, tv, .int .i64 s.clock, lv]] w (CpR s w) := by
 obtain ⟨hc, ht, hl⟩ := h
 obtain ⟨aa, ca, rfl, hcc, hcm, hcs⟩ := ces_src hc
 obtain ⟨ta, tc, rfl, htc, htm⟩ := ht.cap
 obtain ⟨la, lc, rfl, hlc, hlm⟩ := hl.cap
 have HT := (show Hid (TasAt _ _ _) from ht)
 have HLG := (show Hid (EnsAt _ _ _) from hl)
 have HSM := (show Hid (SmsTa _ /\ SmsEn _) from ⟨hsm.2.1, hsm.2.2⟩)
 have hn0 : s.cells.length <= 1048576 := hsm.1
 have hn1 : s.tasks.length <= 1048576 := hsm.2.1.1
 have hn2 : s.log.length <= 1048576 := hsm.2.2.1
 have HCL : Hid ((s.cells.flatMap ceC).length = s.cells.length * 3 /\ ∀ u, u ∈ s.cells.flatMap ceC -> u.oneCell' = true) := ⟨flat_len 3 ceC ceC_len s.cells, fun u hu => by
   obtain ⟨x, _, hu⟩ := List.mem_flatMap.1 hu
   simp [ceC] at hu
   rcases hu with rfl | rfl | rfl <;> rfl⟩
 have HSRC := (show Hid (_ \/ _) from hcs)
 clear hc ht hl hsm hcs
 go_enter Try.func98, Try.ntmps98
 go_wp2_with fail
 have HY : Hid (∃ V, V = ((w.alloc (.cells #[.slice aa s.cells.length ca, .slice ta s.tasks.length tc, .int .i64 s.clock, .slice la s.log.length lc] 32)).alloc (.cells #[.slice none 0 0, .slice none 0 0, .int .i64 0, .slice none 0 0] 32)) /\ V.heap[w.heap.size]? = some (.cells #[.slice aa s.cells.length ca, .slice ta s.tasks.length tc, .int .i64 s.clock, .slice la s.log.length lc] 32 (0, 0)) /\ V.heap[w.heap.size + 1]? = some (.cells #[.slice none 0 0, .slice none 0 0, .int .i64 0, .slice none 0 0] 32 (0, 0)) /\ V.heap.size = w.heap.size + 2 /\ Below w.heap.size w V) := by
   refine ⟨_, rfl, ?_, ?_, by simp, ((Below.refl _ _).alloc (Nat.le_refl _) _).alloc (by simp) _⟩
   . rw [Below.heap_alloc _ _ _ (by simp)]; exact heap_alloc_new w _
   . have := heap_alloc_new (w.alloc (.cells #[.slice aa s.cells.length ca, .slice ta s.tasks.length tc, .int .i64 s.clock, .slice la s.log.length lc] 32)) (.cells #[.slice none 0 0, .slice none 0 0, .int .i64 0, .slice none 0 0] 32)
     simpa using this
 obtain ⟨V, hV, hVY, hVZ, hVs, hVb⟩ := HY.out
 rw [<- hV]
 have hVle : w.heap.size + 2 <= V.heap.size := by omega
 have hVge : V.heap.size <= w.heap.size + 2 := by omega
 clear hV HY hVs
 have HVY := (show Hid (_ = _) from hVY)
 have HVZ := (show Hid (_ = _) from hVZ)
 have HVB := (show Hid (Below _ _ _) from hVb)
 have HS0 : Hid (w.heap.size < V.heap.size /\ V.cell? ⟨w.heap.size, 0, none⟩ = some (.slice aa s.cells.length ca) /\ V.cell? ⟨w.heap.size, 2, none⟩ = some (.int .i64 s.clock)) := ⟨by omega, (box4c hVY).1.1, (box4c hVY).1.2.2.1⟩
 have HSR : Hid (s.cells.length = 0 \/ ∃ b off, aa = some ⟨b, off, none⟩ /\ b < V.heap.size /\ ∀ j u, (s.cells.flatMap ceC)[j]? = some u -> V.cell? ((⟨b, off, none⟩ : Addr).add j) = some u) := by
   rcases HSRC.out with q | ⟨b, off, e, q1, q2⟩
   . exact .inl q
   . refine .inr ⟨b, off, e, by omega, fun j u hj => ?_⟩
     have h1 := q2 j u hj
     rw [Go.WideShapes.add_plain] at h1 ⊢
     rw [hVb.cell (p := ⟨b, _, none⟩) q1]; exact h1
 clear hVY hVZ hVb HSRC
 refine copy_reg1 V w.heap.size aa ca s.cells s.clock HS0 HSR HCL hn0 _ _ _ _ _ _ _ _ _ _ _ _ _ _ _ _ _ _ _ _ _ _ _ _ _ _ _ _ _ _ _ _ _ _ _ _ _ _ _ _ _ _ _ _ _ _ _ _ _ _ _ _ _ _ _ _ _ _ _ _ _ _ _ _ _ _ _ _ _ _ _ _ _ _ _ _ _ _ _ _ ?_
 intro v8 v9 v10 v11 v12 v13 v14 v15 v16 W X hCB hBW
 have HCB := (show Hid (CB _ _ _ _) from hCB)
 have HBW := (show Hid (Below _ _ _) from hBW)
 have hXV := hCB.le
 clear hCB hBW HSR HS0 HCL
 obtain ⟨i0, hi0, hz0, hz1, hz2⟩ := info_parts Try.info_int
 obtain ⟨i1, hi1, hy0, hy1, hy2⟩ := info_parts (P := Try.prog) (e := 70) (z := .agg #[.int .i64 0, .int .i64 0, .int .i64 0, .slice none 0 0, .int .i64 0, .int .i64 0, .int .i64 0, .int .i64 0, .slice none 0 0, .slice none 0 0, .slice none 0 0, .int .i64 0, .int .i64 0]) (size := 13) (bytes := 168) (by kernel_rfl)
 go_wp2_with fail
 go_loopw [4] (fun q w' => ∃ k : Nat, k <= s.tasks.length /\ q = .int .i64 k /\ CB X V.heap.size w' ⟨s.cells, s.tasks.take k, s.clock, []⟩ /\ Below V.heap.size V w') (fun q _ => s.tasks.length - (intOf q).toNat)
 case atStart => exact ⟨0, Nat.zero_le _, rfl, by simpa using HCB.out, HBW.out⟩
 case round =>
   obtain ⟨k, hk, rfl, hcb, hbl⟩ := hrel
   have hYr := (hbl.block w.heap.size (by omega)).trans HVY.out
   obtain ⟨⟨_, y1, _, y3⟩, _, hYl⟩ := box4c hYr
   have HCK := (show Hid (CB _ _ _ _) from hcb)
   have HBL := (show Hid (Below _ _ _) from hbl)
   have hsV := hbl.size
   clear hYr hcb hbl HCB
   by_cases hlt : k < s.tasks.length
   . have hlt' : (k : Int) < (s.tasks.length : Int) := by omega
     obtain ⟨f, cv', tv', lv', T, L, hO, hTm, hLm, hz, hbx⟩ := HCK.out.ex
     have hTl : T.length = k := by have := congrArg List.length hTm; simp at this; omega
     obtain ⟨tb, tcap, rfl, _, _⟩ := own_shape hO.t.1
     have HO := (show Hid (OwnSy _ _ _ _ _ _ _ _ _) from hO)
     have HTM := (show Hid (_ = _) from hTm)
     have HLM := (show Hid (_ = _) from hLm)
     have HZ := (show Hid (_ = _) from hz)
     have HBX := (show Hid (_ = _) from hbx)
     have hXr := bx_lt hbx
     have HTL := (show Hid (_ = _) from hTl)
     have hTle : T.length <= 1048576 := by omega
     clear hTl
     clear hO hTm hLm hz hbx
     obtain ⟨_, _, et, _, hts⟩ := HT.out.mono ((HVB.out.trans (HBL.out.mono (by omega))))
     injection et with et1 et2 et3
     subst et1 et3
     obtain ⟨b, off, v3, v8', v9', v10', rfl, hbl', c0, c1, c2, c3, c4, c5, c6, c7, c8, c9, c10, c11, c12, h3, h8, h9, h10⟩ := hts k hlt
     have hTk : Hid (s.tasks.take (k + 1) = s.tasks.take k ++ [nth Ta.z s.tasks k]) := take_nth Ta.z s.tasks k hlt
     have hsmt := HSM.out.1.2 k hlt
     clear hts et2
     revert c0 c1 c2 c3 c4 c5 c6 c7 c8 c9 c10 c11 c12 h3 h8 h9 h10 hTk hsmt
     generalize nth Ta.z s.tasks k = t
     intro c0 c1 c2 c3 c4 c5 c6 c7 c8 c9 c10 c11 c12 h3 h8 h9 h10 hTk hsmt
     obtain ⟨n3, n8, n9, n10⟩ := hsmt
     obtain ⟨a3, k3, rfl, _⟩ := h3.shape
     obtain ⟨a8, k8, rfl, _⟩ := h8.shape
     obtain ⟨a9, k9, rfl, _, _⟩ := h9.cap
     obtain ⟨a10, k10, rfl, _, _⟩ := h10.cap
     have H3 := (show Hid (IntsAt _ _ _) from h3)
     have H8 := (show Hid (IntsAt _ _ _) from h8)
     have H9 := (show Hid (PusAt _ _ _) from h9)
     have H10 := (show Hid (PusAt _ _ _) from h10)
     clear h3 h8 h9 h10
     have X0 : Hid (TBx (wr.alloc (.cells #[.int .i64 t.body, .int .i64 t.pc, .int .i64 t.up, .slice a3 t.regs.length k3, .int .i64 t.way, .int .i64 t.stage, .int .i64 t.at_, .int .i64 t.since, .slice a8 t.old.length k8, .slice a9 t.reads.length k9, .slice a10 t.puts.length k10, .int .i64 t.when_, .int .i64 t.from_] 70)) wr.heap.size t (.slice a3 t.regs.length k3) (.slice a8 t.old.length k8) (.slice a9 t.reads.length k9) (.slice a10 t.puts.length k10)) := heap_alloc_new wr _
     go_wp2_with (at_builtin; go_loud (refine wpList_append_src rfl _ _ 23 rfl (wr.heap.size + 1) 3 i0 (.int .i64 0) 1 8 Try.underlying23 hi0 hz0 hz1 hz2 rfl (by decide) _ 0 [] rfl (own_newN _ _ 1 (by omega) (by simp)) _ _ _ (t.regs.map (Value.int .i64)) rfl (by simp) (ints_from (H3.out.mono (Below.alloc (Below.alloc (Below.refl _ _) (Nat.le_refl _) _) (by simp) _))) (ints_one _) (by unfold maxLen; omega) (by omega) (by simp) ?_))
     intro v6 w6 hown6 hgrow6
     (try simp only [Nat.zero_add, List.nil_append] at hown6)
     obtain ⟨b3, m3, rfl, _, _⟩ := own_shape hown6
     have hb6 : Below (wr.heap.size + 1) (wr.alloc (.cells #[.int .i64 t.body, .int .i64 t.pc, .int .i64 t.up, .slice a3 t.regs.length k3, .int .i64 t.way, .int .i64 t.stage, .int .i64 t.at_, .int .i64 t.since, .slice a8 t.old.length k8, .slice a9 t.reads.length k9, .slice a10 t.puts.length k10, .int .i64 t.when_, .int .i64 t.from_] 70)) w6 := Below.grown ((Below.refl _ _).alloc (by simp) _) hgrow6 (by simp) (fun b hb => by simp [Value.ownBlock] at hb; omega)
     have X1 : Hid (TBx (w6.setCell ⟨wr.heap.size, 3, none⟩ (.slice b3 t.regs.length m3)) wr.heap.size t (.slice b3 t.regs.length m3) (.slice a8 t.old.length k8) (.slice a9 t.reads.length k9) (.slice a10 t.puts.length k10)) := (X0.out.heap (hb6.block _ (by omega))).set3 _
     have HB6 : Hid (Below wr.heap.size wr (w6.setCell ⟨wr.heap.size, 3, none⟩ (.slice b3 t.regs.length m3))) := (((Below.refl _ _).alloc (Nat.le_refl _) _).trans (hb6.mono (by omega))).setCell (by simp) _
     have HR3 : Hid ((w6.setCell ⟨wr.heap.size, 3, none⟩ (.slice b3 t.regs.length m3)).ownsRow (wr.heap.size + 1) 3 1 (.slice b3 t.regs.length m3) t.regs.length (t.regs.map (Value.int .i64))) := row_set hown6 (by omega)
     obtain ⟨z0, z1, z2⟩ := (X0.out.heap (hb6.block _ (by omega))).cells
     have hs6 := hb6.size
     obtain ⟨_, _, _, z13, _, _, _, _, z18, z19, z110, _, _⟩ := z0
     have z3f := z1 3
     have z8f := z1 8
     clear hown6 hgrow6 hb6 z1 X0
     go_wp2_with (at_builtin; go_loud (refine wpList_append_src rfl _ _ 23 rfl (w6.heap.size) 3 i0 (.int .i64 0) 1 8 Try.underlying23 hi0 hz0 hz1 hz2 rfl (by decide) _ 0 [] rfl (own_newN _ _ 1 (by omega) (by simp)) _ _ _ (t.old.map (Value.int .i64)) rfl (by simp) (ints_from (H8.out.mono (Below.alloc HB6.out (by have := HB6.out.size; exact this) _))) (ints_one _) (by unfold maxLen; omega) (by omega) (by simp) ?_))
     intro v7 w7 hown7 hgrow7
     (try simp only [Nat.zero_add, List.nil_append] at hown7)
     obtain ⟨b8, m8, rfl, _, _⟩ := own_shape hown7
     have hb7 : Below w6.heap.size (w6.setCell ⟨wr.heap.size, 3, none⟩ (.slice b3 t.regs.length m3)) w7 := Below.grown ((Below.refl _ _).alloc (by simp) _) hgrow7 (by simp) (fun b hb => by simp [Value.ownBlock] at hb; omega)
     have hs7 := hb7.size
     have hs6' : wr.heap.size < w6.heap.size := by have := X1.out.cells.2.2; simpa using this
     simp only [World.size_setCell] at hs7
     have X2 : Hid (TBx (w7.setCell ⟨wr.heap.size, 8, none⟩ (.slice b8 t.old.length m8)) wr.heap.size t (.slice b3 t.regs.length m3) (.slice b8 t.old.length m8) (.slice a9 t.reads.length k9) (.slice a10 t.puts.length k10)) := (X1.out.heap (hb7.block _ hs6')).set8 _
     have HB7 : Hid (Below wr.heap.size wr (w7.setCell ⟨wr.heap.size, 8, none⟩ (.slice b8 t.old.length m8))) := (HB6.out.trans (hb7.mono (by omega))).setCell (by simp) _
     have HR8 : Hid ((w7.setCell ⟨wr.heap.size, 8, none⟩ (.slice b8 t.old.length m8)).ownsRow w6.heap.size 3 1 (.slice b8 t.old.length m8) t.old.length (t.old.map (Value.int .i64))) := row_set hown7 hs6'
     have HF7 : Hid (FrS (fun k => k = wr.heap.size) (w6.setCell ⟨wr.heap.size, 3, none⟩ (.slice b3 t.regs.length m3)) (w7.setCell ⟨wr.heap.size, 8, none⟩ (.slice b8 t.old.length m8))) := frz_set hb7 (by simp) _
     obtain ⟨z0, z1', z2'⟩ := (X1.out.heap (hb7.block _ hs6')).cells
     obtain ⟨_, _, _, _, _, _, _, _, y18, y19, y110, _, _⟩ := z0
     have y8f := z1' 8
     clear hown7 hgrow7 hb7 z1' z13 z18 z19 z110 z3f z8f
     go_wp2_with fail
     refine (l11Puts_any _ t.reads _ (H9.out.mono HB7.out) n9).mono ?_
     rintro e w8 ⟨b9, m9, rfl, hown8, hb8⟩
     simp only [World.size_setCell] at hown8 hb8
     have hs8 := hb8.size
     simp only [World.size_setCell] at hs8
     have hz7 : wr.heap.size < w7.heap.size := by omega
     have X3 : Hid (TBx (w8.setCell ⟨wr.heap.size, 9, none⟩ (.slice b9 t.reads.length m9)) wr.heap.size t (.slice b3 t.regs.length m3) (.slice b8 t.old.length m8) (.slice b9 t.reads.length m9) (.slice a10 t.puts.length k10)) := (X2.out.heap (hb8.block _ hz7)).set9 _
     have HB8 : Hid (Below wr.heap.size wr (w8.setCell ⟨wr.heap.size, 9, none⟩ (.slice b9 t.reads.length m9))) := (HB7.out.trans (hb8.mono (by omega))).setCell (by simp) _
     have HR9 : Hid ((w8.setCell ⟨wr.heap.size, 9, none⟩ (.slice b9 t.reads.length m9)).ownsRow w7.heap.size 52 2 (.slice b9 t.reads.length m9) t.reads.length (t.reads.flatMap puC)) := row_set hown8 hz7
     have HF8 : Hid (FrS (fun k => k = wr.heap.size) (w7.setCell ⟨wr.heap.size, 8, none⟩ (.slice b8 t.old.length m8)) (w8.setCell ⟨wr.heap.size, 9, none⟩ (.slice b9 t.reads.length m9))) := frz_set hb8 (by simp) _
     obtain ⟨z0, z1', _⟩ := (X2.out.heap (hb8.block _ hz7)).cells
     obtain ⟨_, _, _, _, _, _, _, _, _, x19, x110, _, _⟩ := z0
     have x9f := z1' 9
     clear hown8 hb8 z1' y18 y19 y110 y8f
     go_wp2_with fail
     refine (l11Puts_any _ t.puts _ (H10.out.mono HB8.out) n10).mono ?_
     rintro e w9 ⟨b10, m10, rfl, hown9, hb9⟩
     simp only [World.size_setCell] at hown9 hb9
     have hs9 := hb9.size
     simp only [World.size_setCell] at hs9
     have hz8 : wr.heap.size < w8.heap.size := by omega
     have X4 : Hid (TBx (w9.setCell ⟨wr.heap.size, 10, none⟩ (.slice b10 t.puts.length m10)) wr.heap.size t (.slice b3 t.regs.length m3) (.slice b8 t.old.length m8) (.slice b9 t.reads.length m9) (.slice b10 t.puts.length m10)) := (X3.out.heap (hb9.block _ hz8)).set10 _
     have HB9 : Hid (Below wr.heap.size wr (w9.setCell ⟨wr.heap.size, 10, none⟩ (.slice b10 t.puts.length m10))) := (HB8.out.trans (hb9.mono (by omega))).setCell (by simp) _
     have HR10 : Hid ((w9.setCell ⟨wr.heap.size, 10, none⟩ (.slice b10 t.puts.length m10)).ownsRow w8.heap.size 52 2 (.slice b10 t.puts.length m10) t.puts.length (t.puts.flatMap puC)) := row_set hown9 hz8
     have HF9 : Hid (FrS (fun k => k = wr.heap.size) (w8.setCell ⟨wr.heap.size, 9, none⟩ (.slice b9 t.reads.length m9)) (w9.setCell ⟨wr.heap.size, 10, none⟩ (.slice b10 t.puts.length m10))) := frz_set hb9 (by simp) _
     obtain ⟨z0, z1', z2''⟩ := (X3.out.heap (hb9.block _ hz8)).cells
     obtain ⟨q0, q1, q2, q3, q4, q5, q6, q7, q8, q9, q10, q11, q12⟩ := z0
     have x10f := z1' 10
     have hX9 : w9.heap[X]? = some (.cells #[cv', .slice tb T.length tcap, .int .i64 s.clock, lv'] 32 (0, 0)) := by
       have h1 := HB9.out.block X hXr
       rw [heap_set_ne _ _ _ X (by show X ≠ wr.heap.size; omega)] at h1
       exact h1.trans HBX.out
     obtain ⟨⟨_, xx1, _, _⟩, ⟨_, xf1, _, _⟩, hX9l⟩ := box4c hX9
     have HTW : Hid (World.ownsRow ((w9.setCell ⟨wr.heap.size, 10, none⟩ (.slice b10 t.puts.length m10)).alloc (.cells #[.int .i64 t.body, .int .i64 t.pc, .int .i64 t.up, .slice b3 t.regs.length m3, .int .i64 t.way, .int .i64 t.stage, .int .i64 t.at_, .int .i64 t.since, .slice b8 t.old.length m8, .slice b9 t.reads.length m9, .slice b10 t.puts.length m10, .int .i64 t.when_, .int .i64 t.from_] 70)) V.heap.size 70 13 (.slice tb T.length tcap) T.length (T.flatMap taC)) :=
       row_heap HO.out.t.1 (fun b hb => (HB9.out.alloc HB9.out.size _).block b (HO.out.t.1.lt b hb).2)
     clear hown9 hb9 z1' x19 x110 x9f hX9
     have hXz : X ≠ wr.heap.size := by omega
     go_wp2_with (at_builtin; go_loud (refine wpList_append_lies _ rfl _ _ 29 rfl V.heap.size 70 i1 (.agg #[.int .i64 0, .int .i64 0, .int .i64 0, .slice none 0 0, .int .i64 0, .int .i64 0, .int .i64 0, .int .i64 0, .slice none 0 0, .slice none 0 0, .slice none 0 0, .int .i64 0, .int .i64 0]) 13 168 Try.underlying29 hi1 hy0 hy1 hy2 rfl (by omega) _ T.length (T.flatMap taC) rfl HTW.out ⟨w9.heap.size, 0, none⟩ 1 1 [.int .i64 t.body, .int .i64 t.pc, .int .i64 t.up, .slice b3 t.regs.length m3, .int .i64 t.way, .int .i64 t.stage, .int .i64 t.at_, .int .i64 t.since, .slice b8 t.old.length m8, .slice b9 t.reads.length m9, .slice b10 t.puts.length m10, .int .i64 t.when_, .int .i64 t.from_] rfl rfl (by have := cells_new (w9.setCell ⟨wr.heap.size, 10, none⟩ (.slice b10 t.puts.length m10)) [.int .i64 t.body, .int .i64 t.pc, .int .i64 t.up, .slice b3 t.regs.length m3, .int .i64 t.way, .int .i64 t.stage, .int .i64 t.at_, .int .i64 t.since, .slice b8 t.old.length m8, .slice b9 t.reads.length m9, .slice b10 t.puts.length m10, .int .i64 t.when_, .int .i64 t.from_] 70; simpa using this) (by intro u hu; simp at hu; rcases hu with rfl | rfl | rfl | rfl | rfl | rfl | rfl | rfl | rfl | rfl | rfl | rfl | rfl <;> rfl) (by omega) (by unfold maxLen; omega) (by omega) (by simp; omega) _ rfl ?_))
     intro g11 c11 w11 hown11 hgrow11 hat11 hlt11
     have F4 : FrS (fun k => k = wr.heap.size) (w8.setCell ⟨wr.heap.size, 9, none⟩ (.slice b9 t.reads.length m9)) (w9.setCell ⟨wr.heap.size, 10, none⟩ (.slice b10 t.puts.length m10)) := HF9.out
     have F3 := HF8.out.trans F4
     have F2 := HF7.out.trans F3
     have htin := tin_four (f := f) (i := T.length) (B := V.heap.size) (s0 := wr.heap.size + 1) (s1 := w6.heap.size) (s2 := w7.heap.size) (s3 := w8.heap.size) (by omega) (by omega) hs7 hs8
       (row_z HR3.out (by omega) F2) (fun g hg => by have := (HR3.out.lt g hg).2; simpa using this) (row_z HR8.out (by omega) F3) (fun g hg => by have := (HR8.out.lt g hg).2; simpa using this)
       (row_z HR9.out (by omega) F4) (fun g hg => by have := (HR9.out.lt g hg).2; simpa using this) HR10.out
     have A1 := CB.taskA (s := ⟨s.cells, s.tasks.take k, s.clock, []⟩) (X := X) (by omega) HB9.out HO.out HTM.out HLM.out HZ.out HBX.out (t := t) (V := ⟨.slice b3 t.regs.length m3, .slice b8 t.old.length m8, .slice b9 t.reads.length m9, .slice b10 t.puts.length m10⟩) (fun g hg => if_pos (by omega)) htin (w2 := w11) (tv' := .slice (some ⟨g11, 0, none⟩) (T.length + 1) c11) hown11 (grown_from hgrow11) (fun g hg => by
       rcases hat11 with e | e
       . left; rw [e]; exact hg
       . right; injection hg with hg; rw [<- hg, e]; simp)
     have HA1 := (show Hid (CB _ _ _ _) from A1)
     have B1 : Hid (Below V.heap.size V (w11.setCell ⟨X, 1, none⟩ (.slice (some ⟨g11, 0, none⟩) (T.length + 1) c11))) := by
       refine Below.setCell ?_ (by simpa using hXV) _
       exact Below.grown (HBL.out.trans ((HB9.out.alloc HB9.out.size _).mono hsV)) hgrow11 (by simp; omega) (fun b hb => (HO.out.t.1.lt b hb).1)
     have hX11 : w11.heap[X]? = some (.cells #[cv', .slice tb T.length tcap, .int .i64 s.clock, lv'] 32 (0, 0)) := by
       have h1 : ((w9.setCell ⟨wr.heap.size, 10, none⟩ (.slice b10 t.puts.length m10)).alloc (.cells #[.int .i64 t.body, .int .i64 t.pc, .int .i64 t.up, .slice b3 t.regs.length m3, .int .i64 t.way, .int .i64 t.stage, .int .i64 t.at_, .int .i64 t.since, .slice b8 t.old.length m8, .slice b9 t.reads.length m9, .slice b10 t.puts.length m10, .int .i64 t.when_, .int .i64 t.from_] 70)).heap[X]? = wr.heap[X]? := (HB9.out.alloc HB9.out.size _).block X hXr
       have h2 := hgrow11.block X (by simp; omega) (fun e => by
         have := HO.out.t.2 X e.symm
         rw [HZ.out] at this; cases this)
       exact (h2.trans h1).trans HBX.out
     obtain ⟨⟨_, xy1, _, _⟩, ⟨_, xg1, _, _⟩, hX11l⟩ := box4c hX11
     clear hown11 hgrow11 hat11 hlt11 F4 F3 F2 htin A1 HTW xx1 xf1 hX9l hX11
     have hwk : IntKind.i64.wrap ((k : Int) + 1) = (k : Int) + 1 := by rw [IntKind.wrap_i64]; omega
     go_wp2_with fail
     go_roundw
     case rel => exact ⟨k + 1, by omega, by go_num, by rw [hTk.out]; exact HA1.out, B1.out⟩
     case measure => simp [intOf]; omega
   . have hkl : k = s.tasks.length := by omega
     subst hkl
     have HCT : Hid (CB X V.heap.size wr ⟨s.cells, s.tasks, s.clock, []⟩) := by have := HCK.out; rw [List.take_length] at this; exact this
     have HBLt := (show Hid (Below _ _ _) from HBL.out)
     clear HCK HBL hsV
     obtain ⟨i2, hi2, hx0, hx1, hx2⟩ := info_parts (P := Try.prog) (e := 55) (z := .agg #[.int .i64 0, .int .i64 0, .int .i64 0, .slice none 0 0, .slice none 0 0, .int .i64 0]) (size := 6) (bytes := 80) (by kernel_rfl)
     go_wp2_with fail
     go_loopw [6] (fun q w' => ∃ k : Nat, k <= s.log.length /\ q = .int .i64 k /\ CB X V.heap.size w' ⟨s.cells, s.tasks, s.clock, s.log.take k⟩ /\ Below V.heap.size V w') (fun q _ => s.log.length - (intOf q).toNat)
     case atStart => exact ⟨0, Nat.zero_le _, rfl, by simpa using HCT.out, HBLt.out⟩
     case round =>
       rename_i wr0 _
       obtain ⟨k, hk, rfl, hcb, hbl⟩ := hrel
       have hYr := (hbl.block w.heap.size (by omega)).trans HVY.out
       obtain ⟨⟨_, _, _, y3⟩, _, hYl⟩ := box4c hYr
       have HCK := (show Hid (CB _ _ _ _) from hcb)
       have HBL := (show Hid (Below _ _ _) from hbl)
       have hsV := hbl.size
       have hZr := (hbl.block (w.heap.size + 1) (by omega)).trans HVZ.out
       have HZR := (show Hid (_ = _) from hZr)
       clear hYr hZr hcb hbl HCT HBLt
       by_cases hlt : k < s.log.length
       . have hlt' : (k : Int) < (s.log.length : Int) := by omega
         obtain ⟨f, cv', tv', lv', T, L, hO, hTm, hLm, hz, hbx⟩ := HCK.out.ex
         have hTl : L.length = k := by have := congrArg List.length hLm; simp at this; omega
         obtain ⟨tb, tcap, rfl, _, _⟩ := own_shape hO.l.1
         have HO := (show Hid (OwnSy _ _ _ _ _ _ _ _ _) from hO)
         have HTM := (show Hid (_ = _) from hTm)
         have HLM := (show Hid (_ = _) from hLm)
         have HZ := (show Hid (_ = _) from hz)
         have HBX := (show Hid (_ = _) from hbx)
         have hXr := bx_lt hbx
         have HTL := (show Hid (_ = _) from hTl)
         have hTle : L.length <= 1048576 := by omega
         clear hO hTm hLm hz hbx hTl
         obtain ⟨_, _, et, _, hts⟩ := HLG.out.mono ((HVB.out.trans (HBL.out.mono (by omega))))
         injection et with et1 et2 et3
         subst et1 et3
         obtain ⟨b, off, v3, v4', rfl, hbl', c0, c1, c2, c3, c4, c5, h3, h4⟩ := hts k hlt
         have hTk : Hid (s.log.take (k + 1) = s.log.take k ++ [nth En.z s.log k]) := take_nth En.z s.log k hlt
         have hsmt := HSM.out.2.2 k hlt
         clear hts et2
         revert c0 c1 c2 c3 c4 c5 h3 h4 hTk hsmt
         generalize nth En.z s.log k = t
         intro c0 c1 c2 c3 c4 c5 h3 h4 hTk hsmt
         obtain ⟨n9, n10⟩ := hsmt
         obtain ⟨a3, k3, rfl, _, _⟩ := h3.cap
         obtain ⟨a4, k4, rfl, _, _⟩ := h4.cap
         have H9 := (show Hid (PusAt _ _ _) from h3)
         have H10 := (show Hid (PusAt _ _ _) from h4)
         clear h3 h4
         have X2 : Hid (EBx (wr.alloc (.cells #[.int .i64 t.task, .int .i64 t.act, .int .i64 t.when_, .slice a3 t.reads.length k3, .slice a4 t.puts.length k4, .int .i64 t.from_] 55)) wr.heap.size t (.slice a3 t.reads.length k3) (.slice a4 t.puts.length k4)) := heap_alloc_new wr _
         have HB7 : Hid (Below wr.heap.size wr (wr.alloc (.cells #[.int .i64 t.task, .int .i64 t.act, .int .i64 t.when_, .slice a3 t.reads.length k3, .slice a4 t.puts.length k4, .int .i64 t.from_] 55))) := (Below.refl _ _).alloc (Nat.le_refl _) _
         go_wp2_with fail
         refine (l11Puts_any _ t.reads _ (H9.out.mono HB7.out) n9).mono ?_
         rintro e w8 ⟨b3, m3, rfl, hown8, hb8⟩
         simp only [World.size_alloc] at hown8 hb8
         have hs8 := hb8.size
         simp only [World.size_alloc] at hs8
         have hz7 : wr.heap.size < wr.heap.size + 1 := by omega
         have X3 : Hid (EBx (w8.setCell ⟨wr.heap.size, 3, none⟩ (.slice b3 t.reads.length m3)) wr.heap.size t (.slice b3 t.reads.length m3) (.slice a4 t.puts.length k4)) := (X2.out.heap (hb8.block _ hz7)).set3 _
         have HB8 : Hid (Below wr.heap.size wr (w8.setCell ⟨wr.heap.size, 3, none⟩ (.slice b3 t.reads.length m3))) := (HB7.out.trans (hb8.mono (by omega))).setCell (by simp) _
         have HR9 : Hid ((w8.setCell ⟨wr.heap.size, 3, none⟩ (.slice b3 t.reads.length m3)).ownsRow (wr.heap.size + 1) 52 2 (.slice b3 t.reads.length m3) t.reads.length (t.reads.flatMap puC)) := row_set hown8 hz7
         obtain ⟨z0, z1', _⟩ := (X2.out.heap (hb8.block _ hz7)).cells
         obtain ⟨_, _, _, x19, x110, _⟩ := z0
         have x9f := z1' 3
         clear hown8 hb8 z1'
         go_wp2_with fail
         refine (l11Puts_any _ t.puts _ (H10.out.mono HB8.out) n10).mono ?_
         rintro e w9 ⟨b4, m4, rfl, hown9, hb9⟩
         simp only [World.size_setCell] at hown9 hb9
         have hs9 := hb9.size
         simp only [World.size_setCell] at hs9
         have hz8 : wr.heap.size < w8.heap.size := by omega
         have X4 : Hid (EBx (w9.setCell ⟨wr.heap.size, 4, none⟩ (.slice b4 t.puts.length m4)) wr.heap.size t (.slice b3 t.reads.length m3) (.slice b4 t.puts.length m4)) := (X3.out.heap (hb9.block _ hz8)).set4 _
         have HB9 : Hid (Below wr.heap.size wr (w9.setCell ⟨wr.heap.size, 4, none⟩ (.slice b4 t.puts.length m4))) := (HB8.out.trans (hb9.mono (by omega))).setCell (by simp) _
         have HR10 : Hid ((w9.setCell ⟨wr.heap.size, 4, none⟩ (.slice b4 t.puts.length m4)).ownsRow w8.heap.size 52 2 (.slice b4 t.puts.length m4) t.puts.length (t.puts.flatMap puC)) := row_set hown9 hz8
         have HF9 : Hid (FrS (fun k => k = wr.heap.size) (w8.setCell ⟨wr.heap.size, 3, none⟩ (.slice b3 t.reads.length m3)) (w9.setCell ⟨wr.heap.size, 4, none⟩ (.slice b4 t.puts.length m4))) := frz_set hb9 (by simp) _
         obtain ⟨z0, z1', z2''⟩ := (X3.out.heap (hb9.block _ hz8)).cells
         obtain ⟨q0, q1, q2, q3, q4, q5⟩ := z0
         have x10f := z1' 4
         have hX9 : w9.heap[X]? = some (.cells #[cv', tv', .int .i64 s.clock, .slice tb L.length tcap] 32 (0, 0)) := by
           have h1 := HB9.out.block X hXr
           rw [heap_set_ne _ _ _ X (by show X ≠ wr.heap.size; omega)] at h1
           exact h1.trans HBX.out
         obtain ⟨⟨_, _, _, xx1⟩, ⟨_, _, _, xf1⟩, hX9l⟩ := box4c hX9
         have HTW : Hid (World.ownsRow ((w9.setCell ⟨wr.heap.size, 4, none⟩ (.slice b4 t.puts.length m4)).alloc (.cells #[.int .i64 t.task, .int .i64 t.act, .int .i64 t.when_, .slice b3 t.reads.length m3, .slice b4 t.puts.length m4, .int .i64 t.from_] 55)) V.heap.size 55 6 (.slice tb L.length tcap) L.length (L.flatMap enC)) :=
           row_heap HO.out.l.1 (fun b hb => (HB9.out.alloc HB9.out.size _).block b (HO.out.l.1.lt b hb).2)
         clear hown9 hb9 z1' x19 x110 x9f hX9
         have hXz : X ≠ wr.heap.size := by omega
         go_wp2_with (at_builtin; go_loud (refine wpList_append_lies _ rfl _ _ 30 rfl V.heap.size 55 i2 (.agg #[.int .i64 0, .int .i64 0, .int .i64 0, .slice none 0 0, .slice none 0 0, .int .i64 0]) 6 80 Try.underlying30 hi2 hx0 hx1 hx2 rfl (by omega) _ L.length (L.flatMap enC) rfl HTW.out ⟨w9.heap.size, 0, none⟩ 1 1 [.int .i64 t.task, .int .i64 t.act, .int .i64 t.when_, .slice b3 t.reads.length m3, .slice b4 t.puts.length m4, .int .i64 t.from_] rfl rfl (by have := cells_new (w9.setCell ⟨wr.heap.size, 4, none⟩ (.slice b4 t.puts.length m4)) [.int .i64 t.task, .int .i64 t.act, .int .i64 t.when_, .slice b3 t.reads.length m3, .slice b4 t.puts.length m4, .int .i64 t.from_] 55; simpa using this) (by intro u hu; simp at hu; rcases hu with rfl | rfl | rfl | rfl | rfl | rfl <;> rfl) (by omega) (by unfold maxLen; omega) (by omega) (by simp; omega) _ rfl ?_))
         intro g11 c11 w11 hown11 hgrow11 hat11 hlt11
         have htin := ein_two (f := f) (i := L.length) (B := V.heap.size) (s0 := wr.heap.size + 1) (s1 := w8.heap.size) (by omega) (by omega)
           (row_z HR9.out (by omega) HF9.out) (fun g hg => by have := (HR9.out.lt g hg).2; simpa using this) HR10.out
         have A1 := CB.logA (s := ⟨s.cells, s.tasks, s.clock, s.log.take k⟩) (X := X) (by omega) HB9.out HO.out HTM.out HLM.out HZ.out HBX.out (t := t) (V := ⟨.slice b3 t.reads.length m3, .slice b4 t.puts.length m4⟩) (fun g hg => if_pos (by omega)) htin (w2 := w11) (lv' := .slice (some ⟨g11, 0, none⟩) (L.length + 1) c11) hown11 (grown_from hgrow11) (fun g hg => by
           rcases hat11 with e | e
           . left; rw [e]; exact hg
           . right; injection hg with hg; rw [<- hg, e]; simp)
         have HA1 := (show Hid (CB _ _ _ _) from A1)
         have B1 : Hid (Below V.heap.size V (w11.setCell ⟨X, 3, none⟩ (.slice (some ⟨g11, 0, none⟩) (L.length + 1) c11))) := by
           refine Below.setCell ?_ (by simpa using hXV) _
           exact Below.grown (HBL.out.trans ((HB9.out.alloc HB9.out.size _).mono hsV)) hgrow11 (by simp; omega) (fun b hb => (HO.out.l.1.lt b hb).1)
         have hX11 : w11.heap[X]? = some (.cells #[cv', tv', .int .i64 s.clock, .slice tb L.length tcap] 32 (0, 0)) := by
           have h1 : ((w9.setCell ⟨wr.heap.size, 4, none⟩ (.slice b4 t.puts.length m4)).alloc (.cells #[.int .i64 t.task, .int .i64 t.act, .int .i64 t.when_, .slice b3 t.reads.length m3, .slice b4 t.puts.length m4, .int .i64 t.from_] 55)).heap[X]? = wr.heap[X]? := (HB9.out.alloc HB9.out.size _).block X hXr
           have h2 := hgrow11.block X (by simp; omega) (fun e => by
             have := HO.out.l.2 X e.symm
             rw [HZ.out] at this; cases this)
           exact (h2.trans h1).trans HBX.out
         obtain ⟨⟨_, _, _, xy1⟩, ⟨_, _, _, xg1⟩, hX11l⟩ := box4c hX11
         clear hown11 hgrow11 hat11 hlt11 htin A1 HTW xx1 xf1 hX9l hX11
         have hwk : IntKind.i64.wrap ((k : Int) + 1) = (k : Int) + 1 := by rw [IntKind.wrap_i64]; omega
         go_wp2_with fail
         go_roundw
         case rel => exact ⟨k + 1, by omega, by go_num, by rw [hTk.out]; exact HA1.out, B1.out⟩
         case measure => simp [intOf]; omega
       . have hkl : k = s.log.length := by omega
         subst hkl
         have hlc := HCK.out
         rw [List.take_length] at hlc
         obtain ⟨f, cv', tv', lv', T, L, hO, hTm, hLm, hz, hbx⟩ := hlc.ex
         obtain ⟨xa, xc, rfl, _, _⟩ := own_shape hO.c.1
         obtain ⟨ya, yc, rfl, _, _⟩ := own_shape hO.t.1
         obtain ⟨za, zc, rfl, _, _⟩ := own_shape hO.l.1
         have HO := (show Hid (OwnSy _ _ _ _ _ _ _ _ _) from hO)
         have HM := (show Hid (_ /\ _) from ⟨hTm, hLm⟩)
         obtain ⟨⟨r0, r1, r2, r3⟩, _, hXr⟩ := box4c hbx
         obtain ⟨⟨e0, e1, e2, e3⟩, ⟨f0, f1, f2, f3⟩, hZl⟩ := box4c HZR.out
         clear hlc hO hTm hLm hbx
         go_wp2_with fail
         (try simp only [Exit.inBlock, Exit.then])
         obtain ⟨⟨p0, p1, p2, p3⟩, _, _⟩ := box4c (box4 (b0 := .slice xa s.cells.length xc) (b1 := .slice ya T.length yc) (b2 := .int .i64 s.clock) (b3 := .slice za L.length zc) HZR.out).1
         refine bodyPost_ret (v := .agg #[.slice xa s.cells.length xc, .slice ya T.length yc, .int .i64 s.clock, .slice za L.length zc]) (by simp [results, Try.results98, go_sem, p0, p1, p2, p3]) rfl ⟨f, _, _, _, T, L, rfl, ((((HO.out.setX (by omega) _).setX (by omega) _).setX (by omega) _).setX (by omega) _).base (by omega), HM.out.1, HM.out.2, ?_⟩
         exact ((((HVB.out.trans (HBL.out.mono (by omega))).setCell (by simp) _).setCell (by simp) _).setCell (by simp) _).setCell (by simp) _

theorem pR_on {f : Nat -> Key} {κ : Key} {B : Nat} {w : World} {v : Value} {xs : List Pu} (h : pR f κ B w v xs) : PusOn (fun b => B <= b) w v xs := by
 obtain ⟨a, cap, rfl, h1, h2⟩ := own_shape h.1
 refine ⟨a, cap, rfl, ⟨h1, h2⟩, fun i hi => ?_⟩
 obtain ⟨g, c, e, hB, hl, _, _, _, hc, _⟩ := row_cells h (by omega) (by omega)
 injection e with e1 e2 e3
 subst e1
 have hlen : (xs.flatMap puC).length = xs.length * 2 := flat_len 2 puC puC_len xs
 have F := fun q (hq : q < 2) => (hc (i * 2 + q) (by omega)).trans (flat_at 2 puC puC_len Pu.z q hq xs i hi)
 exact ⟨g, 0, rfl, hB, hl, by rw [Nat.zero_add]; exact F 0 (by omega), by rw [Nat.zero_add]; exact F 1 (by omega)⟩
theorem iR_on {f : Nat -> Key} {κ : Key} {B : Nat} {w : World} {v : Value} {xs : List Int} (h : iR f κ B w v xs) : IntsOn (fun b => B <= b) w v xs := by
 obtain ⟨a, cap, rfl, h1, h2⟩ := own_shape h.1
 refine ⟨a, cap, rfl, by omega, fun i hi => ?_⟩
 obtain ⟨g, c, e, hB, hl, _, _, _, hc, _⟩ := row_cells h (by omega) (by omega)
 injection e with e1 e2 e3
 subst e1
 refine ⟨g, 0, rfl, hB, hl, ?_⟩
 rw [Nat.zero_add, hc i (by simpa using hi), nth_eq 0 xs i hi]
 simp [hi]
theorem OwnSy.cesOn {f : Nat -> Key} {B : Nat} {w : World} {cv tv lv : Value} {cs : List Ce} {T : List TT} {L : List EE} (h : OwnSy f B w cv tv lv cs T L) : CesOn (fun b => B <= b) w cv cs := by
 obtain ⟨a, c, e, h1, h2⟩ := own_shape h.c.1
 refine ⟨a, c, e, ⟨h1, h2⟩, fun i hi => ?_⟩
 obtain ⟨g, cap, e', hB, hg, _, _, _, hcell, _⟩ := row_cells h.c (by omega) (by omega)
 rw [e] at e'
 injection e' with e1 e2 e3
 have hc : ∀ j, j < 3 -> w.cell? ⟨g, i * 3 + j, none⟩ = (ceC (nth Ce.z cs i))[j]? := fun j hj => by
   rw [hcell _ (by rw [flat_len 3 ceC ceC_len]; have : (i + 1) * 3 <= cs.length * 3 := Nat.mul_le_mul_right _ hi; omega)]
   exact flat_at 3 ceC ceC_len Ce.z j hj cs i hi
 refine ⟨g, 0, e1, hB, hg, ?_, ?_, ?_⟩
 . have := hc 0 (by omega); simpa [ceC] using this
 . have := hc 1 (by omega); simpa [ceC] using this
 . have := hc 2 (by omega); simpa [ceC] using this
theorem OwnSy.tasOn {f : Nat -> Key} {B : Nat} {w : World} {cv tv lv : Value} {cs : List Ce} {T : List TT} {L : List EE} (h : OwnSy f B w cv tv lv cs T L) : TasOn (fun b => B <= b) w tv (T.map (·.1)) := by
 obtain ⟨a, c, e, h1, h2⟩ := own_shape h.t.1
 refine ⟨a, c, by rw [List.length_map]; exact e, ⟨by rw [List.length_map]; exact h1, h2⟩, fun i hi => ?_⟩
 rw [List.length_map] at hi
 obtain ⟨g, cap, e', h7⟩ := h.tk hi
 rw [e] at e'
 injection e' with e1 e2 e3
 obtain ⟨t0, t1, t2, t3, t4, t5, t6, t7, t8, t9, t10, t11, t12⟩ := h7.cells
 rw [map_nth (·.1) TT.z Ta.z T i hi]
 refine ⟨g, 0, _, _, _, _, e1, h7.ge, h7.lt, ?_, ?_, ?_, ?_, ?_, ?_, ?_, ?_, ?_, ?_, ?_, ?_, ?_, iR_on h7.ti.r, iR_on h7.ti.o, pR_on h7.ti.d, pR_on h7.ti.u⟩ <;> simp only [Nat.zero_add] <;> assumption
theorem OwnSy.ensOn {f : Nat -> Key} {B : Nat} {w : World} {cv tv lv : Value} {cs : List Ce} {T : List TT} {L : List EE} (h : OwnSy f B w cv tv lv cs T L) : EnsOn (fun b => B <= b) w lv (L.map (·.1)) := by
 obtain ⟨a, c, e, h1, h2⟩ := own_shape h.l.1
 refine ⟨a, c, by rw [List.length_map]; exact e, ⟨by rw [List.length_map]; exact h1, h2⟩, fun i hi => ?_⟩
 rw [List.length_map] at hi
 obtain ⟨g, cap, e', hB, hg, _, _, _, hcell, _⟩ := row_cells h.l (by omega) (by omega)
 rw [e] at e'
 injection e' with e1 e2 e3
 have hc : ∀ j, j < 6 -> w.cell? ⟨g, i * 6 + j, none⟩ = (enC (nth EE.z L i))[j]? := fun j hj => by
   rw [hcell _ (by rw [flat_len 6 enC enC_len]; have : (i + 1) * 6 <= L.length * 6 := Nat.mul_le_mul_right _ hi; omega)]
   exact flat_at 6 enC enC_len EE.z j hj L i hi
 have hli := h.li i hi
 rw [map_nth (·.1) EE.z En.z L i hi]
 refine ⟨g, 0, _, _, e1, hB, hg, ?_, ?_, ?_, ?_, ?_, ?_, pR_on hli.d, pR_on hli.u⟩
 . have := hc 0 (by omega); simpa [enC] using this
 . have := hc 1 (by omega); simpa [enC] using this
 . have := hc 2 (by omega); simpa [enC] using this
 . have := hc 3 (by omega); simpa [enC] using this
 . have := hc 4 (by omega); simpa [enC] using this
 . have := hc 5 (by omega); simpa [enC] using this
theorem OwnSy.on {f : Nat -> Key} {B : Nat} {w : World} {cv tv lv : Value} {T : List TT} {L : List EE} {s : Sy} (h : OwnSy f B w cv tv lv s.cells T L) (hT : T.map (·.1) = s.tasks) (hL : L.map (·.1) = s.log) : SyOn (fun b => B <= b) w cv tv lv s :=
 ⟨h.cesOn, by rw [<- hT]; exact h.tasOn, by rw [<- hL]; exact h.ensOn⟩
theorem SyOn.kept {S : Nat -> Prop} {w w' : World} {cv tv lv : Value} {s : Sy} (h : SyOn S w cv tv lv s) (hk : Kept S w w') : SyOn S w' cv tv lv s := ⟨h.1.kept hk, h.2.1.kept hk, h.2.2.kept hk⟩
theorem SyOn.wide {S S' : Nat -> Prop} (hS : ∀ b, S b -> S' b) {w : World} {cv tv lv : Value} {s : Sy} (h : SyOn S w cv tv lv s) : SyOn S' w cv tv lv s := ⟨h.1.wide hS, h.2.1.wide hS, h.2.2.wide hS⟩
end Go.Proofs.Ytgbgjljflgbcaaa
