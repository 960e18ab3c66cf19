import Derived.Test.YtgbgjljflgbcaaaSo42
import Derived.Test.YtgbgjljflgbcaaaSo01
import Derived.Test.YtgbgjljflgbcaaaSo06
namespace Go.Proofs.Ytgbgjljflgbcaaa
set_option maxHeartbeats 8000000
open Go.RowKit
set_option linter.unusedSimpArgs false
set_option linter.unusedVariables false
theorem OkB.store {R C P D q D2 : Nat} {w W : World} {pr : Pr} {s s' : Sy} {cv bv c t l c' t' l' : Value} (h : OkB R C P D q w pr s cv bv c t l W) (hs : OwnS D2 W c' t' l' s') (hD : P + 1 < D2) (ho : Off pr s') :
  OkB R C P W.heap.size q w pr s' cv bv c' t' l' ((((W.setCell ⟨P + 1, 0, none⟩ c').setCell ⟨P + 1, 1, none⟩ t').setCell ⟨P + 1, 2, none⟩ (.int .i64 s'.clock)).setCell ⟨P + 1, 3, none⟩ l') := by
 have od := h.od
 have n1 : w.heap.size ≠ P + 1 := by omega
 have n2 : w.heap.size + 1 ≠ P + 1 := by omega
 have n3 : P ≠ P + 1 := by omega
 have k1 : ¬ (fun b => C <= b /\ b < P) (P + 1) := fun hb => by have hb : C <= P + 1 /\ P + 1 < P := hb; omega
 have k2 : ¬ (fun b => D2 <= b /\ b < W.heap.size) (P + 1) := fun hb => by have hb : D2 <= P + 1 /\ P + 1 < W.heap.size := hb; omega
 refine ⟨(((h.g.heap (heap_set_ne _ _ _ _ n1)).heap (heap_set_ne _ _ _ _ n1)).heap (heap_set_ne _ _ _ _ n1)).heap (heap_set_ne _ _ _ _ n1), (((h.z.heap (heap_set_ne _ _ _ _ n2)).heap (heap_set_ne _ _ _ _ n2)).heap (heap_set_ne _ _ _ _ n2)).heap (heap_set_ne _ _ _ _ n2), (((h.p.heap (heap_set_ne _ _ _ _ n3)).heap (heap_set_ne _ _ _ _ n3)).heap (heap_set_ne _ _ _ _ n3)).heap (heap_set_ne _ _ _ _ n3), SBox.put h.y, (((h.ps.kept (Kept.set _ _ _ _ k1)).kept (Kept.set _ _ _ _ k1)).kept (Kept.set _ _ _ _ k1)).kept (Kept.set _ _ _ _ k1), ?_, h.rd.below (((((Below.refl _ _).setCell (by show R + 1 <= P + 1; omega) _).setCell (by show R + 1 <= P + 1; omega) _).setCell (by show R + 1 <= P + 1; omega) _).setCell (by show R + 1 <= P + 1; omega) _), (((h.bl.setCell (by show w.heap.size <= P + 1; omega) _).setCell (by show w.heap.size <= P + 1; omega) _).setCell (by show w.heap.size <= P + 1; omega) _).setCell (by show w.heap.size <= P + 1; omega) _, ho, od.1, od.2.1, od.2.2.1, by simp⟩
 exact ((((hs.on.ltw.kept (Kept.set _ _ _ _ k2)).kept (Kept.set _ _ _ _ k2)).kept (Kept.set _ _ _ _ k2)).kept (Kept.set _ _ _ _ k2)).wide (fun b hb => by have hb : D2 <= b /\ b < W.heap.size := hb; show C <= b /\ b < W.heap.size; omega)
set_option maxRecDepth 100000 in
theorem dk_reg4 (V w : World) (R C P D q : Nat) (pr : Pr) (s : Sy) (cv bv c t l : Value) (HO : Hid (OkB R C P D q w pr s cv bv c t l V)) (hok : okB pr = true) (hq : q <= 400000) (Q : Exit -> Act -> World -> Prop) (u0 u1 u7 u8 u9 u10 u11 u12 u13 u14 u15 u16 u17 u18 u19 u20 u21 u22 u23 u24 u25 u26 u27 u28 u29 u30 u31 u32 u33 u34 u35 u36 u37 u38 u39 u40 u41 u42 u43 u44 u45 : Value)
   (hQ : Hid (∀ (v20 v21 v22 : Value) (pr' : Pr) (ac ab xa ya za : Option Addr) (cc cb xc yc zc : Nat) (W : World), PBox W w.heap.size (.slice ac pr'.cells.length cc) (.slice ab pr'.bodies.length cb) -> SBox W (w.heap.size + 1) (.slice xa s.cells.length xc) (.slice ya s.tasks.length yc) (.slice za s.log.length zc) s.clock -> PrAt W (.slice ac pr'.cells.length cc) (.slice ab pr'.bodies.length cb) pr' -> SyAt W (.slice xa s.cells.length xc) (.slice ya s.tasks.length yc) (.slice za s.log.length zc) s -> okB pr' = true -> Below w.heap.size w W -> Q .normal ⟨(u0 :: u1 :: .pointer (some ⟨w.heap.size, 0, none⟩) :: .pointer (some ⟨w.heap.size + 1, 0, none⟩) :: .pointer (some ⟨R, 0, none⟩) :: .pointer (some ⟨P, 0, none⟩) :: .pointer (some ⟨P + 1, 0, none⟩) :: u7 :: u8 :: u9 :: u10 :: u11 :: u12 :: u13 :: u14 :: u15 :: u16 :: u17 :: u18 :: u19 :: v20 :: v21 :: v22 :: u23 :: u24 :: u25 :: u26 :: u27 :: u28 :: u29 :: u30 :: u31 :: u32 :: u33 :: u34 :: u35 :: u36 :: u37 :: u38 :: u39 :: u40 :: u41 :: u42 :: u43 :: u44 :: u45 :: []).toArray, []⟩ W)) :
   Code.wp Try.prog (dkReg 4) Q ⟨(u0 :: u1 :: .pointer (some ⟨w.heap.size, 0, none⟩) :: .pointer (some ⟨w.heap.size + 1, 0, none⟩) :: .pointer (some ⟨R, 0, none⟩) :: .pointer (some ⟨P, 0, none⟩) :: .pointer (some ⟨P + 1, 0, none⟩) :: u7 :: u8 :: u9 :: u10 :: u11 :: u12 :: u13 :: u14 :: u15 :: u16 :: u17 :: u18 :: u19 :: u20 :: u21 :: u22 :: u23 :: u24 :: u25 :: u26 :: u27 :: u28 :: u29 :: u30 :: u31 :: u32 :: u33 :: u34 :: u35 :: u36 :: u37 :: u38 :: u39 :: u40 :: u41 :: u42 :: u43 :: u44 :: u45 :: []).toArray, []⟩ V := by
 obtain ⟨ac, cc, rfl, _⟩ := HO.out.ps.1.shape
 obtain ⟨ab, cb, rfl, _⟩ := HO.out.ps.2.shape
 obtain ⟨xa, xc, ya, yc, za, zc, rfl, rfl, rfl⟩ := HO.out.sy.shapes
 conv => arg 2; whnf
 refine wp_region_noPanic ?_
 refine till_begin (S := fun w' => PBox w' P (.slice ac pr.cells.length cc) (.slice ab pr.bodies.length cb) /\ SBox w' (P + 1) (.slice xa s.cells.length xc) (.slice ya s.tasks.length yc) (.slice za s.log.length zc) s.clock) (z := 4) (by kernel_rfl) ?_
 replace HO := (show Hid (OkB _ _ _ _ _ _ _ _ _ _ _ _ _ _) from HO.out.drew)
 generalize V.drew = W0 at HO ⊢
 refine till_take (i := 0) (v := (.pointer (some ⟨R, 0, none⟩))) rfl (by kernel_rfl) (fun _ _ _ h => h) (by rfl) ?_ HO.out.S ?_
 . (intro w hSw; obtain ⟨s0, s1⟩ := hSw; obtain ⟨p0, p1, _, _⟩ := s0.cells; obtain ⟨⟨y0, y1, y2, y3⟩, _, _⟩ := s1.cells; go_simp)
 (try simp only [Act.put, zq1, zq2, zq3])
 refine till_take (i := 2) (v := (.agg #[.slice xa s.cells.length xc, .slice ya s.tasks.length yc, .int .i64 s.clock, .slice za s.log.length zc])) rfl (by kernel_rfl) (fun _ _ _ h => h) (by rfl) ?_ HO.out.S ?_
 . (intro w hSw; obtain ⟨s0, s1⟩ := hSw; obtain ⟨p0, p1, _, _⟩ := s0.cells; obtain ⟨⟨y0, y1, y2, y3⟩, _, _⟩ := s1.cells; go_simp)
 (try simp only [Act.put, zq1, zq2, zq3])
 have hwW : w.heap.size + 1 < W0.heap.size := by have h1 := HO.out.od; have h2 := HO.out.p.lt; omega
 refine till_step (i := 1) rfl (by kernel_rfl) (fun K hK => ?_)
 go_simp
 refine (l71Prog_any (R + 1) R q _ HO.out.rd (by omega)).mono ?_
 rintro e W1 ⟨pr', cv', bv', q', rfl, hOi, hOb, hok', hc1', _, _, hR1, hF1⟩
 have hB : W0.heap.size <= W1.heap.size := hF1.size
 have HP' : Hid (PrS (fun b => W0.heap.size <= b) W1 cv' bv' pr') := ⟨hOi.on (fun b hb => hb), hOb.on (fun b hb => hb)⟩
 replace HO := (show Hid (OkB _ _ _ _ _ _ _ _ _ _ _ _ _ _) from HO.out.fr hF1 hR1)
 obtain ⟨ac', cc', rfl, _⟩ := HP'.out.1.shape
 obtain ⟨ab', cb', rfl, _⟩ := HP'.out.2.shape
 clear hOi hOb hR1 hF1
 refine hK.out _ _ (fun _ => HO.out.S) ?_
 clear hK
 (try simp only [Act.put, zq1, zq2, zq3])
 obtain ⟨g0, g1, fg0, fg1⟩ := HO.out.g.cells
 have hgl := HO.out.g.lt
 refine till_step (i := 3) rfl (by kernel_rfl) (fun K hK => ?_)
 go_simp
 have HG : Hid (PBox ((W1.setCell ⟨w.heap.size, 0, none⟩ (.slice ac' pr'.cells.length cc')).setCell ⟨w.heap.size, 1, none⟩ (.slice ab' pr'.bodies.length cb')) w.heap.size (.slice ac' pr'.cells.length cc') (.slice ab' pr'.bodies.length cb')) := (HO.out.g.set0 _).set1 _
 have HZ : Hid (SBox ((W1.setCell ⟨w.heap.size, 0, none⟩ (.slice ac' pr'.cells.length cc')).setCell ⟨w.heap.size, 1, none⟩ (.slice ab' pr'.bodies.length cb')) (w.heap.size + 1) (.slice none 0 0) (.slice none 0 0) (.slice none 0 0) 0) := (HO.out.z.heap (heap_set_ne _ _ _ _ (by show w.heap.size + 1 ≠ w.heap.size; omega))).heap (heap_set_ne _ _ _ _ (by show w.heap.size + 1 ≠ w.heap.size; omega))
 have HS2 : Hid (PBox ((W1.setCell ⟨w.heap.size, 0, none⟩ (.slice ac' pr'.cells.length cc')).setCell ⟨w.heap.size, 1, none⟩ (.slice ab' pr'.bodies.length cb')) P (.slice ac pr.cells.length cc) (.slice ab pr.bodies.length cb) /\ SBox ((W1.setCell ⟨w.heap.size, 0, none⟩ (.slice ac' pr'.cells.length cc')).setCell ⟨w.heap.size, 1, none⟩ (.slice ab' pr'.bodies.length cb')) (P + 1) (.slice xa s.cells.length xc) (.slice ya s.tasks.length yc) (.slice za s.log.length zc) s.clock) := by
   have h1 := HO.out.od
   exact ⟨(HO.out.p.heap (heap_set_ne _ _ _ _ (by show P ≠ w.heap.size; omega))).heap (heap_set_ne _ _ _ _ (by show P ≠ w.heap.size; omega)), (HO.out.y.heap (heap_set_ne _ _ _ _ (by show P + 1 ≠ w.heap.size; omega))).heap (heap_set_ne _ _ _ _ (by show P + 1 ≠ w.heap.size; omega))⟩
 have HSY : Hid (SyOn (fun b => C <= b /\ b < D) ((W1.setCell ⟨w.heap.size, 0, none⟩ (.slice ac' pr'.cells.length cc')).setCell ⟨w.heap.size, 1, none⟩ (.slice ab' pr'.bodies.length cb')) (.slice xa s.cells.length xc) (.slice ya s.tasks.length yc) (.slice za s.log.length zc) s) := by
   have h1 := HO.out.od
   exact (HO.out.sy.kept (Kept.set _ _ _ _ (fun hb => by have hb : C <= w.heap.size /\ w.heap.size < D := hb; omega))).kept (Kept.set _ _ _ _ (fun hb => by have hb : C <= w.heap.size /\ w.heap.size < D := hb; omega))
 have HPS : Hid (PrS (fun b => W0.heap.size <= b) ((W1.setCell ⟨w.heap.size, 0, none⟩ (.slice ac' pr'.cells.length cc')).setCell ⟨w.heap.size, 1, none⟩ (.slice ab' pr'.bodies.length cb')) (.slice ac' pr'.cells.length cc') (.slice ab' pr'.bodies.length cb') pr') := (HP'.out.kept (Kept.set _ _ _ _ (fun hb => by have hb : W0.heap.size <= w.heap.size := hb; omega))).kept (Kept.set _ _ _ _ (fun hb => by have hb : W0.heap.size <= w.heap.size := hb; omega))
 have HBL : Hid (Below w.heap.size w ((W1.setCell ⟨w.heap.size, 0, none⟩ (.slice ac' pr'.cells.length cc')).setCell ⟨w.heap.size, 1, none⟩ (.slice ab' pr'.bodies.length cb'))) := (HO.out.bl.setCell (Nat.le_refl _) _).setCell (Nat.le_refl _) _
 have hCo : w.heap.size + 1 < C := by have h1 := HO.out.od; omega
 clear g0 g1 fg0 fg1 hgl
 refine hK.out _ _ (fun _ => HS2.out) ?_
 clear hK HS2 HO
 (try simp only [Act.put, zq1, zq2, zq3])
 generalize ((W1.setCell ⟨w.heap.size, 0, none⟩ (.slice ac' pr'.cells.length cc')).setCell ⟨w.heap.size, 1, none⟩ (.slice ab' pr'.bodies.length cb')) = W2 at HG HZ HSY HPS HBL ⊢
 obtain ⟨⟨z0, z1, z2, z3⟩, ⟨y0, y1, y2, y3⟩, zl⟩ := HZ.out.cells
 refine till_step (i := 4) rfl (by kernel_rfl) (fun K hK => ?_)
 go_simp
 refine hK.out _ _ (fun h => absurd rfl h) ?_
 clear hK
 (try simp only [Act.put, zq1, zq2, zq3])
 refine till_done (by kernel_rfl) ?_ _
 have n1 : w.heap.size ≠ w.heap.size + 1 := by omega
 refine hQ.out _ _ _ pr' _ _ _ _ _ _ _ _ _ _ _ ((((HG.out.heap (heap_set_ne _ _ _ _ n1)).heap (heap_set_ne _ _ _ _ n1)).heap (heap_set_ne _ _ _ _ n1)).heap (heap_set_ne _ _ _ _ n1)) (SBox.put HZ.out) ?_ ?_ hok' ((((HBL.out.setCell (by show w.heap.size <= w.heap.size + 1; omega) _).setCell (by show w.heap.size <= w.heap.size + 1; omega) _).setCell (by show w.heap.size <= w.heap.size + 1; omega) _).setCell (by show w.heap.size <= w.heap.size + 1; omega) _)
 . have hn : ¬ (fun b => W0.heap.size <= b) (w.heap.size + 1) := fun hb => by have hb : W0.heap.size <= w.heap.size + 1 := hb; omega
   exact ((((HPS.out.kept (Kept.set _ _ _ _ hn)).kept (Kept.set _ _ _ _ hn)).kept (Kept.set _ _ _ _ hn)).kept (Kept.set _ _ _ _ hn)).at
 . have hn : ¬ (fun b => C <= b /\ b < D) (w.heap.size + 1) := fun hb => by have hb : C <= w.heap.size + 1 /\ w.heap.size + 1 < D := hb; omega
   exact ((((HSY.out.kept (Kept.set _ _ _ _ hn)).kept (Kept.set _ _ _ _ hn)).kept (Kept.set _ _ _ _ hn)).kept (Kept.set _ _ _ _ hn)).at
set_option maxRecDepth 100000 in
theorem dk_reg11 (V w : World) (R C P D q : Nat) (pr : Pr) (s : Sy) (cv bv c t l : Value) (HO : Hid (OkB R C P D q w pr s cv bv c t l V)) (hok : okB pr = true) (hq : q <= 400000) (Q : Exit -> Act -> World -> Prop) (u0 u1 u7 u8 u9 u10 u11 u12 u13 u14 u15 u16 u17 u18 u19 u20 u21 u22 u23 u24 u25 u26 u27 u28 u29 u30 u31 u32 u33 u34 u35 u36 u37 u38 u39 u40 u41 u42 u43 u44 u45 : Value)
   (hQ : Hid (∀ (v44 v45 : Value) (pr' : Pr) (ac ab xa ya za : Option Addr) (cc cb xc yc zc : Nat) (W : World), PBox W w.heap.size (.slice ac pr'.cells.length cc) (.slice ab pr'.bodies.length cb) -> SBox W (w.heap.size + 1) (.slice xa s.cells.length xc) (.slice ya s.tasks.length yc) (.slice za s.log.length zc) s.clock -> PrAt W (.slice ac pr'.cells.length cc) (.slice ab pr'.bodies.length cb) pr' -> SyAt W (.slice xa s.cells.length xc) (.slice ya s.tasks.length yc) (.slice za s.log.length zc) s -> okB pr' = true -> Below w.heap.size w W -> Q .normal ⟨(u0 :: u1 :: .pointer (some ⟨w.heap.size, 0, none⟩) :: .pointer (some ⟨w.heap.size + 1, 0, none⟩) :: .pointer (some ⟨R, 0, none⟩) :: .pointer (some ⟨P, 0, none⟩) :: .pointer (some ⟨P + 1, 0, none⟩) :: u7 :: u8 :: u9 :: u10 :: u11 :: u12 :: u13 :: u14 :: u15 :: u16 :: u17 :: u18 :: u19 :: u20 :: u21 :: u22 :: u23 :: u24 :: u25 :: u26 :: u27 :: u28 :: u29 :: u30 :: u31 :: u32 :: u33 :: u34 :: u35 :: u36 :: u37 :: u38 :: u39 :: u40 :: u41 :: u42 :: u43 :: v44 :: v45 :: []).toArray, []⟩ W)) :
   Code.wp Try.prog (dkReg 11) Q ⟨(u0 :: u1 :: .pointer (some ⟨w.heap.size, 0, none⟩) :: .pointer (some ⟨w.heap.size + 1, 0, none⟩) :: .pointer (some ⟨R, 0, none⟩) :: .pointer (some ⟨P, 0, none⟩) :: .pointer (some ⟨P + 1, 0, none⟩) :: u7 :: u8 :: u9 :: u10 :: u11 :: u12 :: u13 :: u14 :: u15 :: u16 :: u17 :: u18 :: u19 :: u20 :: u21 :: u22 :: u23 :: u24 :: u25 :: u26 :: u27 :: u28 :: u29 :: u30 :: u31 :: u32 :: u33 :: u34 :: u35 :: u36 :: u37 :: u38 :: u39 :: u40 :: u41 :: u42 :: u43 :: u44 :: u45 :: []).toArray, []⟩ V := by
 obtain ⟨ac, cc, rfl, _⟩ := HO.out.ps.1.shape
 obtain ⟨ab, cb, rfl, _⟩ := HO.out.ps.2.shape
 obtain ⟨xa, xc, ya, yc, za, zc, rfl, rfl, rfl⟩ := HO.out.sy.shapes
 conv => arg 2; whnf
 refine wp_region_noPanic ?_
 refine till_begin (S := fun w' => PBox w' P (.slice ac pr.cells.length cc) (.slice ab pr.bodies.length cb) /\ SBox w' (P + 1) (.slice xa s.cells.length xc) (.slice ya s.tasks.length yc) (.slice za s.log.length zc) s.clock) (z := 3) (by kernel_rfl) ?_
 replace HO := (show Hid (OkB _ _ _ _ _ _ _ _ _ _ _ _ _ _) from HO.out.drew)
 generalize V.drew = W0 at HO ⊢
 refine till_take (i := 0) (v := (.agg #[.slice ac pr.cells.length cc, .slice ab pr.bodies.length cb])) rfl (by kernel_rfl) (fun _ _ _ h => h) (by rfl) ?_ HO.out.S ?_
 . (intro w hSw; obtain ⟨s0, s1⟩ := hSw; obtain ⟨p0, p1, _, _⟩ := s0.cells; obtain ⟨⟨y0, y1, y2, y3⟩, _, _⟩ := s1.cells; go_simp)
 (try simp only [Act.put, zq1, zq2, zq3])
 refine till_take (i := 1) (v := (.agg #[.slice xa s.cells.length xc, .slice ya s.tasks.length yc, .int .i64 s.clock, .slice za s.log.length zc])) rfl (by kernel_rfl) (fun _ _ _ h => h) (by rfl) ?_ HO.out.S ?_
 . (intro w hSw; obtain ⟨s0, s1⟩ := hSw; obtain ⟨p0, p1, _, _⟩ := s0.cells; obtain ⟨⟨y0, y1, y2, y3⟩, _, _⟩ := s1.cells; go_simp)
 (try simp only [Act.put, zq1, zq2, zq3])
 have hwW : w.heap.size + 1 < C := by have h1 := HO.out.od; omega
 obtain ⟨g0, g1, fg0, fg1⟩ := HO.out.g.cells
 have hgl := HO.out.g.lt
 refine till_step (i := 2) rfl (by kernel_rfl) (fun K hK => ?_)
 go_simp
 have HG : Hid (PBox ((W0.setCell ⟨w.heap.size, 0, none⟩ (.slice ac pr.cells.length cc)).setCell ⟨w.heap.size, 1, none⟩ (.slice ab pr.bodies.length cb)) w.heap.size (.slice ac pr.cells.length cc) (.slice ab pr.bodies.length cb)) := (HO.out.g.set0 _).set1 _
 have HZ : Hid (SBox ((W0.setCell ⟨w.heap.size, 0, none⟩ (.slice ac pr.cells.length cc)).setCell ⟨w.heap.size, 1, none⟩ (.slice ab pr.bodies.length cb)) (w.heap.size + 1) (.slice none 0 0) (.slice none 0 0) (.slice none 0 0) 0) := (HO.out.z.heap (heap_set_ne _ _ _ _ (by show w.heap.size + 1 ≠ w.heap.size; omega))).heap (heap_set_ne _ _ _ _ (by show w.heap.size + 1 ≠ w.heap.size; omega))
 have HS2 : Hid (PBox ((W0.setCell ⟨w.heap.size, 0, none⟩ (.slice ac pr.cells.length cc)).setCell ⟨w.heap.size, 1, none⟩ (.slice ab pr.bodies.length cb)) P (.slice ac pr.cells.length cc) (.slice ab pr.bodies.length cb) /\ SBox ((W0.setCell ⟨w.heap.size, 0, none⟩ (.slice ac pr.cells.length cc)).setCell ⟨w.heap.size, 1, none⟩ (.slice ab pr.bodies.length cb)) (P + 1) (.slice xa s.cells.length xc) (.slice ya s.tasks.length yc) (.slice za s.log.length zc) s.clock) := by
   have h1 := HO.out.od
   exact ⟨(HO.out.p.heap (heap_set_ne _ _ _ _ (by show P ≠ w.heap.size; omega))).heap (heap_set_ne _ _ _ _ (by show P ≠ w.heap.size; omega)), (HO.out.y.heap (heap_set_ne _ _ _ _ (by show P + 1 ≠ w.heap.size; omega))).heap (heap_set_ne _ _ _ _ (by show P + 1 ≠ w.heap.size; omega))⟩
 have HSY : Hid (SyOn (fun b => C <= b /\ b < D) ((W0.setCell ⟨w.heap.size, 0, none⟩ (.slice ac pr.cells.length cc)).setCell ⟨w.heap.size, 1, none⟩ (.slice ab pr.bodies.length cb)) (.slice xa s.cells.length xc) (.slice ya s.tasks.length yc) (.slice za s.log.length zc) s) := by
   have h1 := HO.out.od
   exact (HO.out.sy.kept (Kept.set _ _ _ _ (fun hb => by have hb : C <= w.heap.size /\ w.heap.size < D := hb; omega))).kept (Kept.set _ _ _ _ (fun hb => by have hb : C <= w.heap.size /\ w.heap.size < D := hb; omega))
 have HPS : Hid (PrS (fun b => C <= b) ((W0.setCell ⟨w.heap.size, 0, none⟩ (.slice ac pr.cells.length cc)).setCell ⟨w.heap.size, 1, none⟩ (.slice ab pr.bodies.length cb)) (.slice ac pr.cells.length cc) (.slice ab pr.bodies.length cb) pr) := ((HO.out.ps.wide (fun b hb => hb.1)).kept (Kept.set _ _ _ _ (fun hb => by have hb : C <= w.heap.size := hb; omega))).kept (Kept.set _ _ _ _ (fun hb => by have hb : C <= w.heap.size := hb; omega))
 have HBL : Hid (Below w.heap.size w ((W0.setCell ⟨w.heap.size, 0, none⟩ (.slice ac pr.cells.length cc)).setCell ⟨w.heap.size, 1, none⟩ (.slice ab pr.bodies.length cb))) := (HO.out.bl.setCell (Nat.le_refl _) _).setCell (Nat.le_refl _) _
 have hCo : w.heap.size + 1 < C := by have h1 := HO.out.od; omega
 clear g0 g1 fg0 fg1 hgl
 refine hK.out _ _ (fun _ => HS2.out) ?_
 clear hK HS2 HO
 (try simp only [Act.put, zq1, zq2, zq3])
 generalize ((W0.setCell ⟨w.heap.size, 0, none⟩ (.slice ac pr.cells.length cc)).setCell ⟨w.heap.size, 1, none⟩ (.slice ab pr.bodies.length cb)) = W2 at HG HZ HSY HPS HBL ⊢
 obtain ⟨⟨z0, z1, z2, z3⟩, ⟨y0, y1, y2, y3⟩, zl⟩ := HZ.out.cells
 refine till_step (i := 3) rfl (by kernel_rfl) (fun K hK => ?_)
 go_simp
 refine hK.out _ _ (fun h => absurd rfl h) ?_
 clear hK
 (try simp only [Act.put, zq1, zq2, zq3])
 refine till_done (by kernel_rfl) ?_ _
 have n1 : w.heap.size ≠ w.heap.size + 1 := by omega
 refine hQ.out _ _ pr _ _ _ _ _ _ _ _ _ _ _ ((((HG.out.heap (heap_set_ne _ _ _ _ n1)).heap (heap_set_ne _ _ _ _ n1)).heap (heap_set_ne _ _ _ _ n1)).heap (heap_set_ne _ _ _ _ n1)) (SBox.put HZ.out) ?_ ?_ hok ((((HBL.out.setCell (by show w.heap.size <= w.heap.size + 1; omega) _).setCell (by show w.heap.size <= w.heap.size + 1; omega) _).setCell (by show w.heap.size <= w.heap.size + 1; omega) _).setCell (by show w.heap.size <= w.heap.size + 1; omega) _)
 . have hn : ¬ (fun b => C <= b) (w.heap.size + 1) := fun hb => by have hb : C <= w.heap.size + 1 := hb; omega
   exact ((((HPS.out.kept (Kept.set _ _ _ _ hn)).kept (Kept.set _ _ _ _ hn)).kept (Kept.set _ _ _ _ hn)).kept (Kept.set _ _ _ _ hn)).at
 . have hn : ¬ (fun b => C <= b /\ b < D) (w.heap.size + 1) := fun hb => by have hb : C <= w.heap.size + 1 /\ w.heap.size + 1 < D := hb; omega
   exact ((((HSY.out.kept (Kept.set _ _ _ _ hn)).kept (Kept.set _ _ _ _ hn)).kept (Kept.set _ _ _ _ hn)).kept (Kept.set _ _ _ _ hn)).at
def OkD (w : World) (e : Ending) (w' : World) : Prop :=
 ∃ (pr : Pr) (s : Sy) (cv bv c t l : Value), e = .returned (.tuple #[.agg #[cv, bv], .agg #[c, t, .int .i64 s.clock, l]]) /\ PrAt w' cv bv pr /\ SyAt w' c t l s /\ okB pr = true /\ SmSy s /\ Below w.heap.size w w'
set_option maxRecDepth 20000 in
theorem drawSysOk_any (a : Option Addr) (n cap : Nat) (w : World) (h : Bytes w a n) (hc : n <= cap) (hn : cap <= 9223372036854775807) :
   Calls Try.prog 19 #[.slice a n cap] w (OkD w) := by
 have HY : Hid (∃ V0, V0 = ((w.alloc (.cells #[.slice none 0 0, .slice none 0 0] 26)).alloc (.cells #[.slice none 0 0, .slice none 0 0, .int .i64 0, .slice none 0 0] 32)) /\ Bytes V0 a n /\ PBox V0 w.heap.size (.slice none 0 0) (.slice none 0 0) /\ SBox V0 (w.heap.size + 1) (.slice none 0 0) (.slice none 0 0) (.slice none 0 0) 0 /\ V0.heap.size = w.heap.size + 2 /\ Below w.heap.size w V0) := by
   refine ⟨_, rfl, fun i hi => ?_, PBox.alloc (heap_alloc_new w _) _, ?_, by simp, ((Below.refl _ _).alloc (Nat.le_refl _) _).alloc (by simp) _⟩
   . obtain ⟨b, off, u, e, h1, h2, h3, h4⟩ := h i hi
     exact ⟨b, off, u, e, by simp; omega, h2, h3, by rw [World.cell?_alloc_past _ _ _ (by simp; omega), World.cell?_alloc_past _ _ _ h1]; exact h4⟩
   . simpa [SBox] using heap_alloc_new (w.alloc (.cells #[.slice none 0 0, .slice none 0 0] 26)) (.cells #[.slice none 0 0, .slice none 0 0, .int .i64 0, .slice none 0 0] 32)
 clear h
 go_enter Try.func19, Try.ntmps19
 go_wp2_with fail
 obtain ⟨V0, hV, hVB, hVG, hVZ, hVs, hVb⟩ := HY.out
 rw [<- hV]
 clear hV HY
 refine (l6Open_any a n cap _ hVB hc hn).mono ?_
 rintro e w0 ⟨rfl, hR0, hB0⟩
 rw [hVs] at hR0
 have HG0 : Hid (PBox w0 w.heap.size (.slice none 0 0) (.slice none 0 0)) := hVG.heap (hB0.block _ (by omega))
 have HZ0 : Hid (SBox w0 (w.heap.size + 1) (.slice none 0 0) (.slice none 0 0) (.slice none 0 0) 0) := hVZ.heap (hB0.block _ (by omega))
 have hs0 : w.heap.size + 2 + 1 <= w0.heap.size := hR0.le
 have HB0 : Hid (Below w.heap.size w w0) := hVb.trans (hB0.mono (by omega))
 have hRe : V0.heap.size = w.heap.size + 2 := hVs
 clear hVB hVG hVZ hVb hB0
 rw [hRe]
 clear hVs hRe
 go_wp2_with fail
 refine (l71Off_any (w.heap.size + 2 + 1) (w.heap.size + 2) 0 w0 hR0 (by omega)).mono ?_
 rintro e w1 ⟨pr, s, cv, bv, c, t, l, p', rfl, hP, hS, hok, hc1, ho, hp1, hp2, hR1, hF1⟩
 have hs1 := hF1.size
 obtain ⟨ac, cc, rfl, _⟩ := hP.1.shape
 obtain ⟨ab, cb, rfl, _⟩ := hP.2.shape
 obtain ⟨xa, xc, ya, yc, za, zc, rfl, rfl, rfl⟩ := hS.shapes
 have HV : Hid (∃ V, V = ((w1.alloc (.cells #[.slice ac pr.cells.length cc, .slice ab pr.bodies.length cb] 26)).alloc (.cells #[.slice xa s.cells.length xc, .slice ya s.tasks.length yc, .int .i64 s.clock, .slice za s.log.length zc] 32)) /\ OkB (w.heap.size + 2) w0.heap.size w1.heap.size w1.heap.size p' w pr s (.slice ac pr.cells.length cc) (.slice ab pr.bodies.length cb) (.slice xa s.cells.length xc) (.slice ya s.tasks.length yc) (.slice za s.log.length zc) V /\ V.heap.size = w1.heap.size + 2) := by
   have hb : Below w1.heap.size w1 ((w1.alloc (.cells #[.slice ac pr.cells.length cc, .slice ab pr.bodies.length cb] 26)).alloc (.cells #[.slice xa s.cells.length xc, .slice ya s.tasks.length yc, .int .i64 s.clock, .slice za s.log.length zc] 32)) := ((Below.refl _ _).alloc (Nat.le_refl _) _).alloc (by simp) _
   have hg : PBox w1 w.heap.size (.slice none 0 0) (.slice none 0 0) := HG0.out.heap (hF1.block _ HG0.out.lt (by omega))
   have hz : SBox w1 (w.heap.size + 1) (.slice none 0 0) (.slice none 0 0) (.slice none 0 0) 0 := HZ0.out.heap (hF1.block _ HZ0.out.lt (by omega))
   refine ⟨_, rfl, ⟨hg.heap (hb.block _ hg.lt), hz.heap (hb.block _ hz.lt), PBox.alloc (heap_alloc_new w1 _) _, ?_, ?_, ?_, hR1.below (hb.mono hR1.le), (HB0.out.trans ((hF1.mono (B' := w.heap.size) (by omega)).below (by omega))).trans (hb.mono (by omega)), ho, rfl, by omega, by omega, hb.size⟩, by simp⟩
   . simpa [SBox] using heap_alloc_new (w1.alloc (.cells #[.slice ac pr.cells.length cc, .slice ab pr.bodies.length cb] 26)) (.cells #[.slice xa s.cells.length xc, .slice ya s.tasks.length yc, .int .i64 s.clock, .slice za s.log.length zc] 32)
   . exact hP.ltw.kept (Kept.below hb)
   . exact hS.ltw.kept (Kept.below hb)
 have hokp := hok
 clear hP hS hR1 hF1 hR0 HB0 HG0 HZ0 ho hc1
 go_wp2_with fail
 obtain ⟨V, hV, hVO, hVs⟩ := HV.out
 rw [<- hV]
 clear hV HV
 have HO := (show Hid (OkB _ _ _ _ _ _ _ _ _ _ _ _ _ _) from hVO)
 clear hVO
 refine (pick_any (w.heap.size + 2 + 1) (w.heap.size + 2) p' 8 _ HO.out.rd (by omega) (by omega) (by omega)).mono ?_
 rintro e w5 ⟨q5, rfl, q50, q51, hR5, hF5⟩
 have hs5 := hF5.size
 replace HO := (show Hid (OkB _ _ _ _ _ _ _ _ _ _ _ _ _ _) from HO.out.fr hF5 hR5)
 clear hR5 hF5
 by_cases hq : q5 = 0
 . subst hq
   go_wp2_with fail
   refine dk_reg4 w5 w (w.heap.size + 2) w0.heap.size w1.heap.size w1.heap.size (p' + 1) pr s _ _ _ _ _ HO hokp (by omega) _ _ _ _ _ _ _ _ _ _ _ _ _ _ _ _ _ _ _ _ _ _ _ _ _ _ _ _ _ _ _ _ _ _ _ _ _ _ _ _ _ _ ?_
   intro v20 v21 v22 pr' ac ab xa ya za cc cb xc yc zc W hp hs hpa hsa hok' hbl
   have hsm := HO.out.of.sm
   obtain ⟨p0, p1, _, _⟩ := hp.cells
   obtain ⟨⟨y0, y1, y2, y3⟩, _, _⟩ := hs.cells
   go_wp2_with fail
   (try simp only [Exit.inBlock, Exit.then])
   refine bodyPost_ret (v := .tuple #[.agg #[.slice ac pr'.cells.length cc, .slice ab pr'.bodies.length cb], .agg #[.slice xa s.cells.length xc, .slice ya s.tasks.length yc, .int .i64 s.clock, .slice za s.log.length zc]]) (by simp [results, Try.results19, go_sem, p0, p1, y0, y1, y2, y3]) rfl ?_
   exact ⟨pr', s, _, _, _, _, _, rfl, hpa, hsa, hok', hsm, hbl⟩
 have hqb : (q5 == 0) = false := by simp [hq]
 go_wp2_with fail
 have hSP := small_ok hokp
 have HSP := (show Hid (SmallP _) from hSP)
 clear hSP
 go_loopw [7] (fun q w' => ∃ (k : Nat) (s : Sy) (c t l : Value) (D qq : Nat), k <= 80 /\ q = .int .i64 k /\ qq <= 30000 + k /\ Hid (OkB (w.heap.size + 2) w0.heap.size w1.heap.size D qq w pr s (.slice ac pr.cells.length cc) (.slice ab pr.bodies.length cb) c t l w') /\ w1.heap.size + 1 < w'.heap.size /\ D <= w'.heap.size) (fun q _ => 80 - (intOf q).toNat)
 case atStart => exact ⟨0, s, _, _, _, _, _, by omega, rfl, by omega, HO, by omega, by omega⟩
 case round =>
   clear HO
   obtain ⟨k, s, c, t, l, D, qq, hk, rfl, hqq, HO, hwr, hDr⟩ := hrel
   obtain ⟨xa, xc, ya, yc, za, zc, rfl, rfl, rfl⟩ := HO.out.sy.shapes
   obtain ⟨⟨y0, y1, y2, y3⟩, _, hyl⟩ := HO.out.y.cells
   by_cases hlt : k < 80
   case neg =>
     have hlt' : decide ((k : Int) < 80) = false := decide_eq_false (by omega)
     have hlt2 : ¬ (k : Int) < 80 := by omega
     go_wp2_with fail
     refine dk_reg11 wr w (w.heap.size + 2) w0.heap.size w1.heap.size D qq pr s _ _ _ _ _ HO hokp (by omega) _ _ _ _ _ _ _ _ _ _ _ _ _ _ _ _ _ _ _ _ _ _ _ _ _ _ _ _ _ _ _ _ _ _ _ _ _ _ _ _ _ _ ?_
     intro v44 v45 pr' ac ab xa ya za cc cb xc yc zc W hp hs hpa hsa hok' hbl
     have hsm := HO.out.of.sm
     obtain ⟨p0, p1, _, _⟩ := hp.cells
     obtain ⟨⟨y0, y1, y2, y3⟩, _, _⟩ := hs.cells
     go_wp2_with fail
     (try simp only [Exit.inBlock, Exit.then])
     refine bodyPost_ret (v := .tuple #[.agg #[.slice ac pr'.cells.length cc, .slice ab pr'.bodies.length cb], .agg #[.slice xa s.cells.length xc, .slice ya s.tasks.length yc, .int .i64 s.clock, .slice za s.log.length zc]]) (by simp [results, Try.results19, go_sem, p0, p1, y0, y1, y2, y3]) rfl ?_
     exact ⟨pr', s, _, _, _, _, _, rfl, hpa, hsa, hok', hsm, hbl⟩
   have hlt' : (k : Int) < 80 := by omega
   go_wp2_with fail
   refine (sSysHeld_any s xa ya za xc yc zc _ HO.out.sy.at.1 (by have := HO.out.of.cs; omega)).mono ?_
   rintro e w6 ⟨v6, rfl, hv6, hb6⟩
   obtain ⟨a6, c6, rfl, _⟩ := own_shape hv6
   have hs6 := hb6.size
   replace HO := (show Hid (OkB _ _ _ _ _ _ _ _ _ _ _ _ _ _) from HO.out.bel hb6)
   clear hv6 hb6 y0 y1 y2 y3 hyl
   by_cases hh : (hdL s).length = 0
   case neg =>
     have hhb : (((hdL s).length : Int) == 0) = false := beq_eq_false_iff_ne.2 (by omega)
     go_wp2_with fail
     refine dk_reg11 w6 w (w.heap.size + 2) w0.heap.size w1.heap.size D qq pr s _ _ _ _ _ HO hokp (by omega) _ _ _ _ _ _ _ _ _ _ _ _ _ _ _ _ _ _ _ _ _ _ _ _ _ _ _ _ _ _ _ _ _ _ _ _ _ _ _ _ _ _ ?_
     intro v44 v45 pr' ac ab xa ya za cc cb xc yc zc W hp hs hpa hsa hok' hbl
     have hsm := HO.out.of.sm
     obtain ⟨p0, p1, _, _⟩ := hp.cells
     obtain ⟨⟨y0, y1, y2, y3⟩, _, _⟩ := hs.cells
     go_wp2_with fail
     (try simp only [Exit.inBlock, Exit.then])
     refine bodyPost_ret (v := .tuple #[.agg #[.slice ac pr'.cells.length cc, .slice ab pr'.bodies.length cb], .agg #[.slice xa s.cells.length xc, .slice ya s.tasks.length yc, .int .i64 s.clock, .slice za s.log.length zc]]) (by simp [results, Try.results19, go_sem, p0, p1, y0, y1, y2, y3]) rfl ?_
     exact ⟨pr', s, _, _, _, _, _, rfl, hpa, hsa, hok', hsm, hbl⟩
   have hhb : (((hdL s).length : Int) == 0) = true := by rw [hh]; rfl
   go_wp2_with fail
   refine dk_reg8 w6 w (w.heap.size + 2) w0.heap.size w1.heap.size D qq pr s _ _ _ _ _ HO HSP (by omega) (by omega) (by omega) _ _ _ _ _ _ _ _ _ _ _ _ _ _ _ _ _ _ _ _ _ _ _ _ _ _ _ _ _ _ _ _ _ _ _ _ _ _ _ _ _ _ _ _ ?_
   intro v33 v34 v35 v36 v37 v38 v39 v40 v41 X bb s' c' t' l' D2 W hO hX hR hD2 hX2 hoff
   have HO2 := (show Hid (OkB _ _ _ _ _ _ _ _ _ _ _ _ _ _) from hO)
   have HX := (show Hid (SBox _ _ _ _ _ _) from hX)
   have HR := (show Hid (OwnS _ _ _ _ _ _) from hR)
   have HF := (show Hid (bb = true -> _) from hoff)
   have hod := hO.od
   have hyl := hO.y.lt
   have hxl := hX.lt
   clear hO hX hR hoff HO
   cases bb
   . go_wp2_with fail
     go_roundw
     case rel => exact ⟨k + 1, s, _, _, _, D, qq + 1, by omega, by go_num, by omega, HO2, by omega, by omega⟩
     case measure => simp [intOf]; omega
   . obtain ⟨xa', xc', ya', yc', za', zc', rfl, rfl, rfl⟩ := HR.out.on.shapes
     obtain ⟨⟨e0, e1, e2, e3⟩, _, _⟩ := HX.out.cells
     obtain ⟨⟨y0, y1, y2, y3⟩, ⟨f0, f1, f2, f3⟩, _⟩ := HO2.out.y.cells
     have HO3 : Hid (OkB (w.heap.size + 2) w0.heap.size w1.heap.size W.heap.size (qq + 1) w pr s' (.slice ac pr.cells.length cc) (.slice ab pr.bodies.length cb) (.slice xa' s'.cells.length xc') (.slice ya' s'.tasks.length yc') (.slice za' s'.log.length zc') ((((W.setCell ⟨w1.heap.size + 1, 0, none⟩ (.slice xa' s'.cells.length xc')).setCell ⟨w1.heap.size + 1, 1, none⟩ (.slice ya' s'.tasks.length yc')).setCell ⟨w1.heap.size + 1, 2, none⟩ (.int .i64 s'.clock)).setCell ⟨w1.heap.size + 1, 3, none⟩ (.slice za' s'.log.length zc'))) := HO2.out.store HR.out (by omega) (HF.out rfl)
     clear HO2
     go_wp2_with fail
     go_roundw
     case rel => exact ⟨k + 1, s', _, _, _, W.heap.size, qq + 1, by omega, by go_num, by omega, HO3, by simp; omega, by simp⟩
     case measure => simp [intOf]; omega

set_option maxRecDepth 20000
theorem taskNumsInForm_any (p : Pr) (pa0 pa1 : Option Addr) (pc0 pc1 : Nat) (t : Ta) (a3 a8 a9 a10 : Option Addr) (c3 c8 c9 c10 : Nat) (w : World) (hp : PrAt w (.slice pa0 p.cells.length pc0) (.slice pa1 p.bodies.length pc1) p) (h3 : IntsAt w (.slice a3 t.regs.length c3) t.regs) (h8 : IntsAt w (.slice a8 t.old.length c8) t.old) :
   Calls Try.prog 88 #[.agg #[.slice pa0 p.cells.length pc0, .slice pa1 p.bodies.length pc1], .agg #[.int .i64 t.body, .int .i64 t.pc, .int .i64 t.up, .slice a3 t.regs.length c3, .int .i64 t.way, .int .i64 t.stage, .int .i64 t.at_, .int .i64 t.since, .slice a8 t.old.length c8, .slice a9 t.reads.length c9, .slice a10 t.puts.length c10, .int .i64 t.when_, .int .i64 t.from_]] w fun r w' => r = .returned (.bool (tnB p t)) /\ Below w.heap.size w w' := by
 have H3 := (show Hid (∀ W, Below w.heap.size w W -> IntsAt W _ _) from fun W hW => h3.mono hW)
 have H8 := (show Hid (∀ W, Below w.heap.size w W -> IntsAt W _ _) from fun W hW => h8.mono hW)
 obtain ⟨a, cap, e, hm, hc⟩ := hp.2
 injection e with e1 e2 e3
 subst e1 e3
 clear hp h3 h8
 cases g1 : plB t.body p.bodies.length
 . have G1 := (show Hid (_ = _) from g1)
   have HF : Hid (tnB p t = false) := by simp [Hid, tnB, g1]
   clear hc
   go_enter Try.func88, Try.ntmps88
   go_wp2_with fail
   clear g1
   go_quiet ((go_at_call 45; with_reducible exact Calls.quiet_of_same (isPlace_b G1.out _)))
   go_wp2_with fail
   go_ret
   exact ⟨by rw [HF.out]; rfl, bq0⟩
 obtain ⟨bn, hbn⟩ : ∃ bn : Nat, t.body = (bn : Int) := ⟨t.body.toNat, by rw [plB] at g1; simp at g1; omega⟩
 have hbl : (bn : Int) < (p.bodies.length : Int) := by rw [plB] at g1; simp at g1; omega
 have hbl' : bn < p.bodies.length := by omega
 obtain ⟨b, off, av, rfl, hbw, c0, ha⟩ := hc bn hbl'
 obtain ⟨aa, ac, rfl, hma, _⟩ := ha
 have hA : acts p t = nth [] p.bodies bn := by unfold acts; rw [hbn]; rfl
 have g1' : plB (bn : Int) p.bodies.length = true := by rw [<- hbn]; exact g1
 have hbw1 : b < w.heap.size + 1 := by omega
 have G1 := (show Hid (_ = _) from g1')
 have HA := (show Hid (_ = _) from hA)
 have HG1 := (show Hid (_ = _) from g1)
 clear hc g1 g1' hA
 cases g2 : inB t.pc 0 (nth [] p.bodies bn).length
 . have HF : Hid (tnB p t = false) := by simp [Hid, tnB, HA.out, g2]
   have G2 := (show Hid (_ = _) from g2)
   clear g2
   go_enter Try.func88, Try.ntmps88
   go_wp2_with fail
   go_quiet ((first | (go_at_call 45; with_reducible exact Calls.quiet_of_same (isPlace_b G1.out _)) | (go_at_call 39; with_reducible exact Calls.quiet_of_same (isUpTo_b G2.out _))))
   go_wp2_with fail
   go_ret
   exact ⟨by rw [HF.out]; rfl, bq0⟩
 have G2 := (show Hid (_ = _) from g2)
 clear g2
 cases g3 : rgB t.regs
 . have HF : Hid (tnB p t = false) := by simp [Hid, tnB, HA.out, g3]
   have G3 := (show Hid (_ = _) from g3)
   clear g3
   go_enter Try.func88, Try.ntmps88
   go_wp2_with fail
   go_quiet ((first | (go_at_call 45; with_reducible exact Calls.quiet_of_same (isPlace_b G1.out _)) | (go_at_call 39; with_reducible exact Calls.quiet_of_same (isUpTo_b G2.out _)) | (go_at_call 123; with_reducible refine Calls.quiet_of_same (regs_b G3.out _ (H3.out _ ?hb)); case hb => exact bq0)))
   go_wp2_with fail
   go_ret
   exact ⟨by rw [HF.out]; rfl, bq0⟩
 have G3 := (show Hid (_ = _) from g3)
 clear g3
 cases g4 : rgB t.old
 . have HF : Hid (tnB p t = false) := by simp [Hid, tnB, HA.out, g4]
   have G4 := (show Hid (_ = _) from g4)
   clear g4
   go_enter Try.func88, Try.ntmps88
   go_wp2_with fail
   go_quiet ((first | (go_at_call 45; with_reducible exact Calls.quiet_of_same (isPlace_b G1.out _)) | (go_at_call 39; with_reducible exact Calls.quiet_of_same (isUpTo_b G2.out _)) | (go_at_call 123; with_reducible refine Calls.quiet_of_same (regs_b G3.out _ (H3.out _ ?hb)); case hb => exact bq0) | (go_at_call 123; with_reducible refine Calls.quiet_of_same (regs_b G4.out _ (H8.out _ ?hb)); case hb => exact bq0)))
   go_wp2_with fail
   go_ret
   exact ⟨by rw [HF.out]; rfl, bq0⟩
 have G4 := (show Hid (_ = _) from g4)
 clear g4
 cases g5 : inB t.way 0 4
 . have HF : Hid (tnB p t = false) := by simp [Hid, tnB, HA.out, g5]
   have G5 := (show Hid (_ = _) from g5)
   clear g5
   go_enter Try.func88, Try.ntmps88
   go_wp2_with fail
   go_quiet ((first | (go_at_call 45; with_reducible exact Calls.quiet_of_same (isPlace_b G1.out _)) | (go_at_call 39; with_reducible exact Calls.quiet_of_same (isUpTo_b G2.out _)) | (go_at_call 123; with_reducible refine Calls.quiet_of_same (regs_b G3.out _ (H3.out _ ?hb)); case hb => exact bq0) | (go_at_call 123; with_reducible refine Calls.quiet_of_same (regs_b G4.out _ (H8.out _ ?hb)); case hb => exact bq0) | (go_at_call 39; with_reducible exact Calls.quiet_of_same (isUpTo_b G5.out _))))
   go_wp2_with fail
   go_ret
   exact ⟨by rw [HF.out]; rfl, bq0⟩
 have G5 := (show Hid (_ = _) from g5)
 clear g5
 have HF : Hid (tnB p t = inB t.stage 0 5) := by simp [Hid, tnB, HG1.out, HA.out, G2.out, G3.out, G4.out, G5.out]
 go_enter Try.func88, Try.ntmps88
 go_wp2_with fail
 go_quiet ((first | (go_at_call 45; with_reducible exact Calls.quiet_of_same (isPlace_b G1.out _)) | (go_at_call 39; with_reducible exact Calls.quiet_of_same (isUpTo_b G2.out _)) | (go_at_call 123; with_reducible refine Calls.quiet_of_same (regs_b G3.out _ (H3.out _ ?hb)); case hb => exact bq0) | (go_at_call 123; with_reducible refine Calls.quiet_of_same (regs_b G4.out _ (H8.out _ ?hb)); case hb => exact bq0) | (go_at_call 39; with_reducible exact Calls.quiet_of_same (isUpTo_b G5.out _)) | (go_at_call 39; with_reducible exact Calls.quiet_of_same (isUpTo_any _ _ _))))
 go_wp2_with fail
 go_ret
 exact ⟨by rw [HF.out]; rfl, bq0⟩
end Go.Proofs.Ytgbgjljflgbcaaa
