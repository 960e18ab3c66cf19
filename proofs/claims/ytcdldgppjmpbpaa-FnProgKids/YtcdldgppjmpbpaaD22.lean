import Derived.Test.YtcdldgppjmpbpaaD17
namespace Go.Proofs.Ytcdldgppjmpbpaa
open Go.RowKit
set_option linter.unusedSimpArgs false
set_option linter.unusedVariables false

noncomputable def kidsReg (k : Nat) : Code := ((Try.f5.body.bind (findReg k)).getD .skip)

set_option maxRecDepth 100000 in
set_option maxHeartbeats 4000000 in
theorem kids_reg17 (W : World) (pr : Pr) (P i j kid nk ck b4 off4 : Nat) (ac ab : Option Addr) (cc cb : Nat) (M M2 : Int) (HI : Hid (IntsAt W (.slice ac pr.cells.length cc) pr.cells)) (HB : Hid (BodiesAt W (.slice ab pr.bodies.length cb) pr.bodies)) (r0 : W.cell? ⟨P, 0, none⟩ = some (.slice ac pr.cells.length cc)) (r1 : W.cell? ⟨P, 1, none⟩ = some (.slice ab pr.bodies.length cb)) (x0 : W.cell? ⟨b4, off4 + j, none⟩ = some (.int .i64 (kid : Int))) (hP : P < W.heap.size) (hb4 : b4 < W.heap.size) (hjl : (j : Int) < (nk : Int))
    (hki : (i : Int) < (kid : Int)) (HTk : Hid (treeI pr (kid : Int) = M)) (HTi : Hid (treeI pr (i : Int) = M2)) (hM : M < M2) (Q : Exit → Act → World → Prop) (u0 u1 u2 u4 u6 u9 u10 u11 u12 u13 u14 u15 u16 u17 u18 u19 u20 u21 u22 u23 u24 u25 u26 u27 u28 u29 u30 u31 u32 u33 u34 u35 u36 u37 u38 u39 u40 u41 u42 u43 u44 u45 u46 u47 u48 u49 u50 u51 u52 u53 u54 u55 u56 u57 u58 u59 u60 u61 u62 u63 u64 u65 u66 u67 u68 u69 u70 u71 u72 u73 u74 u75 u76 u77 : Value)
    (hQ : Hid (∀ (v60 v61 v62 v63 v64 v65 v66 v67 v68 v69 v70 v71 v72 v73 v74 v75 v76 : Value) (V : World), Below W.heap.size W V → Q .normal ⟨(u0 :: u1 :: u2 :: .pointer (some ⟨P, 0, none⟩) :: u4 :: .int .i64 (i : Int) :: u6 :: .slice (some ⟨b4, off4, none⟩) nk ck :: .int .i64 (j : Int) :: u9 :: u10 :: u11 :: u12 :: u13 :: u14 :: u15 :: u16 :: u17 :: u18 :: u19 :: u20 :: u21 :: u22 :: u23 :: u24 :: u25 :: u26 :: u27 :: u28 :: u29 :: u30 :: u31 :: u32 :: u33 :: u34 :: u35 :: u36 :: u37 :: u38 :: u39 :: u40 :: u41 :: u42 :: u43 :: u44 :: u45 :: u46 :: u47 :: u48 :: u49 :: u50 :: u51 :: u52 :: u53 :: u54 :: u55 :: u56 :: u57 :: u58 :: u59 :: v60 :: v61 :: v62 :: v63 :: v64 :: v65 :: v66 :: v67 :: v68 :: v69 :: v70 :: v71 :: v72 :: v73 :: v74 :: v75 :: v76 :: .bool false :: []).toArray, []⟩ V)) :
    Code.wp Try.prog (kidsReg 17) Q ⟨(u0 :: u1 :: u2 :: .pointer (some ⟨P, 0, none⟩) :: u4 :: .int .i64 (i : Int) :: u6 :: .slice (some ⟨b4, off4, none⟩) nk ck :: .int .i64 (j : Int) :: u9 :: u10 :: u11 :: u12 :: u13 :: u14 :: u15 :: u16 :: u17 :: u18 :: u19 :: u20 :: u21 :: u22 :: u23 :: u24 :: u25 :: u26 :: u27 :: u28 :: u29 :: u30 :: u31 :: u32 :: u33 :: u34 :: u35 :: u36 :: u37 :: u38 :: u39 :: u40 :: u41 :: u42 :: u43 :: u44 :: u45 :: u46 :: u47 :: u48 :: u49 :: u50 :: u51 :: u52 :: u53 :: u54 :: u55 :: u56 :: u57 :: u58 :: u59 :: u60 :: u61 :: u62 :: u63 :: u64 :: u65 :: u66 :: u67 :: u68 :: u69 :: u70 :: u71 :: u72 :: u73 :: u74 :: u75 :: u76 :: u77 :: []).toArray, []⟩ W := by
  have hki' : ¬ (kid : Int) ≤ (i : Int) := by omega
  have hM' : ¬ M2 ≤ M := by omega
  have HId : Hid (IntsAt W.drew (.slice ac pr.cells.length cc) pr.cells ∧ BodiesAt W.drew (.slice ab pr.bodies.length cb) pr.bodies) := ⟨HI.out.mono (Below.refl _ _).drew, HB.out.mono (Below.refl _ _).drew⟩
  conv => arg 2; whnf
  refine wp_region_noPanic ?_
  refine till_begin (S := fun w' => w'.cell? ⟨P, 0, none⟩ = some (.slice ac pr.cells.length cc) ∧ w'.cell? ⟨P, 1, none⟩ = some (.slice ab pr.bodies.length cb) ∧ w'.cell? ⟨b4, off4 + j, none⟩ = some (.int .i64 (kid : Int))) (z := 17) (by kernel_rfl) ?_
  refine till_take (i := 0) (v := (.slice (some ⟨b4, off4, none⟩) nk ck)) rfl (by kernel_rfl) (fun _ _ _ h => h) (by kernel_rfl) ?_ ⟨r0, r1, x0⟩ ?_
  · (intro w hSw; obtain ⟨s1, s2, s3⟩ := hSw; go_simp)
  (try simp only [Act.put, List.setIfInBounds_toArray, List.set_cons_zero, List.set_cons_succ])
  refine till_take (i := 1) (v := (.int .i64 (j : Int))) rfl (by kernel_rfl) (fun _ _ _ h => h) (by kernel_rfl) ?_ ⟨r0, r1, x0⟩ ?_
  · (intro w hSw; obtain ⟨s1, s2, s3⟩ := hSw; go_simp)
  (try simp only [Act.put, List.setIfInBounds_toArray, List.set_cons_zero, List.set_cons_succ])
  refine till_take (i := 2) (v := (.pointer (some ⟨b4, off4 + j, none⟩))) rfl (by kernel_rfl) (fun _ _ _ h => h) (by kernel_rfl) ?_ ⟨r0, r1, x0⟩ ?_
  · (intro w hSw; obtain ⟨s1, s2, s3⟩ := hSw; go_simp)
  (try simp only [Act.put, List.setIfInBounds_toArray, List.set_cons_zero, List.set_cons_succ])
  refine till_take (i := 3) (v := (.int .i64 (kid : Int))) rfl (by kernel_rfl) (fun _ _ _ h => h) (by kernel_rfl) ?_ ⟨r0, r1, x0⟩ ?_
  · (intro w hSw; obtain ⟨s1, s2, s3⟩ := hSw; go_simp)
  (try simp only [Act.put, List.setIfInBounds_toArray, List.set_cons_zero, List.set_cons_succ])
  refine till_take (i := 4) (v := (.int .i64 (i : Int))) rfl (by kernel_rfl) (fun _ _ _ h => h) (by kernel_rfl) ?_ ⟨r0, r1, x0⟩ ?_
  · (intro w hSw; obtain ⟨s1, s2, s3⟩ := hSw; go_simp)
  (try simp only [Act.put, List.setIfInBounds_toArray, List.set_cons_zero, List.set_cons_succ])
  refine till_take (i := 5) (v := (.bool false)) rfl (by kernel_rfl) (fun _ _ _ h => h) (by kernel_rfl) ?_ ⟨r0, r1, x0⟩ ?_
  · (intro w hSw; obtain ⟨s1, s2, s3⟩ := hSw; go_simp)
  (try simp only [Act.put, List.setIfInBounds_toArray, List.set_cons_zero, List.set_cons_succ])
  refine till_take (i := 6) (v := (.bool false)) rfl (by kernel_rfl) (fun _ _ _ h => h) (by kernel_rfl) ?_ ⟨r0, r1, x0⟩ ?_
  · (intro w hSw; obtain ⟨s1, s2, s3⟩ := hSw; go_simp)
  (try simp only [Act.put, List.setIfInBounds_toArray, List.set_cons_zero, List.set_cons_succ])
  refine till_take (i := 7) (v := (.agg #[.slice ac pr.cells.length cc, .slice ab pr.bodies.length cb])) rfl (by kernel_rfl) (fun _ _ _ h => h) (by kernel_rfl) ?_ ⟨r0, r1, x0⟩ ?_
  · (intro w hSw; obtain ⟨s1, s2, s3⟩ := hSw; go_simp)
  (try simp only [Act.put, List.setIfInBounds_toArray, List.set_cons_zero, List.set_cons_succ])
  refine till_take (i := 8) (v := (.slice (some ⟨b4, off4, none⟩) nk ck)) rfl (by kernel_rfl) (fun _ _ _ h => h) (by kernel_rfl) ?_ ⟨r0, r1, x0⟩ ?_
  · (intro w hSw; obtain ⟨s1, s2, s3⟩ := hSw; go_simp)
  (try simp only [Act.put, List.setIfInBounds_toArray, List.set_cons_zero, List.set_cons_succ])
  refine till_take (i := 9) (v := (.int .i64 (j : Int))) rfl (by kernel_rfl) (fun _ _ _ h => h) (by kernel_rfl) ?_ ⟨r0, r1, x0⟩ ?_
  · (intro w hSw; obtain ⟨s1, s2, s3⟩ := hSw; go_simp)
  (try simp only [Act.put, List.setIfInBounds_toArray, List.set_cons_zero, List.set_cons_succ])
  refine till_take (i := 10) (v := (.pointer (some ⟨b4, off4 + j, none⟩))) rfl (by kernel_rfl) (fun _ _ _ h => h) (by kernel_rfl) ?_ ⟨r0, r1, x0⟩ ?_
  · (intro w hSw; obtain ⟨s1, s2, s3⟩ := hSw; go_simp)
  (try simp only [Act.put, List.setIfInBounds_toArray, List.set_cons_zero, List.set_cons_succ])
  refine till_take (i := 11) (v := (.int .i64 (kid : Int))) rfl (by kernel_rfl) (fun _ _ _ h => h) (by kernel_rfl) ?_ ⟨r0, r1, x0⟩ ?_
  · (intro w hSw; obtain ⟨s1, s2, s3⟩ := hSw; go_simp)
  (try simp only [Act.put, List.setIfInBounds_toArray, List.set_cons_zero, List.set_cons_succ])
  refine till_take (i := 13) (v := (.agg #[.slice ac pr.cells.length cc, .slice ab pr.bodies.length cb])) rfl (by kernel_rfl) (fun _ _ _ h => h) (by kernel_rfl) ?_ ⟨r0, r1, x0⟩ ?_
  · (intro w hSw; obtain ⟨s1, s2, s3⟩ := hSw; go_simp)
  (try simp only [Act.put, List.setIfInBounds_toArray, List.set_cons_zero, List.set_cons_succ])
  refine till_take (i := 14) (v := (.int .i64 (i : Int))) rfl (by kernel_rfl) (fun _ _ _ h => h) (by kernel_rfl) ?_ ⟨r0, r1, x0⟩ ?_
  · (intro w hSw; obtain ⟨s1, s2, s3⟩ := hSw; go_simp)
  (try simp only [Act.put, List.setIfInBounds_toArray, List.set_cons_zero, List.set_cons_succ])
  refine till_step (i := 12) rfl (by kernel_rfl) (fun K hK => ?_)
  go_simp
  go_at_call 9
  refine (progTree_any pr _ _ (kid : Int) _ HId.out.1 HId.out.2).mono ?_
  rintro e w5 ⟨he, hbx⟩
  rw [HTk.out] at he
  subst he
  have H5 : Hid (Below W.heap.size W w5) := (Below.refl _ _).drew.trans hbx
  have w50 : w5.cell? ⟨P, 0, none⟩ = some (.slice ac pr.cells.length cc) := (H5.out.cell (p := ⟨P, 0, none⟩) hP).trans r0
  have w51 : w5.cell? ⟨P, 1, none⟩ = some (.slice ab pr.bodies.length cb) := (H5.out.cell (p := ⟨P, 1, none⟩) hP).trans r1
  have w52 : w5.cell? ⟨b4, off4 + j, none⟩ = some (.int .i64 (kid : Int)) := (H5.out.cell (p := ⟨b4, _, none⟩) hb4).trans x0
  clear hbx
  refine hK.out _ _ (fun _ => ⟨w50, w51, w52⟩) ?_
  (try simp only [Act.put, List.setIfInBounds_toArray, List.set_cons_zero, List.set_cons_succ])
  clear hK
  refine till_step (i := 15) rfl (by kernel_rfl) (fun K hK => ?_)
  go_simp
  go_at_call 9
  refine (progTree_any pr _ _ (i : Int) _ (HI.out.mono H5.out) (HB.out.mono H5.out)).mono ?_
  rintro e w6 ⟨he, hbx⟩
  rw [HTi.out] at he
  subst he
  have H6 : Hid (Below W.heap.size W w6) := H5.out.trans (hbx.mono H5.out.size)
  have w60 : w6.cell? ⟨P, 0, none⟩ = some (.slice ac pr.cells.length cc) := (H6.out.cell (p := ⟨P, 0, none⟩) hP).trans r0
  have w61 : w6.cell? ⟨P, 1, none⟩ = some (.slice ab pr.bodies.length cb) := (H6.out.cell (p := ⟨P, 1, none⟩) hP).trans r1
  have w62 : w6.cell? ⟨b4, off4 + j, none⟩ = some (.int .i64 (kid : Int)) := (H6.out.cell (p := ⟨b4, _, none⟩) hb4).trans x0
  clear hbx
  refine hK.out _ _ (fun _ => ⟨w60, w61, w62⟩) ?_
  (try simp only [Act.put, List.setIfInBounds_toArray, List.set_cons_zero, List.set_cons_succ])
  clear hK
  refine till_take (i := 16) (v := (.bool false)) rfl (by kernel_rfl) (fun _ _ _ h => h) (by kernel_rfl) ?_ ⟨w60, w61, w62⟩ ?_
  · (intro w hSw; obtain ⟨s1, s2, s3⟩ := hSw; go_simp)
  (try simp only [Act.put, List.setIfInBounds_toArray, List.set_cons_zero, List.set_cons_succ])
  refine till_step (i := 17) rfl (by kernel_rfl) (fun K hK => ?_)
  go_simp
  refine hK.out _ _ (fun h => absurd rfl h) ?_
  clear hK
  refine till_done (by kernel_rfl) ?_ _
  exact hQ.out _ _ _ _ _ _ _ _ _ _ _ _ _ _ _ _ _ _ H6.out

end Go.Proofs.Ytcdldgppjmpbpaa
