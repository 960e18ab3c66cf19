import Derived.Test.YtcdldgppjmpbpaaD21
namespace Go.Proofs.Ytcdldgppjmpbpaa
open Go.RowKit
set_option linter.unusedSimpArgs false
set_option linter.unusedVariables false

set_option maxRecDepth 100000 in
set_option maxHeartbeats 4000000 in
theorem more_reg9_true (W : World) (pq pn : Pr) (P G G2 m cb : Nat) (ab : Option Addr) (cvq bvq cvn bvn : Value) (HIq : Hid (IntsAt W cvq pq.cells)) (HBq : Hid (BodiesAt W bvq pq.bodies)) (HIn : Hid (IntsAt W cvn pn.cells)) (HBn : Hid (BodiesAt W bvn pn.bodies)) (HQ : Hid (okB pq = true)) (HN : Hid (okB pn = false)) (hm : (m : Int) < 4)
    (e1 : W.cell? ⟨P, 1, none⟩ = some (.slice ab m cb)) (g0 : W.cell? ⟨G, 0, none⟩ = some cvq) (g1 : W.cell? ⟨G, 1, none⟩ = some bvq) (k0 : W.cell? ⟨G2, 0, none⟩ = some cvn) (k1 : W.cell? ⟨G2, 1, none⟩ = some bvn) (hP : P < W.heap.size) (hG : G < W.heap.size) (hG2 : G2 < W.heap.size) (Q : Exit → Act → World → Prop) (u0 u1 u2 u4 u7 u8 u9 u10 u11 u12 u13 u14 u15 u16 u17 u18 u19 u20 u21 u22 u23 u24 u25 u26 u27 u28 u29 u30 u31 u32 u33 u34 u35 u36 u37 u38 u39 u40 u41 u42 u43 u44 u45 u46 u47 u48 u49 : Value)
    (hQ : Hid (∀ (v38 v39 v40 v41 v42 v43 v44 v45 v46 v47 v48 v49 : Value) (V : World), Below W.heap.size W V → Q .normal ⟨(u0 :: u1 :: .bool true :: .pointer (some ⟨P, 0, none⟩) :: u4 :: .pointer (some ⟨G, 0, none⟩) :: .pointer (some ⟨G2, 0, none⟩) :: u7 :: u8 :: u9 :: u10 :: u11 :: u12 :: u13 :: u14 :: u15 :: u16 :: u17 :: u18 :: u19 :: u20 :: u21 :: u22 :: u23 :: u24 :: u25 :: u26 :: u27 :: u28 :: u29 :: u30 :: u31 :: u32 :: u33 :: u34 :: u35 :: u36 :: u37 :: v38 :: v39 :: v40 :: v41 :: v42 :: v43 :: v44 :: v45 :: v46 :: v47 :: v48 :: v49 :: []).toArray, []⟩ V)) :
    Code.wp Try.prog (moreReg 9) Q ⟨(u0 :: u1 :: u2 :: .pointer (some ⟨P, 0, none⟩) :: u4 :: .pointer (some ⟨G, 0, none⟩) :: .pointer (some ⟨G2, 0, none⟩) :: u7 :: u8 :: u9 :: u10 :: u11 :: u12 :: u13 :: u14 :: u15 :: u16 :: u17 :: u18 :: u19 :: u20 :: u21 :: u22 :: u23 :: u24 :: u25 :: u26 :: u27 :: u28 :: u29 :: u30 :: u31 :: u32 :: u33 :: u34 :: u35 :: u36 :: u37 :: u38 :: u39 :: u40 :: u41 :: u42 :: u43 :: u44 :: u45 :: u46 :: u47 :: u48 :: u49 :: []).toArray, []⟩ W := by
  have HId : Hid (IntsAt W.drew cvq pq.cells ∧ BodiesAt W.drew bvq pq.bodies) := ⟨HIq.out.mono (Below.refl _ _).drew, HBq.out.mono (Below.refl _ _).drew⟩
  have HS0 : Hid (W.drew.cell? ⟨P, 1, none⟩ = some (.slice ab m cb) ∧ W.drew.cell? ⟨G, 0, none⟩ = some cvq ∧ W.drew.cell? ⟨G, 1, none⟩ = some bvq ∧ W.drew.cell? ⟨G2, 0, none⟩ = some cvn ∧ W.drew.cell? ⟨G2, 1, none⟩ = some bvn) := ⟨e1, g0, g1, k0, k1⟩
  conv => arg 2; whnf
  refine wp_region_noPanic ?_
  refine till_begin (S := fun w' => w'.cell? ⟨P, 1, none⟩ = some (.slice ab m cb) ∧ w'.cell? ⟨G, 0, none⟩ = some cvq ∧ w'.cell? ⟨G, 1, none⟩ = some bvq ∧ w'.cell? ⟨G2, 0, none⟩ = some cvn ∧ w'.cell? ⟨G2, 1, none⟩ = some bvn) (z := 12) (by kernel_rfl) ?_
  refine till_take (i := 0) (v := (.agg #[cvq, bvq])) rfl (by kernel_rfl) (fun _ _ _ h => h) (by rfl) ?_ HS0.out ?_
  · (intro w hSw; obtain ⟨s1, s2, s3, s4, s5⟩ := hSw; go_simp)
  (try simp only [Act.put, List.setIfInBounds_toArray, List.set_cons_zero, List.set_cons_succ])
  refine till_take (i := 2) (v := (.pointer (some ⟨P, 1, none⟩))) rfl (by kernel_rfl) (fun _ _ _ h => h) (by rfl) ?_ HS0.out ?_
  · (intro w hSw; obtain ⟨s1, s2, s3, s4, s5⟩ := hSw; go_simp)
  (try simp only [Act.put, List.setIfInBounds_toArray, List.set_cons_zero, List.set_cons_succ])
  refine till_take (i := 3) (v := (.slice ab m cb)) rfl (by kernel_rfl) (fun _ _ _ h => h) (by rfl) ?_ HS0.out ?_
  · (intro w hSw; obtain ⟨s1, s2, s3, s4, s5⟩ := hSw; go_simp)
  (try simp only [Act.put, List.setIfInBounds_toArray, List.set_cons_zero, List.set_cons_succ])
  refine till_take (i := 4) (v := (.int .i64 (m : Int))) rfl (by kernel_rfl) (fun _ _ _ h => h) (by rfl) ?_ HS0.out ?_
  · (intro w hSw; obtain ⟨s1, s2, s3, s4, s5⟩ := hSw; go_simp)
  (try simp only [Act.put, List.setIfInBounds_toArray, List.set_cons_zero, List.set_cons_succ])
  refine till_take (i := 5) (v := (.bool true)) rfl (by kernel_rfl) (fun _ _ _ h => h) (by rfl) ?_ HS0.out ?_
  · (intro w hSw; obtain ⟨s1, s2, s3, s4, s5⟩ := hSw; go_simp)
  (try simp only [Act.put, List.setIfInBounds_toArray, List.set_cons_zero, List.set_cons_succ])
  refine till_step (i := 1) rfl (by kernel_rfl) (fun K hK => ?_)
  go_simp
  go_at_call 12
  refine (progOk_any pq _ _ _ HId.out.1 HId.out.2).mono ?_
  rintro e w5 ⟨he, hbx⟩
  rw [HQ.out] at he
  subst he
  have H5 : Hid (Below W.heap.size W w5) := (Below.refl _ _).drew.trans hbx
  have HSw5 : Hid (w5.cell? ⟨P, 1, none⟩ = some (.slice ab m cb) ∧ w5.cell? ⟨G, 0, none⟩ = some cvq ∧ w5.cell? ⟨G, 1, none⟩ = some bvq ∧ w5.cell? ⟨G2, 0, none⟩ = some cvn ∧ w5.cell? ⟨G2, 1, none⟩ = some bvn) := ⟨(H5.out.cell (p := ⟨P, 1, none⟩) hP).trans e1, (H5.out.cell (p := ⟨G, 0, none⟩) hG).trans g0, (H5.out.cell (p := ⟨G, 1, none⟩) hG).trans g1, (H5.out.cell (p := ⟨G2, 0, none⟩) hG2).trans k0, (H5.out.cell (p := ⟨G2, 1, none⟩) hG2).trans k1⟩
  clear hbx
  refine hK.out _ _ (fun _ => HSw5.out) ?_
  (try simp only [Act.put, List.setIfInBounds_toArray, List.set_cons_zero, List.set_cons_succ])
  clear hK
  refine till_take (i := 6) (v := (.bool true)) rfl (by kernel_rfl) (fun _ _ _ h => h) (by rfl) ?_ HSw5.out ?_
  · (intro w hSw; obtain ⟨s1, s2, s3, s4, s5⟩ := hSw; go_simp)
  (try simp only [Act.put, List.setIfInBounds_toArray, List.set_cons_zero, List.set_cons_succ])
  refine till_take (i := 7) (v := (.bool true)) rfl (by kernel_rfl) (fun _ _ _ h => h) (by rfl) ?_ HSw5.out ?_
  · (intro w hSw; obtain ⟨s1, s2, s3, s4, s5⟩ := hSw; go_simp)
  (try simp only [Act.put, List.setIfInBounds_toArray, List.set_cons_zero, List.set_cons_succ])
  refine till_take (i := 8) (v := (.agg #[cvn, bvn])) rfl (by kernel_rfl) (fun _ _ _ h => h) (by rfl) ?_ HSw5.out ?_
  · (intro w hSw; obtain ⟨s1, s2, s3, s4, s5⟩ := hSw; go_simp)
  (try simp only [Act.put, List.setIfInBounds_toArray, List.set_cons_zero, List.set_cons_succ])
  refine till_step (i := 9) rfl (by kernel_rfl) (fun K hK => ?_)
  go_simp
  go_at_call 12
  refine (progOk_any pn _ _ _ (HIn.out.mono H5.out) (HBn.out.mono H5.out)).mono ?_
  rintro e w6 ⟨he, hbx⟩
  rw [HN.out] at he
  subst he
  have H6 : Hid (Below W.heap.size W w6) := H5.out.trans (hbx.mono H5.out.size)
  have HSw6 : Hid (w6.cell? ⟨P, 1, none⟩ = some (.slice ab m cb) ∧ w6.cell? ⟨G, 0, none⟩ = some cvq ∧ w6.cell? ⟨G, 1, none⟩ = some bvq ∧ w6.cell? ⟨G2, 0, none⟩ = some cvn ∧ w6.cell? ⟨G2, 1, none⟩ = some bvn) := ⟨(H6.out.cell (p := ⟨P, 1, none⟩) hP).trans e1, (H6.out.cell (p := ⟨G, 0, none⟩) hG).trans g0, (H6.out.cell (p := ⟨G, 1, none⟩) hG).trans g1, (H6.out.cell (p := ⟨G2, 0, none⟩) hG2).trans k0, (H6.out.cell (p := ⟨G2, 1, none⟩) hG2).trans k1⟩
  clear hbx
  refine hK.out _ _ (fun _ => HSw6.out) ?_
  (try simp only [Act.put, List.setIfInBounds_toArray, List.set_cons_zero, List.set_cons_succ])
  clear hK
  refine till_take (i := 10) (v := (.bool true)) rfl (by kernel_rfl) (fun _ _ _ h => h) (by rfl) ?_ HSw6.out ?_
  · (intro w hSw; obtain ⟨s1, s2, s3, s4, s5⟩ := hSw; go_simp)
  (try simp only [Act.put, List.setIfInBounds_toArray, List.set_cons_zero, List.set_cons_succ])
  refine till_take (i := 11) (v := (.bool true)) rfl (by kernel_rfl) (fun _ _ _ h => h) (by rfl) ?_ HSw6.out ?_
  · (intro w hSw; obtain ⟨s1, s2, s3, s4, s5⟩ := hSw; go_simp)
  (try simp only [Act.put, List.setIfInBounds_toArray, List.set_cons_zero, List.set_cons_succ])
  refine till_step (i := 12) rfl (by kernel_rfl) (fun K hK => ?_)
  go_simp
  refine hK.out _ _ (fun h => absurd rfl h) ?_
  clear hK
  refine till_done (by kernel_rfl) ?_ _
  exact hQ.out _ _ _ _ _ _ _ _ _ _ _ _ _ H6.out

set_option maxRecDepth 100000 in
set_option maxHeartbeats 4000000 in
theorem more_reg9_false (W : World) (pq pn : Pr) (P G G2 m cb : Nat) (ab : Option Addr) (cvq bvq cvn bvn : Value) (HIq : Hid (IntsAt W cvq pq.cells)) (HBq : Hid (BodiesAt W bvq pq.bodies)) (HIn : Hid (IntsAt W cvn pn.cells)) (HBn : Hid (BodiesAt W bvn pn.bodies)) (HQ : Hid (okB pq = false)) (HN : Hid (okB pn = false)) (hm : ¬ (m : Int) < 4)
    (e1 : W.cell? ⟨P, 1, none⟩ = some (.slice ab m cb)) (g0 : W.cell? ⟨G, 0, none⟩ = some cvq) (g1 : W.cell? ⟨G, 1, none⟩ = some bvq) (k0 : W.cell? ⟨G2, 0, none⟩ = some cvn) (k1 : W.cell? ⟨G2, 1, none⟩ = some bvn) (hP : P < W.heap.size) (hG : G < W.heap.size) (hG2 : G2 < W.heap.size) (Q : Exit → Act → World → Prop) (u0 u1 u2 u4 u7 u8 u9 u10 u11 u12 u13 u14 u15 u16 u17 u18 u19 u20 u21 u22 u23 u24 u25 u26 u27 u28 u29 u30 u31 u32 u33 u34 u35 u36 u37 u38 u39 u40 u41 u42 u43 u44 u45 u46 u47 u48 u49 : Value)
    (hQ : Hid (∀ (v38 v39 v40 v41 v42 v43 v44 v45 v46 v47 v48 v49 : Value) (V : World), Below W.heap.size W V → Q .normal ⟨(u0 :: u1 :: .bool true :: .pointer (some ⟨P, 0, none⟩) :: u4 :: .pointer (some ⟨G, 0, none⟩) :: .pointer (some ⟨G2, 0, none⟩) :: u7 :: u8 :: u9 :: u10 :: u11 :: u12 :: u13 :: u14 :: u15 :: u16 :: u17 :: u18 :: u19 :: u20 :: u21 :: u22 :: u23 :: u24 :: u25 :: u26 :: u27 :: u28 :: u29 :: u30 :: u31 :: u32 :: u33 :: u34 :: u35 :: u36 :: u37 :: v38 :: v39 :: v40 :: v41 :: v42 :: v43 :: v44 :: v45 :: v46 :: v47 :: v48 :: v49 :: []).toArray, []⟩ V)) :
    Code.wp Try.prog (moreReg 9) Q ⟨(u0 :: u1 :: u2 :: .pointer (some ⟨P, 0, none⟩) :: u4 :: .pointer (some ⟨G, 0, none⟩) :: .pointer (some ⟨G2, 0, none⟩) :: u7 :: u8 :: u9 :: u10 :: u11 :: u12 :: u13 :: u14 :: u15 :: u16 :: u17 :: u18 :: u19 :: u20 :: u21 :: u22 :: u23 :: u24 :: u25 :: u26 :: u27 :: u28 :: u29 :: u30 :: u31 :: u32 :: u33 :: u34 :: u35 :: u36 :: u37 :: u38 :: u39 :: u40 :: u41 :: u42 :: u43 :: u44 :: u45 :: u46 :: u47 :: u48 :: u49 :: []).toArray, []⟩ W := by
  have HId : Hid (IntsAt W.drew cvq pq.cells ∧ BodiesAt W.drew bvq pq.bodies) := ⟨HIq.out.mono (Below.refl _ _).drew, HBq.out.mono (Below.refl _ _).drew⟩
  have HS0 : Hid (W.drew.cell? ⟨P, 1, none⟩ = some (.slice ab m cb) ∧ W.drew.cell? ⟨G, 0, none⟩ = some cvq ∧ W.drew.cell? ⟨G, 1, none⟩ = some bvq ∧ W.drew.cell? ⟨G2, 0, none⟩ = some cvn ∧ W.drew.cell? ⟨G2, 1, none⟩ = some bvn) := ⟨e1, g0, g1, k0, k1⟩
  conv => arg 2; whnf
  refine wp_region_noPanic ?_
  refine till_begin (S := fun w' => w'.cell? ⟨P, 1, none⟩ = some (.slice ab m cb) ∧ w'.cell? ⟨G, 0, none⟩ = some cvq ∧ w'.cell? ⟨G, 1, none⟩ = some bvq ∧ w'.cell? ⟨G2, 0, none⟩ = some cvn ∧ w'.cell? ⟨G2, 1, none⟩ = some bvn) (z := 12) (by kernel_rfl) ?_
  refine till_take (i := 0) (v := (.agg #[cvq, bvq])) rfl (by kernel_rfl) (fun _ _ _ h => h) (by rfl) ?_ HS0.out ?_
  · (intro w hSw; obtain ⟨s1, s2, s3, s4, s5⟩ := hSw; go_simp)
  (try simp only [Act.put, List.setIfInBounds_toArray, List.set_cons_zero, List.set_cons_succ])
  refine till_take (i := 2) (v := (.pointer (some ⟨P, 1, none⟩))) rfl (by kernel_rfl) (fun _ _ _ h => h) (by rfl) ?_ HS0.out ?_
  · (intro w hSw; obtain ⟨s1, s2, s3, s4, s5⟩ := hSw; go_simp)
  (try simp only [Act.put, List.setIfInBounds_toArray, List.set_cons_zero, List.set_cons_succ])
  refine till_take (i := 3) (v := (.slice ab m cb)) rfl (by kernel_rfl) (fun _ _ _ h => h) (by rfl) ?_ HS0.out ?_
  · (intro w hSw; obtain ⟨s1, s2, s3, s4, s5⟩ := hSw; go_simp)
  (try simp only [Act.put, List.setIfInBounds_toArray, List.set_cons_zero, List.set_cons_succ])
  refine till_take (i := 4) (v := (.int .i64 (m : Int))) rfl (by kernel_rfl) (fun _ _ _ h => h) (by rfl) ?_ HS0.out ?_
  · (intro w hSw; obtain ⟨s1, s2, s3, s4, s5⟩ := hSw; go_simp)
  (try simp only [Act.put, List.setIfInBounds_toArray, List.set_cons_zero, List.set_cons_succ])
  refine till_take (i := 5) (v := (.bool false)) rfl (by kernel_rfl) (fun _ _ _ h => h) (by rfl) ?_ HS0.out ?_
  · (intro w hSw; obtain ⟨s1, s2, s3, s4, s5⟩ := hSw; go_simp)
  (try simp only [Act.put, List.setIfInBounds_toArray, List.set_cons_zero, List.set_cons_succ])
  refine till_step (i := 1) rfl (by kernel_rfl) (fun K hK => ?_)
  go_simp
  go_at_call 12
  refine (progOk_any pq _ _ _ HId.out.1 HId.out.2).mono ?_
  rintro e w5 ⟨he, hbx⟩
  rw [HQ.out] at he
  subst he
  have H5 : Hid (Below W.heap.size W w5) := (Below.refl _ _).drew.trans hbx
  have HSw5 : Hid (w5.cell? ⟨P, 1, none⟩ = some (.slice ab m cb) ∧ w5.cell? ⟨G, 0, none⟩ = some cvq ∧ w5.cell? ⟨G, 1, none⟩ = some bvq ∧ w5.cell? ⟨G2, 0, none⟩ = some cvn ∧ w5.cell? ⟨G2, 1, none⟩ = some bvn) := ⟨(H5.out.cell (p := ⟨P, 1, none⟩) hP).trans e1, (H5.out.cell (p := ⟨G, 0, none⟩) hG).trans g0, (H5.out.cell (p := ⟨G, 1, none⟩) hG).trans g1, (H5.out.cell (p := ⟨G2, 0, none⟩) hG2).trans k0, (H5.out.cell (p := ⟨G2, 1, none⟩) hG2).trans k1⟩
  clear hbx
  refine hK.out _ _ (fun _ => HSw5.out) ?_
  (try simp only [Act.put, List.setIfInBounds_toArray, List.set_cons_zero, List.set_cons_succ])
  clear hK
  refine till_take (i := 6) (v := (.bool true)) rfl (by kernel_rfl) (fun _ _ _ h => h) (by rfl) ?_ HSw5.out ?_
  · (intro w hSw; obtain ⟨s1, s2, s3, s4, s5⟩ := hSw; go_simp)
  (try simp only [Act.put, List.setIfInBounds_toArray, List.set_cons_zero, List.set_cons_succ])
  refine till_take (i := 7) (v := (.bool true)) rfl (by kernel_rfl) (fun _ _ _ h => h) (by rfl) ?_ HSw5.out ?_
  · (intro w hSw; obtain ⟨s1, s2, s3, s4, s5⟩ := hSw; go_simp)
  (try simp only [Act.put, List.setIfInBounds_toArray, List.set_cons_zero, List.set_cons_succ])
  refine till_take (i := 8) (v := (.agg #[cvn, bvn])) rfl (by kernel_rfl) (fun _ _ _ h => h) (by rfl) ?_ HSw5.out ?_
  · (intro w hSw; obtain ⟨s1, s2, s3, s4, s5⟩ := hSw; go_simp)
  (try simp only [Act.put, List.setIfInBounds_toArray, List.set_cons_zero, List.set_cons_succ])
  refine till_step (i := 9) rfl (by kernel_rfl) (fun K hK => ?_)
  go_simp
  go_at_call 12
  refine (progOk_any pn _ _ _ (HIn.out.mono H5.out) (HBn.out.mono H5.out)).mono ?_
  rintro e w6 ⟨he, hbx⟩
  rw [HN.out] at he
  subst he
  have H6 : Hid (Below W.heap.size W w6) := H5.out.trans (hbx.mono H5.out.size)
  have HSw6 : Hid (w6.cell? ⟨P, 1, none⟩ = some (.slice ab m cb) ∧ w6.cell? ⟨G, 0, none⟩ = some cvq ∧ w6.cell? ⟨G, 1, none⟩ = some bvq ∧ w6.cell? ⟨G2, 0, none⟩ = some cvn ∧ w6.cell? ⟨G2, 1, none⟩ = some bvn) := ⟨(H6.out.cell (p := ⟨P, 1, none⟩) hP).trans e1, (H6.out.cell (p := ⟨G, 0, none⟩) hG).trans g0, (H6.out.cell (p := ⟨G, 1, none⟩) hG).trans g1, (H6.out.cell (p := ⟨G2, 0, none⟩) hG2).trans k0, (H6.out.cell (p := ⟨G2, 1, none⟩) hG2).trans k1⟩
  clear hbx
  refine hK.out _ _ (fun _ => HSw6.out) ?_
  (try simp only [Act.put, List.setIfInBounds_toArray, List.set_cons_zero, List.set_cons_succ])
  clear hK
  refine till_take (i := 10) (v := (.bool true)) rfl (by kernel_rfl) (fun _ _ _ h => h) (by rfl) ?_ HSw6.out ?_
  · (intro w hSw; obtain ⟨s1, s2, s3, s4, s5⟩ := hSw; go_simp)
  (try simp only [Act.put, List.setIfInBounds_toArray, List.set_cons_zero, List.set_cons_succ])
  refine till_take (i := 11) (v := (.bool true)) rfl (by kernel_rfl) (fun _ _ _ h => h) (by rfl) ?_ HSw6.out ?_
  · (intro w hSw; obtain ⟨s1, s2, s3, s4, s5⟩ := hSw; go_simp)
  (try simp only [Act.put, List.setIfInBounds_toArray, List.set_cons_zero, List.set_cons_succ])
  refine till_step (i := 12) rfl (by kernel_rfl) (fun K hK => ?_)
  go_simp
  refine hK.out _ _ (fun h => absurd rfl h) ?_
  clear hK
  refine till_done (by kernel_rfl) ?_ _
  exact hQ.out _ _ _ _ _ _ _ _ _ _ _ _ _ H6.out

end Go.Proofs.Ytcdldgppjmpbpaa
