import Derived.Test.YtnbgonmdjgapnaaBase23
namespace Go.Proofs.Ytnbgonmdjgapnaa
open Go.RowKit
set_option linter.unusedSimpArgs false
set_option linter.unusedVariables false
noncomputable def copyReg (k : Nat) : Code := ((Try.f131.body.bind (regAt k)).getD .skip)
set_option maxRecDepth 100000 in
set_option maxHeartbeats 8000000 in
theorem copy_reg1 (V : World) (Y : Nat) (aa : Option Addr) (ca : Nat) (cs : List Ce) (k : Int) (HS0 : Hid (Y < V.heap.size ∧ V.cell? ⟨Y, 0, none⟩ = some (.slice aa cs.length ca) ∧ V.cell? ⟨Y, 2, none⟩ = some (.int .i64 k))) (HSR : Hid (cs.length = 0 ∨ ∃ b off, aa = some ⟨b, off, none⟩ ∧ b < V.heap.size ∧ ∀ j u, (cs.flatMap ceC)[j]? = some u → V.cell? ((⟨b, off, none⟩ : Addr).add j) = some u)) (HL : Hid ((cs.flatMap ceC).length = cs.length * 3 ∧ ∀ u, u ∈ cs.flatMap ceC → u.oneCell' = true)) (hn : cs.length ≤ 1048576) (Q : Exit → Act → World → Prop) (u0 u2 u3 u4 u5 u6 u7 u8 u9 u10 u11 u12 u13 u14 u15 u16 u17 u18 u19 u20 u21 u22 u23 u24 u25 u26 u27 u28 u29 u30 u31 u32 u33 u34 u35 u36 u37 u38 u39 u40 u41 u42 u43 u44 u45 u46 u47 u48 u49 u50 u51 u52 u53 u54 u55 u56 u57 u58 u59 u60 u61 u62 u63 u64 u65 u66 u67 u68 u69 u70 u71 u72 u73 u74 u75 u76 u77 u78 u79 : Value)
    (hQ : Hid (∀ (v8 v9 v10 v11 v12 v13 v14 v15 v16 : Value) (W : World) (X : Nat), CB X V.heap.size W ⟨cs, [], k, []⟩ → Below V.heap.size V W → Q .normal ⟨(u0 :: .pointer (some ⟨Y, 0, none⟩) :: u2 :: .pointer (some ⟨X, 0, none⟩) :: u4 :: u5 :: u6 :: u7 :: v8 :: v9 :: v10 :: v11 :: v12 :: v13 :: v14 :: v15 :: v16 :: u17 :: u18 :: u19 :: u20 :: u21 :: u22 :: u23 :: u24 :: u25 :: u26 :: u27 :: u28 :: u29 :: u30 :: u31 :: u32 :: u33 :: u34 :: u35 :: u36 :: u37 :: u38 :: u39 :: u40 :: u41 :: u42 :: u43 :: u44 :: u45 :: u46 :: u47 :: u48 :: u49 :: u50 :: u51 :: u52 :: u53 :: u54 :: u55 :: u56 :: u57 :: u58 :: u59 :: u60 :: u61 :: u62 :: u63 :: u64 :: u65 :: u66 :: u67 :: u68 :: u69 :: u70 :: u71 :: u72 :: u73 :: u74 :: u75 :: u76 :: u77 :: u78 :: u79 :: []).toArray, []⟩ W)) :
    Code.wp Try.prog (copyReg 1) Q ⟨(u0 :: .pointer (some ⟨Y, 0, none⟩) :: u2 :: u3 :: u4 :: u5 :: u6 :: u7 :: u8 :: u9 :: u10 :: u11 :: u12 :: u13 :: u14 :: u15 :: u16 :: u17 :: u18 :: u19 :: u20 :: u21 :: u22 :: u23 :: u24 :: u25 :: u26 :: u27 :: u28 :: u29 :: u30 :: u31 :: u32 :: u33 :: u34 :: u35 :: u36 :: u37 :: u38 :: u39 :: u40 :: u41 :: u42 :: u43 :: u44 :: u45 :: u46 :: u47 :: u48 :: u49 :: u50 :: u51 :: u52 :: u53 :: u54 :: u55 :: u56 :: u57 :: u58 :: u59 :: u60 :: u61 :: u62 :: u63 :: u64 :: u65 :: u66 :: u67 :: u68 :: u69 :: u70 :: u71 :: u72 :: u73 :: u74 :: u75 :: u76 :: u77 :: u78 :: u79 :: []).toArray, []⟩ V := by
  obtain ⟨i0, hi0, hz0, hz1, hz2⟩ := info_parts (P := Try.prog) (e := 44) (z := .agg #[.int .i64 0, .int .i64 0, .int .i64 0]) (size := 3) (bytes := 24) (by kernel_rfl)
  conv => arg 2; whnf
  refine wp_region_noPanic ?_
  have HM : Hid (Mc cs.length (cs.flatMap ceC) V V.drew none none none none none) := Mc.start _ _ V
  refine till_begin (S := fun w' => w'.cell? ⟨Y, 0, none⟩ = some (.slice aa cs.length ca) ∧ w'.cell? ⟨Y, 2, none⟩ = some (.int .i64 k)) (z := 10) (by kernel_rfl) ?_
  generalize V.drew = W0 at HM ⊢
  refine till_take (i := 1) (v := (.pointer (some ⟨Y, 0, none⟩))) rfl (by kernel_rfl) (fun _ _ _ h => h) (by rfl) ?_ (HM.out.S HS0.out) ?_
  · (intro w hSw; obtain ⟨s0, s1⟩ := hSw; go_simp)
  (try simp only [Act.put, List.setIfInBounds_toArray, List.set_cons_zero, List.set_cons_succ])
  refine till_take (i := 2) (v := (.slice aa cs.length ca)) rfl (by kernel_rfl) (fun _ _ _ h => h) (by rfl) ?_ (HM.out.S HS0.out) ?_
  · (intro w hSw; obtain ⟨s0, s1⟩ := hSw; go_simp)
  (try simp only [Act.put, List.setIfInBounds_toArray, List.set_cons_zero, List.set_cons_succ])
  refine till_take (i := 5) (v := (.pointer (some ⟨Y, 2, none⟩))) rfl (by kernel_rfl) (fun _ _ _ h => h) (by rfl) ?_ (HM.out.S HS0.out) ?_
  · (intro w hSw; obtain ⟨s0, s1⟩ := hSw; go_simp)
  (try simp only [Act.put, List.setIfInBounds_toArray, List.set_cons_zero, List.set_cons_succ])
  refine till_take (i := 6) (v := (.int .i64 k)) rfl (by kernel_rfl) (fun _ _ _ h => h) (by rfl) ?_ (HM.out.S HS0.out) ?_
  · (intro w hSw; obtain ⟨s0, s1⟩ := hSw; go_simp)
  (try simp only [Act.put, List.setIfInBounds_toArray, List.set_cons_zero, List.set_cons_succ])
  refine till_four (i := 0) (j := 4) (m := 7) (n := 9) rfl rfl rfl rfl (by kernel_rfl) (fun K hK => ?b1) (fun K hK => ?b2) (fun K hK => ?b3) (fun K hK => ?b4)
  case' b1 =>
   go_simp
   replace HM := (show Hid (Mc _ _ _ _ _ _ _ _ _) from HM.out.mk0)
   refine hK.out _ _ (fun _ => HM.out.S HS0.out) ?_
   (try simp only [Act.put, List.setIfInBounds_toArray, List.set_cons_zero, List.set_cons_succ])
   clear hK
   generalize W0.alloc (.cells #[] 44) = W1 at HM ⊢
   generalize W0.heap.size = g0 at HM ⊢
   refine till_four (i := 3) (j := 4) (m := 7) (n := 9) rfl rfl rfl rfl (by kernel_rfl) (fun K hK => ?b5) (fun K hK => ?b6) (fun K hK => ?b7) (fun K hK => ?b8)
   case' b5 =>
    refine step_append_src (by rfl) _ _ 28 (by rfl) V.heap.size 44 i0 (.agg #[.int .i64 0, .int .i64 0, .int .i64 0]) 3 24 Try.underlying28 hi0 hz0 hz1 hz2 rfl (by decide) _ 0 [] (by rfl) (HM.out.p0 _ rfl) aa cs.length ca (cs.flatMap ceC) (by rfl) HL.out.1 (HM.out.src HSR.out) HL.out.2 (by unfold maxLen; omega) (by omega) HM.out.bel.size ?_
    intro v3 W2 hown hgrow
    replace HM := (show Hid (Mc _ _ _ _ _ _ _ _ _) from HM.out.app3 hown hgrow)
    clear hown hgrow
    obtain ⟨a3, k3, hv3, _⟩ := own_shape (HM.out.p3 _ rfl)
    subst hv3
    refine hK.out _ _ (fun _ => HM.out.S HS0.out) ?_
    (try simp only [Act.put, List.setIfInBounds_toArray, List.set_cons_zero, List.set_cons_succ])
    clear hK
    refine till_three (i := 4) (j := 7) (m := 9) rfl rfl rfl (by kernel_rfl) (fun K hK => ?b9) (fun K hK => ?b10) (fun K hK => ?b11)
    case' b9 =>
     go_simp
     replace HM := (show Hid (Mc _ _ _ _ _ _ _ _ _) from HM.out.mk4)
     refine hK.out _ _ (fun _ => HM.out.S HS0.out) ?_
     (try simp only [Act.put, List.setIfInBounds_toArray, List.set_cons_zero, List.set_cons_succ])
     clear hK
     generalize W2.alloc (.cells #[] 64) = W3 at HM ⊢
     generalize W2.heap.size = g4 at HM ⊢
     refine till_two (i := 7) (j := 9) rfl rfl (by kernel_rfl) (fun K hK => ?b12) (fun K hK => ?b13)
     case' b12 =>
      go_simp
      replace HM := (show Hid (Mc _ _ _ _ _ _ _ _ _) from HM.out.mk7)
      refine hK.out _ _ (fun _ => HM.out.S HS0.out) ?_
      (try simp only [Act.put, List.setIfInBounds_toArray, List.set_cons_zero, List.set_cons_succ])
      clear hK
      generalize W3.alloc (.cells #[] 56) = W4 at HM ⊢
      generalize W3.heap.size = g7 at HM ⊢
      refine till_take (i := 8) (v := (.agg #[.slice a3 cs.length k3, .slice (some ⟨g4, 0, none⟩) 0 0, .int .i64 k, .slice (some ⟨g7, 0, none⟩) 0 0])) rfl (by kernel_rfl) (fun _ _ _ h => h) (by rfl) ?_ (HM.out.S HS0.out) ?_
      · (intro w hSw; obtain ⟨s0, s1⟩ := hSw; go_simp)
      (try simp only [Act.put, List.setIfInBounds_toArray, List.set_cons_zero, List.set_cons_succ])
      refine till_step (i := 9) rfl (by kernel_rfl) (fun K hK => ?_)
      go_simp
      replace HM := (show Hid (Mc _ _ _ _ _ _ _ _ _) from HM.out.mk9)
      refine hK.out _ _ (fun _ => HM.out.S HS0.out) ?_
      (try simp only [Act.put, List.setIfInBounds_toArray, List.set_cons_zero, List.set_cons_succ])
      clear hK
      generalize W4.alloc (.cells #[.slice none 0 0, .slice none 0 0, .int .i64 0, .slice none 0 0] 32) = W5 at HM ⊢
      generalize W4.heap.size = g9 at HM ⊢
     case' b13 =>
      go_simp
      replace HM := (show Hid (Mc _ _ _ _ _ _ _ _ _) from HM.out.mk9)
      refine hK.out _ _ (fun _ => HM.out.S HS0.out) ?_
      (try simp only [Act.put, List.setIfInBounds_toArray, List.set_cons_zero, List.set_cons_succ])
      clear hK
      generalize W3.alloc (.cells #[.slice none 0 0, .slice none 0 0, .int .i64 0, .slice none 0 0] 32) = W4 at HM ⊢
      generalize W3.heap.size = g9 at HM ⊢
      refine till_step (i := 7) rfl (by kernel_rfl) (fun K hK => ?_)
      go_simp
      replace HM := (show Hid (Mc _ _ _ _ _ _ _ _ _) from HM.out.mk7)
      refine hK.out _ _ (fun _ => HM.out.S HS0.out) ?_
      (try simp only [Act.put, List.setIfInBounds_toArray, List.set_cons_zero, List.set_cons_succ])
      clear hK
      generalize W4.alloc (.cells #[] 56) = W5 at HM ⊢
      generalize W4.heap.size = g7 at HM ⊢
      refine till_take (i := 8) (v := (.agg #[.slice a3 cs.length k3, .slice (some ⟨g4, 0, none⟩) 0 0, .int .i64 k, .slice (some ⟨g7, 0, none⟩) 0 0])) rfl (by kernel_rfl) (fun _ _ _ h => h) (by rfl) ?_ (HM.out.S HS0.out) ?_
      · (intro w hSw; obtain ⟨s0, s1⟩ := hSw; go_simp)
      (try simp only [Act.put, List.setIfInBounds_toArray, List.set_cons_zero, List.set_cons_succ])
    case' b10 =>
     go_simp
     replace HM := (show Hid (Mc _ _ _ _ _ _ _ _ _) from HM.out.mk7)
     refine hK.out _ _ (fun _ => HM.out.S HS0.out) ?_
     (try simp only [Act.put, List.setIfInBounds_toArray, List.set_cons_zero, List.set_cons_succ])
     clear hK
     generalize W2.alloc (.cells #[] 56) = W3 at HM ⊢
     generalize W2.heap.size = g7 at HM ⊢
     refine till_two (i := 4) (j := 9) rfl rfl (by kernel_rfl) (fun K hK => ?b16) (fun K hK => ?b17)
     case' b16 =>
      go_simp
      replace HM := (show Hid (Mc _ _ _ _ _ _ _ _ _) from HM.out.mk4)
      refine hK.out _ _ (fun _ => HM.out.S HS0.out) ?_
      (try simp only [Act.put, List.setIfInBounds_toArray, List.set_cons_zero, List.set_cons_succ])
      clear hK
      generalize W3.alloc (.cells #[] 64) = W4 at HM ⊢
      generalize W3.heap.size = g4 at HM ⊢
      refine till_take (i := 8) (v := (.agg #[.slice a3 cs.length k3, .slice (some ⟨g4, 0, none⟩) 0 0, .int .i64 k, .slice (some ⟨g7, 0, none⟩) 0 0])) rfl (by kernel_rfl) (fun _ _ _ h => h) (by rfl) ?_ (HM.out.S HS0.out) ?_
      · (intro w hSw; obtain ⟨s0, s1⟩ := hSw; go_simp)
      (try simp only [Act.put, List.setIfInBounds_toArray, List.set_cons_zero, List.set_cons_succ])
      refine till_step (i := 9) rfl (by kernel_rfl) (fun K hK => ?_)
      go_simp
      replace HM := (show Hid (Mc _ _ _ _ _ _ _ _ _) from HM.out.mk9)
      refine hK.out _ _ (fun _ => HM.out.S HS0.out) ?_
      (try simp only [Act.put, List.setIfInBounds_toArray, List.set_cons_zero, List.set_cons_succ])
      clear hK
      generalize W4.alloc (.cells #[.slice none 0 0, .slice none 0 0, .int .i64 0, .slice none 0 0] 32) = W5 at HM ⊢
      generalize W4.heap.size = g9 at HM ⊢
     case' b17 =>
      go_simp
      replace HM := (show Hid (Mc _ _ _ _ _ _ _ _ _) from HM.out.mk9)
      refine hK.out _ _ (fun _ => HM.out.S HS0.out) ?_
      (try simp only [Act.put, List.setIfInBounds_toArray, List.set_cons_zero, List.set_cons_succ])
      clear hK
      generalize W3.alloc (.cells #[.slice none 0 0, .slice none 0 0, .int .i64 0, .slice none 0 0] 32) = W4 at HM ⊢
      generalize W3.heap.size = g9 at HM ⊢
      refine till_step (i := 4) rfl (by kernel_rfl) (fun K hK => ?_)
      go_simp
      replace HM := (show Hid (Mc _ _ _ _ _ _ _ _ _) from HM.out.mk4)
      refine hK.out _ _ (fun _ => HM.out.S HS0.out) ?_
      (try simp only [Act.put, List.setIfInBounds_toArray, List.set_cons_zero, List.set_cons_succ])
      clear hK
      generalize W4.alloc (.cells #[] 64) = W5 at HM ⊢
      generalize W4.heap.size = g4 at HM ⊢
      refine till_take (i := 8) (v := (.agg #[.slice a3 cs.length k3, .slice (some ⟨g4, 0, none⟩) 0 0, .int .i64 k, .slice (some ⟨g7, 0, none⟩) 0 0])) rfl (by kernel_rfl) (fun _ _ _ h => h) (by rfl) ?_ (HM.out.S HS0.out) ?_
      · (intro w hSw; obtain ⟨s0, s1⟩ := hSw; go_simp)
      (try simp only [Act.put, List.setIfInBounds_toArray, List.set_cons_zero, List.set_cons_succ])
    case' b11 =>
     go_simp
     replace HM := (show Hid (Mc _ _ _ _ _ _ _ _ _) from HM.out.mk9)
     refine hK.out _ _ (fun _ => HM.out.S HS0.out) ?_
     (try simp only [Act.put, List.setIfInBounds_toArray, List.set_cons_zero, List.set_cons_succ])
     clear hK
     generalize W2.alloc (.cells #[.slice none 0 0, .slice none 0 0, .int .i64 0, .slice none 0 0] 32) = W3 at HM ⊢
     generalize W2.heap.size = g9 at HM ⊢
     refine till_two (i := 4) (j := 7) rfl rfl (by kernel_rfl) (fun K hK => ?b20) (fun K hK => ?b21)
     case' b20 =>
      go_simp
      replace HM := (show Hid (Mc _ _ _ _ _ _ _ _ _) from HM.out.mk4)
      refine hK.out _ _ (fun _ => HM.out.S HS0.out) ?_
      (try simp only [Act.put, List.setIfInBounds_toArray, List.set_cons_zero, List.set_cons_succ])
      clear hK
      generalize W3.alloc (.cells #[] 64) = W4 at HM ⊢
      generalize W3.heap.size = g4 at HM ⊢
      refine till_step (i := 7) rfl (by kernel_rfl) (fun K hK => ?_)
      go_simp
      replace HM := (show Hid (Mc _ _ _ _ _ _ _ _ _) from HM.out.mk7)
      refine hK.out _ _ (fun _ => HM.out.S HS0.out) ?_
      (try simp only [Act.put, List.setIfInBounds_toArray, List.set_cons_zero, List.set_cons_succ])
      clear hK
      generalize W4.alloc (.cells #[] 56) = W5 at HM ⊢
      generalize W4.heap.size = g7 at HM ⊢
      refine till_take (i := 8) (v := (.agg #[.slice a3 cs.length k3, .slice (some ⟨g4, 0, none⟩) 0 0, .int .i64 k, .slice (some ⟨g7, 0, none⟩) 0 0])) rfl (by kernel_rfl) (fun _ _ _ h => h) (by rfl) ?_ (HM.out.S HS0.out) ?_
      · (intro w hSw; obtain ⟨s0, s1⟩ := hSw; go_simp)
      (try simp only [Act.put, List.setIfInBounds_toArray, List.set_cons_zero, List.set_cons_succ])
     case' b21 =>
      go_simp
      replace HM := (show Hid (Mc _ _ _ _ _ _ _ _ _) from HM.out.mk7)
      refine hK.out _ _ (fun _ => HM.out.S HS0.out) ?_
      (try simp only [Act.put, List.setIfInBounds_toArray, List.set_cons_zero, List.set_cons_succ])
      clear hK
      generalize W3.alloc (.cells #[] 56) = W4 at HM ⊢
      generalize W3.heap.size = g7 at HM ⊢
      refine till_step (i := 4) rfl (by kernel_rfl) (fun K hK => ?_)
      go_simp
      replace HM := (show Hid (Mc _ _ _ _ _ _ _ _ _) from HM.out.mk4)
      refine hK.out _ _ (fun _ => HM.out.S HS0.out) ?_
      (try simp only [Act.put, List.setIfInBounds_toArray, List.set_cons_zero, List.set_cons_succ])
      clear hK
      generalize W4.alloc (.cells #[] 64) = W5 at HM ⊢
      generalize W4.heap.size = g4 at HM ⊢
      refine till_take (i := 8) (v := (.agg #[.slice a3 cs.length k3, .slice (some ⟨g4, 0, none⟩) 0 0, .int .i64 k, .slice (some ⟨g7, 0, none⟩) 0 0])) rfl (by kernel_rfl) (fun _ _ _ h => h) (by rfl) ?_ (HM.out.S HS0.out) ?_
      · (intro w hSw; obtain ⟨s0, s1⟩ := hSw; go_simp)
      (try simp only [Act.put, List.setIfInBounds_toArray, List.set_cons_zero, List.set_cons_succ])
   case' b6 =>
    go_simp
    replace HM := (show Hid (Mc _ _ _ _ _ _ _ _ _) from HM.out.mk4)
    refine hK.out _ _ (fun _ => HM.out.S HS0.out) ?_
    (try simp only [Act.put, List.setIfInBounds_toArray, List.set_cons_zero, List.set_cons_succ])
    clear hK
    generalize W1.alloc (.cells #[] 64) = W2 at HM ⊢
    generalize W1.heap.size = g4 at HM ⊢
    refine till_three (i := 3) (j := 7) (m := 9) rfl rfl rfl (by kernel_rfl) (fun K hK => ?b24) (fun K hK => ?b25) (fun K hK => ?b26)
    case' b24 =>
     refine step_append_src (by rfl) _ _ 28 (by rfl) V.heap.size 44 i0 (.agg #[.int .i64 0, .int .i64 0, .int .i64 0]) 3 24 Try.underlying28 hi0 hz0 hz1 hz2 rfl (by decide) _ 0 [] (by rfl) (HM.out.p0 _ rfl) aa cs.length ca (cs.flatMap ceC) (by rfl) HL.out.1 (HM.out.src HSR.out) HL.out.2 (by unfold maxLen; omega) (by omega) HM.out.bel.size ?_
     intro v3 W3 hown hgrow
     replace HM := (show Hid (Mc _ _ _ _ _ _ _ _ _) from HM.out.app3 hown hgrow)
     clear hown hgrow
     obtain ⟨a3, k3, hv3, _⟩ := own_shape (HM.out.p3 _ rfl)
     subst hv3
     refine hK.out _ _ (fun _ => HM.out.S HS0.out) ?_
     (try simp only [Act.put, List.setIfInBounds_toArray, List.set_cons_zero, List.set_cons_succ])
     clear hK
     refine till_two (i := 7) (j := 9) rfl rfl (by kernel_rfl) (fun K hK => ?b27) (fun K hK => ?b28)
     case' b27 =>
      go_simp
      replace HM := (show Hid (Mc _ _ _ _ _ _ _ _ _) from HM.out.mk7)
      refine hK.out _ _ (fun _ => HM.out.S HS0.out) ?_
      (try simp only [Act.put, List.setIfInBounds_toArray, List.set_cons_zero, List.set_cons_succ])
      clear hK
      generalize W3.alloc (.cells #[] 56) = W4 at HM ⊢
      generalize W3.heap.size = g7 at HM ⊢
      refine till_take (i := 8) (v := (.agg #[.slice a3 cs.length k3, .slice (some ⟨g4, 0, none⟩) 0 0, .int .i64 k, .slice (some ⟨g7, 0, none⟩) 0 0])) rfl (by kernel_rfl) (fun _ _ _ h => h) (by rfl) ?_ (HM.out.S HS0.out) ?_
      · (intro w hSw; obtain ⟨s0, s1⟩ := hSw; go_simp)
      (try simp only [Act.put, List.setIfInBounds_toArray, List.set_cons_zero, List.set_cons_succ])
      refine till_step (i := 9) rfl (by kernel_rfl) (fun K hK => ?_)
      go_simp
      replace HM := (show Hid (Mc _ _ _ _ _ _ _ _ _) from HM.out.mk9)
      refine hK.out _ _ (fun _ => HM.out.S HS0.out) ?_
      (try simp only [Act.put, List.setIfInBounds_toArray, List.set_cons_zero, List.set_cons_succ])
      clear hK
      generalize W4.alloc (.cells #[.slice none 0 0, .slice none 0 0, .int .i64 0, .slice none 0 0] 32) = W5 at HM ⊢
      generalize W4.heap.size = g9 at HM ⊢
     case' b28 =>
      go_simp
      replace HM := (show Hid (Mc _ _ _ _ _ _ _ _ _) from HM.out.mk9)
      refine hK.out _ _ (fun _ => HM.out.S HS0.out) ?_
      (try simp only [Act.put, List.setIfInBounds_toArray, List.set_cons_zero, List.set_cons_succ])
      clear hK
      generalize W3.alloc (.cells #[.slice none 0 0, .slice none 0 0, .int .i64 0, .slice none 0 0] 32) = W4 at HM ⊢
      generalize W3.heap.size = g9 at HM ⊢
      refine till_step (i := 7) rfl (by kernel_rfl) (fun K hK => ?_)
      go_simp
      replace HM := (show Hid (Mc _ _ _ _ _ _ _ _ _) from HM.out.mk7)
      refine hK.out _ _ (fun _ => HM.out.S HS0.out) ?_
      (try simp only [Act.put, List.setIfInBounds_toArray, List.set_cons_zero, List.set_cons_succ])
      clear hK
      generalize W4.alloc (.cells #[] 56) = W5 at HM ⊢
      generalize W4.heap.size = g7 at HM ⊢
      refine till_take (i := 8) (v := (.agg #[.slice a3 cs.length k3, .slice (some ⟨g4, 0, none⟩) 0 0, .int .i64 k, .slice (some ⟨g7, 0, none⟩) 0 0])) rfl (by kernel_rfl) (fun _ _ _ h => h) (by rfl) ?_ (HM.out.S HS0.out) ?_
      · (intro w hSw; obtain ⟨s0, s1⟩ := hSw; go_simp)
      (try simp only [Act.put, List.setIfInBounds_toArray, List.set_cons_zero, List.set_cons_succ])
    case' b25 =>
     go_simp
     replace HM := (show Hid (Mc _ _ _ _ _ _ _ _ _) from HM.out.mk7)
     refine hK.out _ _ (fun _ => HM.out.S HS0.out) ?_
     (try simp only [Act.put, List.setIfInBounds_toArray, List.set_cons_zero, List.set_cons_succ])
     clear hK
     generalize W2.alloc (.cells #[] 56) = W3 at HM ⊢
     generalize W2.heap.size = g7 at HM ⊢
     refine till_two (i := 3) (j := 9) rfl rfl (by kernel_rfl) (fun K hK => ?b31) (fun K hK => ?b32)
     case' b31 =>
      refine step_append_src (by rfl) _ _ 28 (by rfl) V.heap.size 44 i0 (.agg #[.int .i64 0, .int .i64 0, .int .i64 0]) 3 24 Try.underlying28 hi0 hz0 hz1 hz2 rfl (by decide) _ 0 [] (by rfl) (HM.out.p0 _ rfl) aa cs.length ca (cs.flatMap ceC) (by rfl) HL.out.1 (HM.out.src HSR.out) HL.out.2 (by unfold maxLen; omega) (by omega) HM.out.bel.size ?_
      intro v3 W4 hown hgrow
      replace HM := (show Hid (Mc _ _ _ _ _ _ _ _ _) from HM.out.app3 hown hgrow)
      clear hown hgrow
      obtain ⟨a3, k3, hv3, _⟩ := own_shape (HM.out.p3 _ rfl)
      subst hv3
      refine hK.out _ _ (fun _ => HM.out.S HS0.out) ?_
      (try simp only [Act.put, List.setIfInBounds_toArray, List.set_cons_zero, List.set_cons_succ])
      clear hK
      refine till_take (i := 8) (v := (.agg #[.slice a3 cs.length k3, .slice (some ⟨g4, 0, none⟩) 0 0, .int .i64 k, .slice (some ⟨g7, 0, none⟩) 0 0])) rfl (by kernel_rfl) (fun _ _ _ h => h) (by rfl) ?_ (HM.out.S HS0.out) ?_
      · (intro w hSw; obtain ⟨s0, s1⟩ := hSw; go_simp)
      (try simp only [Act.put, List.setIfInBounds_toArray, List.set_cons_zero, List.set_cons_succ])
      refine till_step (i := 9) rfl (by kernel_rfl) (fun K hK => ?_)
      go_simp
      replace HM := (show Hid (Mc _ _ _ _ _ _ _ _ _) from HM.out.mk9)
      refine hK.out _ _ (fun _ => HM.out.S HS0.out) ?_
      (try simp only [Act.put, List.setIfInBounds_toArray, List.set_cons_zero, List.set_cons_succ])
      clear hK
      generalize W4.alloc (.cells #[.slice none 0 0, .slice none 0 0, .int .i64 0, .slice none 0 0] 32) = W5 at HM ⊢
      generalize W4.heap.size = g9 at HM ⊢
     case' b32 =>
      go_simp
      replace HM := (show Hid (Mc _ _ _ _ _ _ _ _ _) from HM.out.mk9)
      refine hK.out _ _ (fun _ => HM.out.S HS0.out) ?_
      (try simp only [Act.put, List.setIfInBounds_toArray, List.set_cons_zero, List.set_cons_succ])
      clear hK
      generalize W3.alloc (.cells #[.slice none 0 0, .slice none 0 0, .int .i64 0, .slice none 0 0] 32) = W4 at HM ⊢
      generalize W3.heap.size = g9 at HM ⊢
      refine till_step (i := 3) rfl (by kernel_rfl) (fun K hK => ?_)
      refine step_append_src (by rfl) _ _ 28 (by rfl) V.heap.size 44 i0 (.agg #[.int .i64 0, .int .i64 0, .int .i64 0]) 3 24 Try.underlying28 hi0 hz0 hz1 hz2 rfl (by decide) _ 0 [] (by rfl) (HM.out.p0 _ rfl) aa cs.length ca (cs.flatMap ceC) (by rfl) HL.out.1 (HM.out.src HSR.out) HL.out.2 (by unfold maxLen; omega) (by omega) HM.out.bel.size ?_
      intro v3 W5 hown hgrow
      replace HM := (show Hid (Mc _ _ _ _ _ _ _ _ _) from HM.out.app3 hown hgrow)
      clear hown hgrow
      obtain ⟨a3, k3, hv3, _⟩ := own_shape (HM.out.p3 _ rfl)
      subst hv3
      refine hK.out _ _ (fun _ => HM.out.S HS0.out) ?_
      (try simp only [Act.put, List.setIfInBounds_toArray, List.set_cons_zero, List.set_cons_succ])
      clear hK
      refine till_take (i := 8) (v := (.agg #[.slice a3 cs.length k3, .slice (some ⟨g4, 0, none⟩) 0 0, .int .i64 k, .slice (some ⟨g7, 0, none⟩) 0 0])) rfl (by kernel_rfl) (fun _ _ _ h => h) (by rfl) ?_ (HM.out.S HS0.out) ?_
      · (intro w hSw; obtain ⟨s0, s1⟩ := hSw; go_simp)
      (try simp only [Act.put, List.setIfInBounds_toArray, List.set_cons_zero, List.set_cons_succ])
    case' b26 =>
     go_simp
     replace HM := (show Hid (Mc _ _ _ _ _ _ _ _ _) from HM.out.mk9)
     refine hK.out _ _ (fun _ => HM.out.S HS0.out) ?_
     (try simp only [Act.put, List.setIfInBounds_toArray, List.set_cons_zero, List.set_cons_succ])
     clear hK
     generalize W2.alloc (.cells #[.slice none 0 0, .slice none 0 0, .int .i64 0, .slice none 0 0] 32) = W3 at HM ⊢
     generalize W2.heap.size = g9 at HM ⊢
     refine till_two (i := 3) (j := 7) rfl rfl (by kernel_rfl) (fun K hK => ?b35) (fun K hK => ?b36)
     case' b35 =>
      refine step_append_src (by rfl) _ _ 28 (by rfl) V.heap.size 44 i0 (.agg #[.int .i64 0, .int .i64 0, .int .i64 0]) 3 24 Try.underlying28 hi0 hz0 hz1 hz2 rfl (by decide) _ 0 [] (by rfl) (HM.out.p0 _ rfl) aa cs.length ca (cs.flatMap ceC) (by rfl) HL.out.1 (HM.out.src HSR.out) HL.out.2 (by unfold maxLen; omega) (by omega) HM.out.bel.size ?_
      intro v3 W4 hown hgrow
      replace HM := (show Hid (Mc _ _ _ _ _ _ _ _ _) from HM.out.app3 hown hgrow)
      clear hown hgrow
      obtain ⟨a3, k3, hv3, _⟩ := own_shape (HM.out.p3 _ rfl)
      subst hv3
      refine hK.out _ _ (fun _ => HM.out.S HS0.out) ?_
      (try simp only [Act.put, List.setIfInBounds_toArray, List.set_cons_zero, List.set_cons_succ])
      clear hK
      refine till_step (i := 7) rfl (by kernel_rfl) (fun K hK => ?_)
      go_simp
      replace HM := (show Hid (Mc _ _ _ _ _ _ _ _ _) from HM.out.mk7)
      refine hK.out _ _ (fun _ => HM.out.S HS0.out) ?_
      (try simp only [Act.put, List.setIfInBounds_toArray, List.set_cons_zero, List.set_cons_succ])
      clear hK
      generalize W4.alloc (.cells #[] 56) = W5 at HM ⊢
      generalize W4.heap.size = g7 at HM ⊢
      refine till_take (i := 8) (v := (.agg #[.slice a3 cs.length k3, .slice (some ⟨g4, 0, none⟩) 0 0, .int .i64 k, .slice (some ⟨g7, 0, none⟩) 0 0])) rfl (by kernel_rfl) (fun _ _ _ h => h) (by rfl) ?_ (HM.out.S HS0.out) ?_
      · (intro w hSw; obtain ⟨s0, s1⟩ := hSw; go_simp)
      (try simp only [Act.put, List.setIfInBounds_toArray, List.set_cons_zero, List.set_cons_succ])
     case' b36 =>
      go_simp
      replace HM := (show Hid (Mc _ _ _ _ _ _ _ _ _) from HM.out.mk7)
      refine hK.out _ _ (fun _ => HM.out.S HS0.out) ?_
      (try simp only [Act.put, List.setIfInBounds_toArray, List.set_cons_zero, List.set_cons_succ])
      clear hK
      generalize W3.alloc (.cells #[] 56) = W4 at HM ⊢
      generalize W3.heap.size = g7 at HM ⊢
      refine till_step (i := 3) rfl (by kernel_rfl) (fun K hK => ?_)
      refine step_append_src (by rfl) _ _ 28 (by rfl) V.heap.size 44 i0 (.agg #[.int .i64 0, .int .i64 0, .int .i64 0]) 3 24 Try.underlying28 hi0 hz0 hz1 hz2 rfl (by decide) _ 0 [] (by rfl) (HM.out.p0 _ rfl) aa cs.length ca (cs.flatMap ceC) (by rfl) HL.out.1 (HM.out.src HSR.out) HL.out.2 (by unfold maxLen; omega) (by omega) HM.out.bel.size ?_
      intro v3 W5 hown hgrow
      replace HM := (show Hid (Mc _ _ _ _ _ _ _ _ _) from HM.out.app3 hown hgrow)
      clear hown hgrow
      obtain ⟨a3, k3, hv3, _⟩ := own_shape (HM.out.p3 _ rfl)
      subst hv3
      refine hK.out _ _ (fun _ => HM.out.S HS0.out) ?_
      (try simp only [Act.put, List.setIfInBounds_toArray, List.set_cons_zero, List.set_cons_succ])
      clear hK
      refine till_take (i := 8) (v := (.agg #[.slice a3 cs.length k3, .slice (some ⟨g4, 0, none⟩) 0 0, .int .i64 k, .slice (some ⟨g7, 0, none⟩) 0 0])) rfl (by kernel_rfl) (fun _ _ _ h => h) (by rfl) ?_ (HM.out.S HS0.out) ?_
      · (intro w hSw; obtain ⟨s0, s1⟩ := hSw; go_simp)
      (try simp only [Act.put, List.setIfInBounds_toArray, List.set_cons_zero, List.set_cons_succ])
   case' b7 =>
    go_simp
    replace HM := (show Hid (Mc _ _ _ _ _ _ _ _ _) from HM.out.mk7)
    refine hK.out _ _ (fun _ => HM.out.S HS0.out) ?_
    (try simp only [Act.put, List.setIfInBounds_toArray, List.set_cons_zero, List.set_cons_succ])
    clear hK
    generalize W1.alloc (.cells #[] 56) = W2 at HM ⊢
    generalize W1.heap.size = g7 at HM ⊢
    refine till_three (i := 3) (j := 4) (m := 9) rfl rfl rfl (by kernel_rfl) (fun K hK => ?b39) (fun K hK => ?b40) (fun K hK => ?b41)
    case' b39 =>
     refine step_append_src (by rfl) _ _ 28 (by rfl) V.heap.size 44 i0 (.agg #[.int .i64 0, .int .i64 0, .int .i64 0]) 3 24 Try.underlying28 hi0 hz0 hz1 hz2 rfl (by decide) _ 0 [] (by rfl) (HM.out.p0 _ rfl) aa cs.length ca (cs.flatMap ceC) (by rfl) HL.out.1 (HM.out.src HSR.out) HL.out.2 (by unfold maxLen; omega) (by omega) HM.out.bel.size ?_
     intro v3 W3 hown hgrow
     replace HM := (show Hid (Mc _ _ _ _ _ _ _ _ _) from HM.out.app3 hown hgrow)
     clear hown hgrow
     obtain ⟨a3, k3, hv3, _⟩ := own_shape (HM.out.p3 _ rfl)
     subst hv3
     refine hK.out _ _ (fun _ => HM.out.S HS0.out) ?_
     (try simp only [Act.put, List.setIfInBounds_toArray, List.set_cons_zero, List.set_cons_succ])
     clear hK
     refine till_two (i := 4) (j := 9) rfl rfl (by kernel_rfl) (fun K hK => ?b42) (fun K hK => ?b43)
     case' b42 =>
      go_simp
      replace HM := (show Hid (Mc _ _ _ _ _ _ _ _ _) from HM.out.mk4)
      refine hK.out _ _ (fun _ => HM.out.S HS0.out) ?_
      (try simp only [Act.put, List.setIfInBounds_toArray, List.set_cons_zero, List.set_cons_succ])
      clear hK
      generalize W3.alloc (.cells #[] 64) = W4 at HM ⊢
      generalize W3.heap.size = g4 at HM ⊢
      refine till_take (i := 8) (v := (.agg #[.slice a3 cs.length k3, .slice (some ⟨g4, 0, none⟩) 0 0, .int .i64 k, .slice (some ⟨g7, 0, none⟩) 0 0])) rfl (by kernel_rfl) (fun _ _ _ h => h) (by rfl) ?_ (HM.out.S HS0.out) ?_
      · (intro w hSw; obtain ⟨s0, s1⟩ := hSw; go_simp)
      (try simp only [Act.put, List.setIfInBounds_toArray, List.set_cons_zero, List.set_cons_succ])
      refine till_step (i := 9) rfl (by kernel_rfl) (fun K hK => ?_)
      go_simp
      replace HM := (show Hid (Mc _ _ _ _ _ _ _ _ _) from HM.out.mk9)
      refine hK.out _ _ (fun _ => HM.out.S HS0.out) ?_
      (try simp only [Act.put, List.setIfInBounds_toArray, List.set_cons_zero, List.set_cons_succ])
      clear hK
      generalize W4.alloc (.cells #[.slice none 0 0, .slice none 0 0, .int .i64 0, .slice none 0 0] 32) = W5 at HM ⊢
      generalize W4.heap.size = g9 at HM ⊢
     case' b43 =>
      go_simp
      replace HM := (show Hid (Mc _ _ _ _ _ _ _ _ _) from HM.out.mk9)
      refine hK.out _ _ (fun _ => HM.out.S HS0.out) ?_
      (try simp only [Act.put, List.setIfInBounds_toArray, List.set_cons_zero, List.set_cons_succ])
      clear hK
      generalize W3.alloc (.cells #[.slice none 0 0, .slice none 0 0, .int .i64 0, .slice none 0 0] 32) = W4 at HM ⊢
      generalize W3.heap.size = g9 at HM ⊢
      refine till_step (i := 4) rfl (by kernel_rfl) (fun K hK => ?_)
      go_simp
      replace HM := (show Hid (Mc _ _ _ _ _ _ _ _ _) from HM.out.mk4)
      refine hK.out _ _ (fun _ => HM.out.S HS0.out) ?_
      (try simp only [Act.put, List.setIfInBounds_toArray, List.set_cons_zero, List.set_cons_succ])
      clear hK
      generalize W4.alloc (.cells #[] 64) = W5 at HM ⊢
      generalize W4.heap.size = g4 at HM ⊢
      refine till_take (i := 8) (v := (.agg #[.slice a3 cs.length k3, .slice (some ⟨g4, 0, none⟩) 0 0, .int .i64 k, .slice (some ⟨g7, 0, none⟩) 0 0])) rfl (by kernel_rfl) (fun _ _ _ h => h) (by rfl) ?_ (HM.out.S HS0.out) ?_
      · (intro w hSw; obtain ⟨s0, s1⟩ := hSw; go_simp)
      (try simp only [Act.put, List.setIfInBounds_toArray, List.set_cons_zero, List.set_cons_succ])
    case' b40 =>
     go_simp
     replace HM := (show Hid (Mc _ _ _ _ _ _ _ _ _) from HM.out.mk4)
     refine hK.out _ _ (fun _ => HM.out.S HS0.out) ?_
     (try simp only [Act.put, List.setIfInBounds_toArray, List.set_cons_zero, List.set_cons_succ])
     clear hK
     generalize W2.alloc (.cells #[] 64) = W3 at HM ⊢
     generalize W2.heap.size = g4 at HM ⊢
     refine till_two (i := 3) (j := 9) rfl rfl (by kernel_rfl) (fun K hK => ?b46) (fun K hK => ?b47)
     case' b46 =>
      refine step_append_src (by rfl) _ _ 28 (by rfl) V.heap.size 44 i0 (.agg #[.int .i64 0, .int .i64 0, .int .i64 0]) 3 24 Try.underlying28 hi0 hz0 hz1 hz2 rfl (by decide) _ 0 [] (by rfl) (HM.out.p0 _ rfl) aa cs.length ca (cs.flatMap ceC) (by rfl) HL.out.1 (HM.out.src HSR.out) HL.out.2 (by unfold maxLen; omega) (by omega) HM.out.bel.size ?_
      intro v3 W4 hown hgrow
      replace HM := (show Hid (Mc _ _ _ _ _ _ _ _ _) from HM.out.app3 hown hgrow)
      clear hown hgrow
      obtain ⟨a3, k3, hv3, _⟩ := own_shape (HM.out.p3 _ rfl)
      subst hv3
      refine hK.out _ _ (fun _ => HM.out.S HS0.out) ?_
      (try simp only [Act.put, List.setIfInBounds_toArray, List.set_cons_zero, List.set_cons_succ])
      clear hK
      refine till_take (i := 8) (v := (.agg #[.slice a3 cs.length k3, .slice (some ⟨g4, 0, none⟩) 0 0, .int .i64 k, .slice (some ⟨g7, 0, none⟩) 0 0])) rfl (by kernel_rfl) (fun _ _ _ h => h) (by rfl) ?_ (HM.out.S HS0.out) ?_
      · (intro w hSw; obtain ⟨s0, s1⟩ := hSw; go_simp)
      (try simp only [Act.put, List.setIfInBounds_toArray, List.set_cons_zero, List.set_cons_succ])
      refine till_step (i := 9) rfl (by kernel_rfl) (fun K hK => ?_)
      go_simp
      replace HM := (show Hid (Mc _ _ _ _ _ _ _ _ _) from HM.out.mk9)
      refine hK.out _ _ (fun _ => HM.out.S HS0.out) ?_
      (try simp only [Act.put, List.setIfInBounds_toArray, List.set_cons_zero, List.set_cons_succ])
      clear hK
      generalize W4.alloc (.cells #[.slice none 0 0, .slice none 0 0, .int .i64 0, .slice none 0 0] 32) = W5 at HM ⊢
      generalize W4.heap.size = g9 at HM ⊢
     case' b47 =>
      go_simp
      replace HM := (show Hid (Mc _ _ _ _ _ _ _ _ _) from HM.out.mk9)
      refine hK.out _ _ (fun _ => HM.out.S HS0.out) ?_
      (try simp only [Act.put, List.setIfInBounds_toArray, List.set_cons_zero, List.set_cons_succ])
      clear hK
      generalize W3.alloc (.cells #[.slice none 0 0, .slice none 0 0, .int .i64 0, .slice none 0 0] 32) = W4 at HM ⊢
      generalize W3.heap.size = g9 at HM ⊢
      refine till_step (i := 3) rfl (by kernel_rfl) (fun K hK => ?_)
      refine step_append_src (by rfl) _ _ 28 (by rfl) V.heap.size 44 i0 (.agg #[.int .i64 0, .int .i64 0, .int .i64 0]) 3 24 Try.underlying28 hi0 hz0 hz1 hz2 rfl (by decide) _ 0 [] (by rfl) (HM.out.p0 _ rfl) aa cs.length ca (cs.flatMap ceC) (by rfl) HL.out.1 (HM.out.src HSR.out) HL.out.2 (by unfold maxLen; omega) (by omega) HM.out.bel.size ?_
      intro v3 W5 hown hgrow
      replace HM := (show Hid (Mc _ _ _ _ _ _ _ _ _) from HM.out.app3 hown hgrow)
      clear hown hgrow
      obtain ⟨a3, k3, hv3, _⟩ := own_shape (HM.out.p3 _ rfl)
      subst hv3
      refine hK.out _ _ (fun _ => HM.out.S HS0.out) ?_
      (try simp only [Act.put, List.setIfInBounds_toArray, List.set_cons_zero, List.set_cons_succ])
      clear hK
      refine till_take (i := 8) (v := (.agg #[.slice a3 cs.length k3, .slice (some ⟨g4, 0, none⟩) 0 0, .int .i64 k, .slice (some ⟨g7, 0, none⟩) 0 0])) rfl (by kernel_rfl) (fun _ _ _ h => h) (by rfl) ?_ (HM.out.S HS0.out) ?_
      · (intro w hSw; obtain ⟨s0, s1⟩ := hSw; go_simp)
      (try simp only [Act.put, List.setIfInBounds_toArray, List.set_cons_zero, List.set_cons_succ])
    case' b41 =>
     go_simp
     replace HM := (show Hid (Mc _ _ _ _ _ _ _ _ _) from HM.out.mk9)
     refine hK.out _ _ (fun _ => HM.out.S HS0.out) ?_
     (try simp only [Act.put, List.setIfInBounds_toArray, List.set_cons_zero, List.set_cons_succ])
     clear hK
     generalize W2.alloc (.cells #[.slice none 0 0, .slice none 0 0, .int .i64 0, .slice none 0 0] 32) = W3 at HM ⊢
     generalize W2.heap.size = g9 at HM ⊢
     refine till_two (i := 3) (j := 4) rfl rfl (by kernel_rfl) (fun K hK => ?b50) (fun K hK => ?b51)
     case' b50 =>
      refine step_append_src (by rfl) _ _ 28 (by rfl) V.heap.size 44 i0 (.agg #[.int .i64 0, .int .i64 0, .int .i64 0]) 3 24 Try.underlying28 hi0 hz0 hz1 hz2 rfl (by decide) _ 0 [] (by rfl) (HM.out.p0 _ rfl) aa cs.length ca (cs.flatMap ceC) (by rfl) HL.out.1 (HM.out.src HSR.out) HL.out.2 (by unfold maxLen; omega) (by omega) HM.out.bel.size ?_
      intro v3 W4 hown hgrow
      replace HM := (show Hid (Mc _ _ _ _ _ _ _ _ _) from HM.out.app3 hown hgrow)
      clear hown hgrow
      obtain ⟨a3, k3, hv3, _⟩ := own_shape (HM.out.p3 _ rfl)
      subst hv3
      refine hK.out _ _ (fun _ => HM.out.S HS0.out) ?_
      (try simp only [Act.put, List.setIfInBounds_toArray, List.set_cons_zero, List.set_cons_succ])
      clear hK
      refine till_step (i := 4) rfl (by kernel_rfl) (fun K hK => ?_)
      go_simp
      replace HM := (show Hid (Mc _ _ _ _ _ _ _ _ _) from HM.out.mk4)
      refine hK.out _ _ (fun _ => HM.out.S HS0.out) ?_
      (try simp only [Act.put, List.setIfInBounds_toArray, List.set_cons_zero, List.set_cons_succ])
      clear hK
      generalize W4.alloc (.cells #[] 64) = W5 at HM ⊢
      generalize W4.heap.size = g4 at HM ⊢
      refine till_take (i := 8) (v := (.agg #[.slice a3 cs.length k3, .slice (some ⟨g4, 0, none⟩) 0 0, .int .i64 k, .slice (some ⟨g7, 0, none⟩) 0 0])) rfl (by kernel_rfl) (fun _ _ _ h => h) (by rfl) ?_ (HM.out.S HS0.out) ?_
      · (intro w hSw; obtain ⟨s0, s1⟩ := hSw; go_simp)
      (try simp only [Act.put, List.setIfInBounds_toArray, List.set_cons_zero, List.set_cons_succ])
     case' b51 =>
      go_simp
      replace HM := (show Hid (Mc _ _ _ _ _ _ _ _ _) from HM.out.mk4)
      refine hK.out _ _ (fun _ => HM.out.S HS0.out) ?_
      (try simp only [Act.put, List.setIfInBounds_toArray, List.set_cons_zero, List.set_cons_succ])
      clear hK
      generalize W3.alloc (.cells #[] 64) = W4 at HM ⊢
      generalize W3.heap.size = g4 at HM ⊢
      refine till_step (i := 3) rfl (by kernel_rfl) (fun K hK => ?_)
      refine step_append_src (by rfl) _ _ 28 (by rfl) V.heap.size 44 i0 (.agg #[.int .i64 0, .int .i64 0, .int .i64 0]) 3 24 Try.underlying28 hi0 hz0 hz1 hz2 rfl (by decide) _ 0 [] (by rfl) (HM.out.p0 _ rfl) aa cs.length ca (cs.flatMap ceC) (by rfl) HL.out.1 (HM.out.src HSR.out) HL.out.2 (by unfold maxLen; omega) (by omega) HM.out.bel.size ?_
      intro v3 W5 hown hgrow
      replace HM := (show Hid (Mc _ _ _ _ _ _ _ _ _) from HM.out.app3 hown hgrow)
      clear hown hgrow
      obtain ⟨a3, k3, hv3, _⟩ := own_shape (HM.out.p3 _ rfl)
      subst hv3
      refine hK.out _ _ (fun _ => HM.out.S HS0.out) ?_
      (try simp only [Act.put, List.setIfInBounds_toArray, List.set_cons_zero, List.set_cons_succ])
      clear hK
      refine till_take (i := 8) (v := (.agg #[.slice a3 cs.length k3, .slice (some ⟨g4, 0, none⟩) 0 0, .int .i64 k, .slice (some ⟨g7, 0, none⟩) 0 0])) rfl (by kernel_rfl) (fun _ _ _ h => h) (by rfl) ?_ (HM.out.S HS0.out) ?_
      · (intro w hSw; obtain ⟨s0, s1⟩ := hSw; go_simp)
      (try simp only [Act.put, List.setIfInBounds_toArray, List.set_cons_zero, List.set_cons_succ])
   case' b8 =>
    go_simp
    replace HM := (show Hid (Mc _ _ _ _ _ _ _ _ _) from HM.out.mk9)
    refine hK.out _ _ (fun _ => HM.out.S HS0.out) ?_
    (try simp only [Act.put, List.setIfInBounds_toArray, List.set_cons_zero, List.set_cons_succ])
    clear hK
    generalize W1.alloc (.cells #[.slice none 0 0, .slice none 0 0, .int .i64 0, .slice none 0 0] 32) = W2 at HM ⊢
    generalize W1.heap.size = g9 at HM ⊢
    refine till_three (i := 3) (j := 4) (m := 7) rfl rfl rfl (by kernel_rfl) (fun K hK => ?b54) (fun K hK => ?b55) (fun K hK => ?b56)
    case' b54 =>
     refine step_append_src (by rfl) _ _ 28 (by rfl) V.heap.size 44 i0 (.agg #[.int .i64 0, .int .i64 0, .int .i64 0]) 3 24 Try.underlying28 hi0 hz0 hz1 hz2 rfl (by decide) _ 0 [] (by rfl) (HM.out.p0 _ rfl) aa cs.length ca (cs.flatMap ceC) (by rfl) HL.out.1 (HM.out.src HSR.out) HL.out.2 (by unfold maxLen; omega) (by omega) HM.out.bel.size ?_
     intro v3 W3 hown hgrow
     replace HM := (show Hid (Mc _ _ _ _ _ _ _ _ _) from HM.out.app3 hown hgrow)
     clear hown hgrow
     obtain ⟨a3, k3, hv3, _⟩ := own_shape (HM.out.p3 _ rfl)
     subst hv3
     refine hK.out _ _ (fun _ => HM.out.S HS0.out) ?_
     (try simp only [Act.put, List.setIfInBounds_toArray, List.set_cons_zero, List.set_cons_succ])
     clear hK
     refine till_two (i := 4) (j := 7) rfl rfl (by kernel_rfl) (fun K hK => ?b57) (fun K hK => ?b58)
     case' b57 =>
      go_simp
      replace HM := (show Hid (Mc _ _ _ _ _ _ _ _ _) from HM.out.mk4)
      refine hK.out _ _ (fun _ => HM.out.S HS0.out) ?_
      (try simp only [Act.put, List.setIfInBounds_toArray, List.set_cons_zero, List.set_cons_succ])
      clear hK
      generalize W3.alloc (.cells #[] 64) = W4 at HM ⊢
      generalize W3.heap.size = g4 at HM ⊢
      refine till_step (i := 7) rfl (by kernel_rfl) (fun K hK => ?_)
      go_simp
      replace HM := (show Hid (Mc _ _ _ _ _ _ _ _ _) from HM.out.mk7)
      refine hK.out _ _ (fun _ => HM.out.S HS0.out) ?_
      (try simp only [Act.put, List.setIfInBounds_toArray, List.set_cons_zero, List.set_cons_succ])
      clear hK
      generalize W4.alloc (.cells #[] 56) = W5 at HM ⊢
      generalize W4.heap.size = g7 at HM ⊢
      refine till_take (i := 8) (v := (.agg #[.slice a3 cs.length k3, .slice (some ⟨g4, 0, none⟩) 0 0, .int .i64 k, .slice (some ⟨g7, 0, none⟩) 0 0])) rfl (by kernel_rfl) (fun _ _ _ h => h) (by rfl) ?_ (HM.out.S HS0.out) ?_
      · (intro w hSw; obtain ⟨s0, s1⟩ := hSw; go_simp)
      (try simp only [Act.put, List.setIfInBounds_toArray, List.set_cons_zero, List.set_cons_succ])
     case' b58 =>
      go_simp
      replace HM := (show Hid (Mc _ _ _ _ _ _ _ _ _) from HM.out.mk7)
      refine hK.out _ _ (fun _ => HM.out.S HS0.out) ?_
      (try simp only [Act.put, List.setIfInBounds_toArray, List.set_cons_zero, List.set_cons_succ])
      clear hK
      generalize W3.alloc (.cells #[] 56) = W4 at HM ⊢
      generalize W3.heap.size = g7 at HM ⊢
      refine till_step (i := 4) rfl (by kernel_rfl) (fun K hK => ?_)
      go_simp
      replace HM := (show Hid (Mc _ _ _ _ _ _ _ _ _) from HM.out.mk4)
      refine hK.out _ _ (fun _ => HM.out.S HS0.out) ?_
      (try simp only [Act.put, List.setIfInBounds_toArray, List.set_cons_zero, List.set_cons_succ])
      clear hK
      generalize W4.alloc (.cells #[] 64) = W5 at HM ⊢
      generalize W4.heap.size = g4 at HM ⊢
      refine till_take (i := 8) (v := (.agg #[.slice a3 cs.length k3, .slice (some ⟨g4, 0, none⟩) 0 0, .int .i64 k, .slice (some ⟨g7, 0, none⟩) 0 0])) rfl (by kernel_rfl) (fun _ _ _ h => h) (by rfl) ?_ (HM.out.S HS0.out) ?_
      · (intro w hSw; obtain ⟨s0, s1⟩ := hSw; go_simp)
      (try simp only [Act.put, List.setIfInBounds_toArray, List.set_cons_zero, List.set_cons_succ])
    case' b55 =>
     go_simp
     replace HM := (show Hid (Mc _ _ _ _ _ _ _ _ _) from HM.out.mk4)
     refine hK.out _ _ (fun _ => HM.out.S HS0.out) ?_
     (try simp only [Act.put, List.setIfInBounds_toArray, List.set_cons_zero, List.set_cons_succ])
     clear hK
     generalize W2.alloc (.cells #[] 64) = W3 at HM ⊢
     generalize W2.heap.size = g4 at HM ⊢
     refine till_two (i := 3) (j := 7) rfl rfl (by kernel_rfl) (fun K hK => ?b61) (fun K hK => ?b62)
     case' b61 =>
      refine step_append_src (by rfl) _ _ 28 (by rfl) V.heap.size 44 i0 (.agg #[.int .i64 0, .int .i64 0, .int .i64 0]) 3 24 Try.underlying28 hi0 hz0 hz1 hz2 rfl (by decide) _ 0 [] (by rfl) (HM.out.p0 _ rfl) aa cs.length ca (cs.flatMap ceC) (by rfl) HL.out.1 (HM.out.src HSR.out) HL.out.2 (by unfold maxLen; omega) (by omega) HM.out.bel.size ?_
      intro v3 W4 hown hgrow
      replace HM := (show Hid (Mc _ _ _ _ _ _ _ _ _) from HM.out.app3 hown hgrow)
      clear hown hgrow
      obtain ⟨a3, k3, hv3, _⟩ := own_shape (HM.out.p3 _ rfl)
      subst hv3
      refine hK.out _ _ (fun _ => HM.out.S HS0.out) ?_
      (try simp only [Act.put, List.setIfInBounds_toArray, List.set_cons_zero, List.set_cons_succ])
      clear hK
      refine till_step (i := 7) rfl (by kernel_rfl) (fun K hK => ?_)
      go_simp
      replace HM := (show Hid (Mc _ _ _ _ _ _ _ _ _) from HM.out.mk7)
      refine hK.out _ _ (fun _ => HM.out.S HS0.out) ?_
      (try simp only [Act.put, List.setIfInBounds_toArray, List.set_cons_zero, List.set_cons_succ])
      clear hK
      generalize W4.alloc (.cells #[] 56) = W5 at HM ⊢
      generalize W4.heap.size = g7 at HM ⊢
      refine till_take (i := 8) (v := (.agg #[.slice a3 cs.length k3, .slice (some ⟨g4, 0, none⟩) 0 0, .int .i64 k, .slice (some ⟨g7, 0, none⟩) 0 0])) rfl (by kernel_rfl) (fun _ _ _ h => h) (by rfl) ?_ (HM.out.S HS0.out) ?_
      · (intro w hSw; obtain ⟨s0, s1⟩ := hSw; go_simp)
      (try simp only [Act.put, List.setIfInBounds_toArray, List.set_cons_zero, List.set_cons_succ])
     case' b62 =>
      go_simp
      replace HM := (show Hid (Mc _ _ _ _ _ _ _ _ _) from HM.out.mk7)
      refine hK.out _ _ (fun _ => HM.out.S HS0.out) ?_
      (try simp only [Act.put, List.setIfInBounds_toArray, List.set_cons_zero, List.set_cons_succ])
      clear hK
      generalize W3.alloc (.cells #[] 56) = W4 at HM ⊢
      generalize W3.heap.size = g7 at HM ⊢
      refine till_step (i := 3) rfl (by kernel_rfl) (fun K hK => ?_)
      refine step_append_src (by rfl) _ _ 28 (by rfl) V.heap.size 44 i0 (.agg #[.int .i64 0, .int .i64 0, .int .i64 0]) 3 24 Try.underlying28 hi0 hz0 hz1 hz2 rfl (by decide) _ 0 [] (by rfl) (HM.out.p0 _ rfl) aa cs.length ca (cs.flatMap ceC) (by rfl) HL.out.1 (HM.out.src HSR.out) HL.out.2 (by unfold maxLen; omega) (by omega) HM.out.bel.size ?_
      intro v3 W5 hown hgrow
      replace HM := (show Hid (Mc _ _ _ _ _ _ _ _ _) from HM.out.app3 hown hgrow)
      clear hown hgrow
      obtain ⟨a3, k3, hv3, _⟩ := own_shape (HM.out.p3 _ rfl)
      subst hv3
      refine hK.out _ _ (fun _ => HM.out.S HS0.out) ?_
      (try simp only [Act.put, List.setIfInBounds_toArray, List.set_cons_zero, List.set_cons_succ])
      clear hK
      refine till_take (i := 8) (v := (.agg #[.slice a3 cs.length k3, .slice (some ⟨g4, 0, none⟩) 0 0, .int .i64 k, .slice (some ⟨g7, 0, none⟩) 0 0])) rfl (by kernel_rfl) (fun _ _ _ h => h) (by rfl) ?_ (HM.out.S HS0.out) ?_
      · (intro w hSw; obtain ⟨s0, s1⟩ := hSw; go_simp)
      (try simp only [Act.put, List.setIfInBounds_toArray, List.set_cons_zero, List.set_cons_succ])
    case' b56 =>
     go_simp
     replace HM := (show Hid (Mc _ _ _ _ _ _ _ _ _) from HM.out.mk7)
     refine hK.out _ _ (fun _ => HM.out.S HS0.out) ?_
     (try simp only [Act.put, List.setIfInBounds_toArray, List.set_cons_zero, List.set_cons_succ])
     clear hK
     generalize W2.alloc (.cells #[] 56) = W3 at HM ⊢
     generalize W2.heap.size = g7 at HM ⊢
     refine till_two (i := 3) (j := 4) rfl rfl (by kernel_rfl) (fun K hK => ?b65) (fun K hK => ?b66)
     case' b65 =>
      refine step_append_src (by rfl) _ _ 28 (by rfl) V.heap.size 44 i0 (.agg #[.int .i64 0, .int .i64 0, .int .i64 0]) 3 24 Try.underlying28 hi0 hz0 hz1 hz2 rfl (by decide) _ 0 [] (by rfl) (HM.out.p0 _ rfl) aa cs.length ca (cs.flatMap ceC) (by rfl) HL.out.1 (HM.out.src HSR.out) HL.out.2 (by unfold maxLen; omega) (by omega) HM.out.bel.size ?_
      intro v3 W4 hown hgrow
      replace HM := (show Hid (Mc _ _ _ _ _ _ _ _ _) from HM.out.app3 hown hgrow)
      clear hown hgrow
      obtain ⟨a3, k3, hv3, _⟩ := own_shape (HM.out.p3 _ rfl)
      subst hv3
      refine hK.out _ _ (fun _ => HM.out.S HS0.out) ?_
      (try simp only [Act.put, List.setIfInBounds_toArray, List.set_cons_zero, List.set_cons_succ])
      clear hK
      refine till_step (i := 4) rfl (by kernel_rfl) (fun K hK => ?_)
      go_simp
      replace HM := (show Hid (Mc _ _ _ _ _ _ _ _ _) from HM.out.mk4)
      refine hK.out _ _ (fun _ => HM.out.S HS0.out) ?_
      (try simp only [Act.put, List.setIfInBounds_toArray, List.set_cons_zero, List.set_cons_succ])
      clear hK
      generalize W4.alloc (.cells #[] 64) = W5 at HM ⊢
      generalize W4.heap.size = g4 at HM ⊢
      refine till_take (i := 8) (v := (.agg #[.slice a3 cs.length k3, .slice (some ⟨g4, 0, none⟩) 0 0, .int .i64 k, .slice (some ⟨g7, 0, none⟩) 0 0])) rfl (by kernel_rfl) (fun _ _ _ h => h) (by rfl) ?_ (HM.out.S HS0.out) ?_
      · (intro w hSw; obtain ⟨s0, s1⟩ := hSw; go_simp)
      (try simp only [Act.put, List.setIfInBounds_toArray, List.set_cons_zero, List.set_cons_succ])
     case' b66 =>
      go_simp
      replace HM := (show Hid (Mc _ _ _ _ _ _ _ _ _) from HM.out.mk4)
      refine hK.out _ _ (fun _ => HM.out.S HS0.out) ?_
      (try simp only [Act.put, List.setIfInBounds_toArray, List.set_cons_zero, List.set_cons_succ])
      clear hK
      generalize W3.alloc (.cells #[] 64) = W4 at HM ⊢
      generalize W3.heap.size = g4 at HM ⊢
      refine till_step (i := 3) rfl (by kernel_rfl) (fun K hK => ?_)
      refine step_append_src (by rfl) _ _ 28 (by rfl) V.heap.size 44 i0 (.agg #[.int .i64 0, .int .i64 0, .int .i64 0]) 3 24 Try.underlying28 hi0 hz0 hz1 hz2 rfl (by decide) _ 0 [] (by rfl) (HM.out.p0 _ rfl) aa cs.length ca (cs.flatMap ceC) (by rfl) HL.out.1 (HM.out.src HSR.out) HL.out.2 (by unfold maxLen; omega) (by omega) HM.out.bel.size ?_
      intro v3 W5 hown hgrow
      replace HM := (show Hid (Mc _ _ _ _ _ _ _ _ _) from HM.out.app3 hown hgrow)
      clear hown hgrow
      obtain ⟨a3, k3, hv3, _⟩ := own_shape (HM.out.p3 _ rfl)
      subst hv3
      refine hK.out _ _ (fun _ => HM.out.S HS0.out) ?_
      (try simp only [Act.put, List.setIfInBounds_toArray, List.set_cons_zero, List.set_cons_succ])
      clear hK
      refine till_take (i := 8) (v := (.agg #[.slice a3 cs.length k3, .slice (some ⟨g4, 0, none⟩) 0 0, .int .i64 k, .slice (some ⟨g7, 0, none⟩) 0 0])) rfl (by kernel_rfl) (fun _ _ _ h => h) (by rfl) ?_ (HM.out.S HS0.out) ?_
      · (intro w hSw; obtain ⟨s0, s1⟩ := hSw; go_simp)
      (try simp only [Act.put, List.setIfInBounds_toArray, List.set_cons_zero, List.set_cons_succ])
  case' b2 =>
   go_simp
   replace HM := (show Hid (Mc _ _ _ _ _ _ _ _ _) from HM.out.mk4)
   refine hK.out _ _ (fun _ => HM.out.S HS0.out) ?_
   (try simp only [Act.put, List.setIfInBounds_toArray, List.set_cons_zero, List.set_cons_succ])
   clear hK
   generalize W0.alloc (.cells #[] 64) = W1 at HM ⊢
   generalize W0.heap.size = g4 at HM ⊢
   refine till_three (i := 0) (j := 7) (m := 9) rfl rfl rfl (by kernel_rfl) (fun K hK => ?b69) (fun K hK => ?b70) (fun K hK => ?b71)
   case' b69 =>
    go_simp
    replace HM := (show Hid (Mc _ _ _ _ _ _ _ _ _) from HM.out.mk0)
    refine hK.out _ _ (fun _ => HM.out.S HS0.out) ?_
    (try simp only [Act.put, List.setIfInBounds_toArray, List.set_cons_zero, List.set_cons_succ])
    clear hK
    generalize W1.alloc (.cells #[] 44) = W2 at HM ⊢
    generalize W1.heap.size = g0 at HM ⊢
    refine till_three (i := 3) (j := 7) (m := 9) rfl rfl rfl (by kernel_rfl) (fun K hK => ?b72) (fun K hK => ?b73) (fun K hK => ?b74)
    case' b72 =>
     refine step_append_src (by rfl) _ _ 28 (by rfl) V.heap.size 44 i0 (.agg #[.int .i64 0, .int .i64 0, .int .i64 0]) 3 24 Try.underlying28 hi0 hz0 hz1 hz2 rfl (by decide) _ 0 [] (by rfl) (HM.out.p0 _ rfl) aa cs.length ca (cs.flatMap ceC) (by rfl) HL.out.1 (HM.out.src HSR.out) HL.out.2 (by unfold maxLen; omega) (by omega) HM.out.bel.size ?_
     intro v3 W3 hown hgrow
     replace HM := (show Hid (Mc _ _ _ _ _ _ _ _ _) from HM.out.app3 hown hgrow)
     clear hown hgrow
     obtain ⟨a3, k3, hv3, _⟩ := own_shape (HM.out.p3 _ rfl)
     subst hv3
     refine hK.out _ _ (fun _ => HM.out.S HS0.out) ?_
     (try simp only [Act.put, List.setIfInBounds_toArray, List.set_cons_zero, List.set_cons_succ])
     clear hK
     refine till_two (i := 7) (j := 9) rfl rfl (by kernel_rfl) (fun K hK => ?b75) (fun K hK => ?b76)
     case' b75 =>
      go_simp
      replace HM := (show Hid (Mc _ _ _ _ _ _ _ _ _) from HM.out.mk7)
      refine hK.out _ _ (fun _ => HM.out.S HS0.out) ?_
      (try simp only [Act.put, List.setIfInBounds_toArray, List.set_cons_zero, List.set_cons_succ])
      clear hK
      generalize W3.alloc (.cells #[] 56) = W4 at HM ⊢
      generalize W3.heap.size = g7 at HM ⊢
      refine till_take (i := 8) (v := (.agg #[.slice a3 cs.length k3, .slice (some ⟨g4, 0, none⟩) 0 0, .int .i64 k, .slice (some ⟨g7, 0, none⟩) 0 0])) rfl (by kernel_rfl) (fun _ _ _ h => h) (by rfl) ?_ (HM.out.S HS0.out) ?_
      · (intro w hSw; obtain ⟨s0, s1⟩ := hSw; go_simp)
      (try simp only [Act.put, List.setIfInBounds_toArray, List.set_cons_zero, List.set_cons_succ])
      refine till_step (i := 9) rfl (by kernel_rfl) (fun K hK => ?_)
      go_simp
      replace HM := (show Hid (Mc _ _ _ _ _ _ _ _ _) from HM.out.mk9)
      refine hK.out _ _ (fun _ => HM.out.S HS0.out) ?_
      (try simp only [Act.put, List.setIfInBounds_toArray, List.set_cons_zero, List.set_cons_succ])
      clear hK
      generalize W4.alloc (.cells #[.slice none 0 0, .slice none 0 0, .int .i64 0, .slice none 0 0] 32) = W5 at HM ⊢
      generalize W4.heap.size = g9 at HM ⊢
     case' b76 =>
      go_simp
      replace HM := (show Hid (Mc _ _ _ _ _ _ _ _ _) from HM.out.mk9)
      refine hK.out _ _ (fun _ => HM.out.S HS0.out) ?_
      (try simp only [Act.put, List.setIfInBounds_toArray, List.set_cons_zero, List.set_cons_succ])
      clear hK
      generalize W3.alloc (.cells #[.slice none 0 0, .slice none 0 0, .int .i64 0, .slice none 0 0] 32) = W4 at HM ⊢
      generalize W3.heap.size = g9 at HM ⊢
      refine till_step (i := 7) rfl (by kernel_rfl) (fun K hK => ?_)
      go_simp
      replace HM := (show Hid (Mc _ _ _ _ _ _ _ _ _) from HM.out.mk7)
      refine hK.out _ _ (fun _ => HM.out.S HS0.out) ?_
      (try simp only [Act.put, List.setIfInBounds_toArray, List.set_cons_zero, List.set_cons_succ])
      clear hK
      generalize W4.alloc (.cells #[] 56) = W5 at HM ⊢
      generalize W4.heap.size = g7 at HM ⊢
      refine till_take (i := 8) (v := (.agg #[.slice a3 cs.length k3, .slice (some ⟨g4, 0, none⟩) 0 0, .int .i64 k, .slice (some ⟨g7, 0, none⟩) 0 0])) rfl (by kernel_rfl) (fun _ _ _ h => h) (by rfl) ?_ (HM.out.S HS0.out) ?_
      · (intro w hSw; obtain ⟨s0, s1⟩ := hSw; go_simp)
      (try simp only [Act.put, List.setIfInBounds_toArray, List.set_cons_zero, List.set_cons_succ])
    case' b73 =>
     go_simp
     replace HM := (show Hid (Mc _ _ _ _ _ _ _ _ _) from HM.out.mk7)
     refine hK.out _ _ (fun _ => HM.out.S HS0.out) ?_
     (try simp only [Act.put, List.setIfInBounds_toArray, List.set_cons_zero, List.set_cons_succ])
     clear hK
     generalize W2.alloc (.cells #[] 56) = W3 at HM ⊢
     generalize W2.heap.size = g7 at HM ⊢
     refine till_two (i := 3) (j := 9) rfl rfl (by kernel_rfl) (fun K hK => ?b79) (fun K hK => ?b80)
     case' b79 =>
      refine step_append_src (by rfl) _ _ 28 (by rfl) V.heap.size 44 i0 (.agg #[.int .i64 0, .int .i64 0, .int .i64 0]) 3 24 Try.underlying28 hi0 hz0 hz1 hz2 rfl (by decide) _ 0 [] (by rfl) (HM.out.p0 _ rfl) aa cs.length ca (cs.flatMap ceC) (by rfl) HL.out.1 (HM.out.src HSR.out) HL.out.2 (by unfold maxLen; omega) (by omega) HM.out.bel.size ?_
      intro v3 W4 hown hgrow
      replace HM := (show Hid (Mc _ _ _ _ _ _ _ _ _) from HM.out.app3 hown hgrow)
      clear hown hgrow
      obtain ⟨a3, k3, hv3, _⟩ := own_shape (HM.out.p3 _ rfl)
      subst hv3
      refine hK.out _ _ (fun _ => HM.out.S HS0.out) ?_
      (try simp only [Act.put, List.setIfInBounds_toArray, List.set_cons_zero, List.set_cons_succ])
      clear hK
      refine till_take (i := 8) (v := (.agg #[.slice a3 cs.length k3, .slice (some ⟨g4, 0, none⟩) 0 0, .int .i64 k, .slice (some ⟨g7, 0, none⟩) 0 0])) rfl (by kernel_rfl) (fun _ _ _ h => h) (by rfl) ?_ (HM.out.S HS0.out) ?_
      · (intro w hSw; obtain ⟨s0, s1⟩ := hSw; go_simp)
      (try simp only [Act.put, List.setIfInBounds_toArray, List.set_cons_zero, List.set_cons_succ])
      refine till_step (i := 9) rfl (by kernel_rfl) (fun K hK => ?_)
      go_simp
      replace HM := (show Hid (Mc _ _ _ _ _ _ _ _ _) from HM.out.mk9)
      refine hK.out _ _ (fun _ => HM.out.S HS0.out) ?_
      (try simp only [Act.put, List.setIfInBounds_toArray, List.set_cons_zero, List.set_cons_succ])
      clear hK
      generalize W4.alloc (.cells #[.slice none 0 0, .slice none 0 0, .int .i64 0, .slice none 0 0] 32) = W5 at HM ⊢
      generalize W4.heap.size = g9 at HM ⊢
     case' b80 =>
      go_simp
      replace HM := (show Hid (Mc _ _ _ _ _ _ _ _ _) from HM.out.mk9)
      refine hK.out _ _ (fun _ => HM.out.S HS0.out) ?_
      (try simp only [Act.put, List.setIfInBounds_toArray, List.set_cons_zero, List.set_cons_succ])
      clear hK
      generalize W3.alloc (.cells #[.slice none 0 0, .slice none 0 0, .int .i64 0, .slice none 0 0] 32) = W4 at HM ⊢
      generalize W3.heap.size = g9 at HM ⊢
      refine till_step (i := 3) rfl (by kernel_rfl) (fun K hK => ?_)
      refine step_append_src (by rfl) _ _ 28 (by rfl) V.heap.size 44 i0 (.agg #[.int .i64 0, .int .i64 0, .int .i64 0]) 3 24 Try.underlying28 hi0 hz0 hz1 hz2 rfl (by decide) _ 0 [] (by rfl) (HM.out.p0 _ rfl) aa cs.length ca (cs.flatMap ceC) (by rfl) HL.out.1 (HM.out.src HSR.out) HL.out.2 (by unfold maxLen; omega) (by omega) HM.out.bel.size ?_
      intro v3 W5 hown hgrow
      replace HM := (show Hid (Mc _ _ _ _ _ _ _ _ _) from HM.out.app3 hown hgrow)
      clear hown hgrow
      obtain ⟨a3, k3, hv3, _⟩ := own_shape (HM.out.p3 _ rfl)
      subst hv3
      refine hK.out _ _ (fun _ => HM.out.S HS0.out) ?_
      (try simp only [Act.put, List.setIfInBounds_toArray, List.set_cons_zero, List.set_cons_succ])
      clear hK
      refine till_take (i := 8) (v := (.agg #[.slice a3 cs.length k3, .slice (some ⟨g4, 0, none⟩) 0 0, .int .i64 k, .slice (some ⟨g7, 0, none⟩) 0 0])) rfl (by kernel_rfl) (fun _ _ _ h => h) (by rfl) ?_ (HM.out.S HS0.out) ?_
      · (intro w hSw; obtain ⟨s0, s1⟩ := hSw; go_simp)
      (try simp only [Act.put, List.setIfInBounds_toArray, List.set_cons_zero, List.set_cons_succ])
    case' b74 =>
     go_simp
     replace HM := (show Hid (Mc _ _ _ _ _ _ _ _ _) from HM.out.mk9)
     refine hK.out _ _ (fun _ => HM.out.S HS0.out) ?_
     (try simp only [Act.put, List.setIfInBounds_toArray, List.set_cons_zero, List.set_cons_succ])
     clear hK
     generalize W2.alloc (.cells #[.slice none 0 0, .slice none 0 0, .int .i64 0, .slice none 0 0] 32) = W3 at HM ⊢
     generalize W2.heap.size = g9 at HM ⊢
     refine till_two (i := 3) (j := 7) rfl rfl (by kernel_rfl) (fun K hK => ?b83) (fun K hK => ?b84)
     case' b83 =>
      refine step_append_src (by rfl) _ _ 28 (by rfl) V.heap.size 44 i0 (.agg #[.int .i64 0, .int .i64 0, .int .i64 0]) 3 24 Try.underlying28 hi0 hz0 hz1 hz2 rfl (by decide) _ 0 [] (by rfl) (HM.out.p0 _ rfl) aa cs.length ca (cs.flatMap ceC) (by rfl) HL.out.1 (HM.out.src HSR.out) HL.out.2 (by unfold maxLen; omega) (by omega) HM.out.bel.size ?_
      intro v3 W4 hown hgrow
      replace HM := (show Hid (Mc _ _ _ _ _ _ _ _ _) from HM.out.app3 hown hgrow)
      clear hown hgrow
      obtain ⟨a3, k3, hv3, _⟩ := own_shape (HM.out.p3 _ rfl)
      subst hv3
      refine hK.out _ _ (fun _ => HM.out.S HS0.out) ?_
      (try simp only [Act.put, List.setIfInBounds_toArray, List.set_cons_zero, List.set_cons_succ])
      clear hK
      refine till_step (i := 7) rfl (by kernel_rfl) (fun K hK => ?_)
      go_simp
      replace HM := (show Hid (Mc _ _ _ _ _ _ _ _ _) from HM.out.mk7)
      refine hK.out _ _ (fun _ => HM.out.S HS0.out) ?_
      (try simp only [Act.put, List.setIfInBounds_toArray, List.set_cons_zero, List.set_cons_succ])
      clear hK
      generalize W4.alloc (.cells #[] 56) = W5 at HM ⊢
      generalize W4.heap.size = g7 at HM ⊢
      refine till_take (i := 8) (v := (.agg #[.slice a3 cs.length k3, .slice (some ⟨g4, 0, none⟩) 0 0, .int .i64 k, .slice (some ⟨g7, 0, none⟩) 0 0])) rfl (by kernel_rfl) (fun _ _ _ h => h) (by rfl) ?_ (HM.out.S HS0.out) ?_
      · (intro w hSw; obtain ⟨s0, s1⟩ := hSw; go_simp)
      (try simp only [Act.put, List.setIfInBounds_toArray, List.set_cons_zero, List.set_cons_succ])
     case' b84 =>
      go_simp
      replace HM := (show Hid (Mc _ _ _ _ _ _ _ _ _) from HM.out.mk7)
      refine hK.out _ _ (fun _ => HM.out.S HS0.out) ?_
      (try simp only [Act.put, List.setIfInBounds_toArray, List.set_cons_zero, List.set_cons_succ])
      clear hK
      generalize W3.alloc (.cells #[] 56) = W4 at HM ⊢
      generalize W3.heap.size = g7 at HM ⊢
      refine till_step (i := 3) rfl (by kernel_rfl) (fun K hK => ?_)
      refine step_append_src (by rfl) _ _ 28 (by rfl) V.heap.size 44 i0 (.agg #[.int .i64 0, .int .i64 0, .int .i64 0]) 3 24 Try.underlying28 hi0 hz0 hz1 hz2 rfl (by decide) _ 0 [] (by rfl) (HM.out.p0 _ rfl) aa cs.length ca (cs.flatMap ceC) (by rfl) HL.out.1 (HM.out.src HSR.out) HL.out.2 (by unfold maxLen; omega) (by omega) HM.out.bel.size ?_
      intro v3 W5 hown hgrow
      replace HM := (show Hid (Mc _ _ _ _ _ _ _ _ _) from HM.out.app3 hown hgrow)
      clear hown hgrow
      obtain ⟨a3, k3, hv3, _⟩ := own_shape (HM.out.p3 _ rfl)
      subst hv3
      refine hK.out _ _ (fun _ => HM.out.S HS0.out) ?_
      (try simp only [Act.put, List.setIfInBounds_toArray, List.set_cons_zero, List.set_cons_succ])
      clear hK
      refine till_take (i := 8) (v := (.agg #[.slice a3 cs.length k3, .slice (some ⟨g4, 0, none⟩) 0 0, .int .i64 k, .slice (some ⟨g7, 0, none⟩) 0 0])) rfl (by kernel_rfl) (fun _ _ _ h => h) (by rfl) ?_ (HM.out.S HS0.out) ?_
      · (intro w hSw; obtain ⟨s0, s1⟩ := hSw; go_simp)
      (try simp only [Act.put, List.setIfInBounds_toArray, List.set_cons_zero, List.set_cons_succ])
   case' b70 =>
    go_simp
    replace HM := (show Hid (Mc _ _ _ _ _ _ _ _ _) from HM.out.mk7)
    refine hK.out _ _ (fun _ => HM.out.S HS0.out) ?_
    (try simp only [Act.put, List.setIfInBounds_toArray, List.set_cons_zero, List.set_cons_succ])
    clear hK
    generalize W1.alloc (.cells #[] 56) = W2 at HM ⊢
    generalize W1.heap.size = g7 at HM ⊢
    refine till_two (i := 0) (j := 9) rfl rfl (by kernel_rfl) (fun K hK => ?b87) (fun K hK => ?b88)
    case' b87 =>
     go_simp
     replace HM := (show Hid (Mc _ _ _ _ _ _ _ _ _) from HM.out.mk0)
     refine hK.out _ _ (fun _ => HM.out.S HS0.out) ?_
     (try simp only [Act.put, List.setIfInBounds_toArray, List.set_cons_zero, List.set_cons_succ])
     clear hK
     generalize W2.alloc (.cells #[] 44) = W3 at HM ⊢
     generalize W2.heap.size = g0 at HM ⊢
     refine till_two (i := 3) (j := 9) rfl rfl (by kernel_rfl) (fun K hK => ?b89) (fun K hK => ?b90)
     case' b89 =>
      refine step_append_src (by rfl) _ _ 28 (by rfl) V.heap.size 44 i0 (.agg #[.int .i64 0, .int .i64 0, .int .i64 0]) 3 24 Try.underlying28 hi0 hz0 hz1 hz2 rfl (by decide) _ 0 [] (by rfl) (HM.out.p0 _ rfl) aa cs.length ca (cs.flatMap ceC) (by rfl) HL.out.1 (HM.out.src HSR.out) HL.out.2 (by unfold maxLen; omega) (by omega) HM.out.bel.size ?_
      intro v3 W4 hown hgrow
      replace HM := (show Hid (Mc _ _ _ _ _ _ _ _ _) from HM.out.app3 hown hgrow)
      clear hown hgrow
      obtain ⟨a3, k3, hv3, _⟩ := own_shape (HM.out.p3 _ rfl)
      subst hv3
      refine hK.out _ _ (fun _ => HM.out.S HS0.out) ?_
      (try simp only [Act.put, List.setIfInBounds_toArray, List.set_cons_zero, List.set_cons_succ])
      clear hK
      refine till_take (i := 8) (v := (.agg #[.slice a3 cs.length k3, .slice (some ⟨g4, 0, none⟩) 0 0, .int .i64 k, .slice (some ⟨g7, 0, none⟩) 0 0])) rfl (by kernel_rfl) (fun _ _ _ h => h) (by rfl) ?_ (HM.out.S HS0.out) ?_
      · (intro w hSw; obtain ⟨s0, s1⟩ := hSw; go_simp)
      (try simp only [Act.put, List.setIfInBounds_toArray, List.set_cons_zero, List.set_cons_succ])
      refine till_step (i := 9) rfl (by kernel_rfl) (fun K hK => ?_)
      go_simp
      replace HM := (show Hid (Mc _ _ _ _ _ _ _ _ _) from HM.out.mk9)
      refine hK.out _ _ (fun _ => HM.out.S HS0.out) ?_
      (try simp only [Act.put, List.setIfInBounds_toArray, List.set_cons_zero, List.set_cons_succ])
      clear hK
      generalize W4.alloc (.cells #[.slice none 0 0, .slice none 0 0, .int .i64 0, .slice none 0 0] 32) = W5 at HM ⊢
      generalize W4.heap.size = g9 at HM ⊢
     case' b90 =>
      go_simp
      replace HM := (show Hid (Mc _ _ _ _ _ _ _ _ _) from HM.out.mk9)
      refine hK.out _ _ (fun _ => HM.out.S HS0.out) ?_
      (try simp only [Act.put, List.setIfInBounds_toArray, List.set_cons_zero, List.set_cons_succ])
      clear hK
      generalize W3.alloc (.cells #[.slice none 0 0, .slice none 0 0, .int .i64 0, .slice none 0 0] 32) = W4 at HM ⊢
      generalize W3.heap.size = g9 at HM ⊢
      refine till_step (i := 3) rfl (by kernel_rfl) (fun K hK => ?_)
      refine step_append_src (by rfl) _ _ 28 (by rfl) V.heap.size 44 i0 (.agg #[.int .i64 0, .int .i64 0, .int .i64 0]) 3 24 Try.underlying28 hi0 hz0 hz1 hz2 rfl (by decide) _ 0 [] (by rfl) (HM.out.p0 _ rfl) aa cs.length ca (cs.flatMap ceC) (by rfl) HL.out.1 (HM.out.src HSR.out) HL.out.2 (by unfold maxLen; omega) (by omega) HM.out.bel.size ?_
      intro v3 W5 hown hgrow
      replace HM := (show Hid (Mc _ _ _ _ _ _ _ _ _) from HM.out.app3 hown hgrow)
      clear hown hgrow
      obtain ⟨a3, k3, hv3, _⟩ := own_shape (HM.out.p3 _ rfl)
      subst hv3
      refine hK.out _ _ (fun _ => HM.out.S HS0.out) ?_
      (try simp only [Act.put, List.setIfInBounds_toArray, List.set_cons_zero, List.set_cons_succ])
      clear hK
      refine till_take (i := 8) (v := (.agg #[.slice a3 cs.length k3, .slice (some ⟨g4, 0, none⟩) 0 0, .int .i64 k, .slice (some ⟨g7, 0, none⟩) 0 0])) rfl (by kernel_rfl) (fun _ _ _ h => h) (by rfl) ?_ (HM.out.S HS0.out) ?_
      · (intro w hSw; obtain ⟨s0, s1⟩ := hSw; go_simp)
      (try simp only [Act.put, List.setIfInBounds_toArray, List.set_cons_zero, List.set_cons_succ])
    case' b88 =>
     go_simp
     replace HM := (show Hid (Mc _ _ _ _ _ _ _ _ _) from HM.out.mk9)
     refine hK.out _ _ (fun _ => HM.out.S HS0.out) ?_
     (try simp only [Act.put, List.setIfInBounds_toArray, List.set_cons_zero, List.set_cons_succ])
     clear hK
     generalize W2.alloc (.cells #[.slice none 0 0, .slice none 0 0, .int .i64 0, .slice none 0 0] 32) = W3 at HM ⊢
     generalize W2.heap.size = g9 at HM ⊢
     refine till_step (i := 0) rfl (by kernel_rfl) (fun K hK => ?_)
     go_simp
     replace HM := (show Hid (Mc _ _ _ _ _ _ _ _ _) from HM.out.mk0)
     refine hK.out _ _ (fun _ => HM.out.S HS0.out) ?_
     (try simp only [Act.put, List.setIfInBounds_toArray, List.set_cons_zero, List.set_cons_succ])
     clear hK
     generalize W3.alloc (.cells #[] 44) = W4 at HM ⊢
     generalize W3.heap.size = g0 at HM ⊢
     refine till_step (i := 3) rfl (by kernel_rfl) (fun K hK => ?_)
     refine step_append_src (by rfl) _ _ 28 (by rfl) V.heap.size 44 i0 (.agg #[.int .i64 0, .int .i64 0, .int .i64 0]) 3 24 Try.underlying28 hi0 hz0 hz1 hz2 rfl (by decide) _ 0 [] (by rfl) (HM.out.p0 _ rfl) aa cs.length ca (cs.flatMap ceC) (by rfl) HL.out.1 (HM.out.src HSR.out) HL.out.2 (by unfold maxLen; omega) (by omega) HM.out.bel.size ?_
     intro v3 W5 hown hgrow
     replace HM := (show Hid (Mc _ _ _ _ _ _ _ _ _) from HM.out.app3 hown hgrow)
     clear hown hgrow
     obtain ⟨a3, k3, hv3, _⟩ := own_shape (HM.out.p3 _ rfl)
     subst hv3
     refine hK.out _ _ (fun _ => HM.out.S HS0.out) ?_
     (try simp only [Act.put, List.setIfInBounds_toArray, List.set_cons_zero, List.set_cons_succ])
     clear hK
     refine till_take (i := 8) (v := (.agg #[.slice a3 cs.length k3, .slice (some ⟨g4, 0, none⟩) 0 0, .int .i64 k, .slice (some ⟨g7, 0, none⟩) 0 0])) rfl (by kernel_rfl) (fun _ _ _ h => h) (by rfl) ?_ (HM.out.S HS0.out) ?_
     · (intro w hSw; obtain ⟨s0, s1⟩ := hSw; go_simp)
     (try simp only [Act.put, List.setIfInBounds_toArray, List.set_cons_zero, List.set_cons_succ])
   case' b71 =>
    go_simp
    replace HM := (show Hid (Mc _ _ _ _ _ _ _ _ _) from HM.out.mk9)
    refine hK.out _ _ (fun _ => HM.out.S HS0.out) ?_
    (try simp only [Act.put, List.setIfInBounds_toArray, List.set_cons_zero, List.set_cons_succ])
    clear hK
    generalize W1.alloc (.cells #[.slice none 0 0, .slice none 0 0, .int .i64 0, .slice none 0 0] 32) = W2 at HM ⊢
    generalize W1.heap.size = g9 at HM ⊢
    refine till_two (i := 0) (j := 7) rfl rfl (by kernel_rfl) (fun K hK => ?b95) (fun K hK => ?b96)
    case' b95 =>
     go_simp
     replace HM := (show Hid (Mc _ _ _ _ _ _ _ _ _) from HM.out.mk0)
     refine hK.out _ _ (fun _ => HM.out.S HS0.out) ?_
     (try simp only [Act.put, List.setIfInBounds_toArray, List.set_cons_zero, List.set_cons_succ])
     clear hK
     generalize W2.alloc (.cells #[] 44) = W3 at HM ⊢
     generalize W2.heap.size = g0 at HM ⊢
     refine till_two (i := 3) (j := 7) rfl rfl (by kernel_rfl) (fun K hK => ?b97) (fun K hK => ?b98)
     case' b97 =>
      refine step_append_src (by rfl) _ _ 28 (by rfl) V.heap.size 44 i0 (.agg #[.int .i64 0, .int .i64 0, .int .i64 0]) 3 24 Try.underlying28 hi0 hz0 hz1 hz2 rfl (by decide) _ 0 [] (by rfl) (HM.out.p0 _ rfl) aa cs.length ca (cs.flatMap ceC) (by rfl) HL.out.1 (HM.out.src HSR.out) HL.out.2 (by unfold maxLen; omega) (by omega) HM.out.bel.size ?_
      intro v3 W4 hown hgrow
      replace HM := (show Hid (Mc _ _ _ _ _ _ _ _ _) from HM.out.app3 hown hgrow)
      clear hown hgrow
      obtain ⟨a3, k3, hv3, _⟩ := own_shape (HM.out.p3 _ rfl)
      subst hv3
      refine hK.out _ _ (fun _ => HM.out.S HS0.out) ?_
      (try simp only [Act.put, List.setIfInBounds_toArray, List.set_cons_zero, List.set_cons_succ])
      clear hK
      refine till_step (i := 7) rfl (by kernel_rfl) (fun K hK => ?_)
      go_simp
      replace HM := (show Hid (Mc _ _ _ _ _ _ _ _ _) from HM.out.mk7)
      refine hK.out _ _ (fun _ => HM.out.S HS0.out) ?_
      (try simp only [Act.put, List.setIfInBounds_toArray, List.set_cons_zero, List.set_cons_succ])
      clear hK
      generalize W4.alloc (.cells #[] 56) = W5 at HM ⊢
      generalize W4.heap.size = g7 at HM ⊢
      refine till_take (i := 8) (v := (.agg #[.slice a3 cs.length k3, .slice (some ⟨g4, 0, none⟩) 0 0, .int .i64 k, .slice (some ⟨g7, 0, none⟩) 0 0])) rfl (by kernel_rfl) (fun _ _ _ h => h) (by rfl) ?_ (HM.out.S HS0.out) ?_
      · (intro w hSw; obtain ⟨s0, s1⟩ := hSw; go_simp)
      (try simp only [Act.put, List.setIfInBounds_toArray, List.set_cons_zero, List.set_cons_succ])
     case' b98 =>
      go_simp
      replace HM := (show Hid (Mc _ _ _ _ _ _ _ _ _) from HM.out.mk7)
      refine hK.out _ _ (fun _ => HM.out.S HS0.out) ?_
      (try simp only [Act.put, List.setIfInBounds_toArray, List.set_cons_zero, List.set_cons_succ])
      clear hK
      generalize W3.alloc (.cells #[] 56) = W4 at HM ⊢
      generalize W3.heap.size = g7 at HM ⊢
      refine till_step (i := 3) rfl (by kernel_rfl) (fun K hK => ?_)
      refine step_append_src (by rfl) _ _ 28 (by rfl) V.heap.size 44 i0 (.agg #[.int .i64 0, .int .i64 0, .int .i64 0]) 3 24 Try.underlying28 hi0 hz0 hz1 hz2 rfl (by decide) _ 0 [] (by rfl) (HM.out.p0 _ rfl) aa cs.length ca (cs.flatMap ceC) (by rfl) HL.out.1 (HM.out.src HSR.out) HL.out.2 (by unfold maxLen; omega) (by omega) HM.out.bel.size ?_
      intro v3 W5 hown hgrow
      replace HM := (show Hid (Mc _ _ _ _ _ _ _ _ _) from HM.out.app3 hown hgrow)
      clear hown hgrow
      obtain ⟨a3, k3, hv3, _⟩ := own_shape (HM.out.p3 _ rfl)
      subst hv3
      refine hK.out _ _ (fun _ => HM.out.S HS0.out) ?_
      (try simp only [Act.put, List.setIfInBounds_toArray, List.set_cons_zero, List.set_cons_succ])
      clear hK
      refine till_take (i := 8) (v := (.agg #[.slice a3 cs.length k3, .slice (some ⟨g4, 0, none⟩) 0 0, .int .i64 k, .slice (some ⟨g7, 0, none⟩) 0 0])) rfl (by kernel_rfl) (fun _ _ _ h => h) (by rfl) ?_ (HM.out.S HS0.out) ?_
      · (intro w hSw; obtain ⟨s0, s1⟩ := hSw; go_simp)
      (try simp only [Act.put, List.setIfInBounds_toArray, List.set_cons_zero, List.set_cons_succ])
    case' b96 =>
     go_simp
     replace HM := (show Hid (Mc _ _ _ _ _ _ _ _ _) from HM.out.mk7)
     refine hK.out _ _ (fun _ => HM.out.S HS0.out) ?_
     (try simp only [Act.put, List.setIfInBounds_toArray, List.set_cons_zero, List.set_cons_succ])
     clear hK
     generalize W2.alloc (.cells #[] 56) = W3 at HM ⊢
     generalize W2.heap.size = g7 at HM ⊢
     refine till_step (i := 0) rfl (by kernel_rfl) (fun K hK => ?_)
     go_simp
     replace HM := (show Hid (Mc _ _ _ _ _ _ _ _ _) from HM.out.mk0)
     refine hK.out _ _ (fun _ => HM.out.S HS0.out) ?_
     (try simp only [Act.put, List.setIfInBounds_toArray, List.set_cons_zero, List.set_cons_succ])
     clear hK
     generalize W3.alloc (.cells #[] 44) = W4 at HM ⊢
     generalize W3.heap.size = g0 at HM ⊢
     refine till_step (i := 3) rfl (by kernel_rfl) (fun K hK => ?_)
     refine step_append_src (by rfl) _ _ 28 (by rfl) V.heap.size 44 i0 (.agg #[.int .i64 0, .int .i64 0, .int .i64 0]) 3 24 Try.underlying28 hi0 hz0 hz1 hz2 rfl (by decide) _ 0 [] (by rfl) (HM.out.p0 _ rfl) aa cs.length ca (cs.flatMap ceC) (by rfl) HL.out.1 (HM.out.src HSR.out) HL.out.2 (by unfold maxLen; omega) (by omega) HM.out.bel.size ?_
     intro v3 W5 hown hgrow
     replace HM := (show Hid (Mc _ _ _ _ _ _ _ _ _) from HM.out.app3 hown hgrow)
     clear hown hgrow
     obtain ⟨a3, k3, hv3, _⟩ := own_shape (HM.out.p3 _ rfl)
     subst hv3
     refine hK.out _ _ (fun _ => HM.out.S HS0.out) ?_
     (try simp only [Act.put, List.setIfInBounds_toArray, List.set_cons_zero, List.set_cons_succ])
     clear hK
     refine till_take (i := 8) (v := (.agg #[.slice a3 cs.length k3, .slice (some ⟨g4, 0, none⟩) 0 0, .int .i64 k, .slice (some ⟨g7, 0, none⟩) 0 0])) rfl (by kernel_rfl) (fun _ _ _ h => h) (by rfl) ?_ (HM.out.S HS0.out) ?_
     · (intro w hSw; obtain ⟨s0, s1⟩ := hSw; go_simp)
     (try simp only [Act.put, List.setIfInBounds_toArray, List.set_cons_zero, List.set_cons_succ])
  case' b3 =>
   go_simp
   replace HM := (show Hid (Mc _ _ _ _ _ _ _ _ _) from HM.out.mk7)
   refine hK.out _ _ (fun _ => HM.out.S HS0.out) ?_
   (try simp only [Act.put, List.setIfInBounds_toArray, List.set_cons_zero, List.set_cons_succ])
   clear hK
   generalize W0.alloc (.cells #[] 56) = W1 at HM ⊢
   generalize W0.heap.size = g7 at HM ⊢
   refine till_three (i := 0) (j := 4) (m := 9) rfl rfl rfl (by kernel_rfl) (fun K hK => ?b103) (fun K hK => ?b104) (fun K hK => ?b105)
   case' b103 =>
    go_simp
    replace HM := (show Hid (Mc _ _ _ _ _ _ _ _ _) from HM.out.mk0)
    refine hK.out _ _ (fun _ => HM.out.S HS0.out) ?_
    (try simp only [Act.put, List.setIfInBounds_toArray, List.set_cons_zero, List.set_cons_succ])
    clear hK
    generalize W1.alloc (.cells #[] 44) = W2 at HM ⊢
    generalize W1.heap.size = g0 at HM ⊢
    refine till_three (i := 3) (j := 4) (m := 9) rfl rfl rfl (by kernel_rfl) (fun K hK => ?b106) (fun K hK => ?b107) (fun K hK => ?b108)
    case' b106 =>
     refine step_append_src (by rfl) _ _ 28 (by rfl) V.heap.size 44 i0 (.agg #[.int .i64 0, .int .i64 0, .int .i64 0]) 3 24 Try.underlying28 hi0 hz0 hz1 hz2 rfl (by decide) _ 0 [] (by rfl) (HM.out.p0 _ rfl) aa cs.length ca (cs.flatMap ceC) (by rfl) HL.out.1 (HM.out.src HSR.out) HL.out.2 (by unfold maxLen; omega) (by omega) HM.out.bel.size ?_
     intro v3 W3 hown hgrow
     replace HM := (show Hid (Mc _ _ _ _ _ _ _ _ _) from HM.out.app3 hown hgrow)
     clear hown hgrow
     obtain ⟨a3, k3, hv3, _⟩ := own_shape (HM.out.p3 _ rfl)
     subst hv3
     refine hK.out _ _ (fun _ => HM.out.S HS0.out) ?_
     (try simp only [Act.put, List.setIfInBounds_toArray, List.set_cons_zero, List.set_cons_succ])
     clear hK
     refine till_two (i := 4) (j := 9) rfl rfl (by kernel_rfl) (fun K hK => ?b109) (fun K hK => ?b110)
     case' b109 =>
      go_simp
      replace HM := (show Hid (Mc _ _ _ _ _ _ _ _ _) from HM.out.mk4)
      refine hK.out _ _ (fun _ => HM.out.S HS0.out) ?_
      (try simp only [Act.put, List.setIfInBounds_toArray, List.set_cons_zero, List.set_cons_succ])
      clear hK
      generalize W3.alloc (.cells #[] 64) = W4 at HM ⊢
      generalize W3.heap.size = g4 at HM ⊢
      refine till_take (i := 8) (v := (.agg #[.slice a3 cs.length k3, .slice (some ⟨g4, 0, none⟩) 0 0, .int .i64 k, .slice (some ⟨g7, 0, none⟩) 0 0])) rfl (by kernel_rfl) (fun _ _ _ h => h) (by rfl) ?_ (HM.out.S HS0.out) ?_
      · (intro w hSw; obtain ⟨s0, s1⟩ := hSw; go_simp)
      (try simp only [Act.put, List.setIfInBounds_toArray, List.set_cons_zero, List.set_cons_succ])
      refine till_step (i := 9) rfl (by kernel_rfl) (fun K hK => ?_)
      go_simp
      replace HM := (show Hid (Mc _ _ _ _ _ _ _ _ _) from HM.out.mk9)
      refine hK.out _ _ (fun _ => HM.out.S HS0.out) ?_
      (try simp only [Act.put, List.setIfInBounds_toArray, List.set_cons_zero, List.set_cons_succ])
      clear hK
      generalize W4.alloc (.cells #[.slice none 0 0, .slice none 0 0, .int .i64 0, .slice none 0 0] 32) = W5 at HM ⊢
      generalize W4.heap.size = g9 at HM ⊢
     case' b110 =>
      go_simp
      replace HM := (show Hid (Mc _ _ _ _ _ _ _ _ _) from HM.out.mk9)
      refine hK.out _ _ (fun _ => HM.out.S HS0.out) ?_
      (try simp only [Act.put, List.setIfInBounds_toArray, List.set_cons_zero, List.set_cons_succ])
      clear hK
      generalize W3.alloc (.cells #[.slice none 0 0, .slice none 0 0, .int .i64 0, .slice none 0 0] 32) = W4 at HM ⊢
      generalize W3.heap.size = g9 at HM ⊢
      refine till_step (i := 4) rfl (by kernel_rfl) (fun K hK => ?_)
      go_simp
      replace HM := (show Hid (Mc _ _ _ _ _ _ _ _ _) from HM.out.mk4)
      refine hK.out _ _ (fun _ => HM.out.S HS0.out) ?_
      (try simp only [Act.put, List.setIfInBounds_toArray, List.set_cons_zero, List.set_cons_succ])
      clear hK
      generalize W4.alloc (.cells #[] 64) = W5 at HM ⊢
      generalize W4.heap.size = g4 at HM ⊢
      refine till_take (i := 8) (v := (.agg #[.slice a3 cs.length k3, .slice (some ⟨g4, 0, none⟩) 0 0, .int .i64 k, .slice (some ⟨g7, 0, none⟩) 0 0])) rfl (by kernel_rfl) (fun _ _ _ h => h) (by rfl) ?_ (HM.out.S HS0.out) ?_
      · (intro w hSw; obtain ⟨s0, s1⟩ := hSw; go_simp)
      (try simp only [Act.put, List.setIfInBounds_toArray, List.set_cons_zero, List.set_cons_succ])
    case' b107 =>
     go_simp
     replace HM := (show Hid (Mc _ _ _ _ _ _ _ _ _) from HM.out.mk4)
     refine hK.out _ _ (fun _ => HM.out.S HS0.out) ?_
     (try simp only [Act.put, List.setIfInBounds_toArray, List.set_cons_zero, List.set_cons_succ])
     clear hK
     generalize W2.alloc (.cells #[] 64) = W3 at HM ⊢
     generalize W2.heap.size = g4 at HM ⊢
     refine till_two (i := 3) (j := 9) rfl rfl (by kernel_rfl) (fun K hK => ?b113) (fun K hK => ?b114)
     case' b113 =>
      refine step_append_src (by rfl) _ _ 28 (by rfl) V.heap.size 44 i0 (.agg #[.int .i64 0, .int .i64 0, .int .i64 0]) 3 24 Try.underlying28 hi0 hz0 hz1 hz2 rfl (by decide) _ 0 [] (by rfl) (HM.out.p0 _ rfl) aa cs.length ca (cs.flatMap ceC) (by rfl) HL.out.1 (HM.out.src HSR.out) HL.out.2 (by unfold maxLen; omega) (by omega) HM.out.bel.size ?_
      intro v3 W4 hown hgrow
      replace HM := (show Hid (Mc _ _ _ _ _ _ _ _ _) from HM.out.app3 hown hgrow)
      clear hown hgrow
      obtain ⟨a3, k3, hv3, _⟩ := own_shape (HM.out.p3 _ rfl)
      subst hv3
      refine hK.out _ _ (fun _ => HM.out.S HS0.out) ?_
      (try simp only [Act.put, List.setIfInBounds_toArray, List.set_cons_zero, List.set_cons_succ])
      clear hK
      refine till_take (i := 8) (v := (.agg #[.slice a3 cs.length k3, .slice (some ⟨g4, 0, none⟩) 0 0, .int .i64 k, .slice (some ⟨g7, 0, none⟩) 0 0])) rfl (by kernel_rfl) (fun _ _ _ h => h) (by rfl) ?_ (HM.out.S HS0.out) ?_
      · (intro w hSw; obtain ⟨s0, s1⟩ := hSw; go_simp)
      (try simp only [Act.put, List.setIfInBounds_toArray, List.set_cons_zero, List.set_cons_succ])
      refine till_step (i := 9) rfl (by kernel_rfl) (fun K hK => ?_)
      go_simp
      replace HM := (show Hid (Mc _ _ _ _ _ _ _ _ _) from HM.out.mk9)
      refine hK.out _ _ (fun _ => HM.out.S HS0.out) ?_
      (try simp only [Act.put, List.setIfInBounds_toArray, List.set_cons_zero, List.set_cons_succ])
      clear hK
      generalize W4.alloc (.cells #[.slice none 0 0, .slice none 0 0, .int .i64 0, .slice none 0 0] 32) = W5 at HM ⊢
      generalize W4.heap.size = g9 at HM ⊢
     case' b114 =>
      go_simp
      replace HM := (show Hid (Mc _ _ _ _ _ _ _ _ _) from HM.out.mk9)
      refine hK.out _ _ (fun _ => HM.out.S HS0.out) ?_
      (try simp only [Act.put, List.setIfInBounds_toArray, List.set_cons_zero, List.set_cons_succ])
      clear hK
      generalize W3.alloc (.cells #[.slice none 0 0, .slice none 0 0, .int .i64 0, .slice none 0 0] 32) = W4 at HM ⊢
      generalize W3.heap.size = g9 at HM ⊢
      refine till_step (i := 3) rfl (by kernel_rfl) (fun K hK => ?_)
      refine step_append_src (by rfl) _ _ 28 (by rfl) V.heap.size 44 i0 (.agg #[.int .i64 0, .int .i64 0, .int .i64 0]) 3 24 Try.underlying28 hi0 hz0 hz1 hz2 rfl (by decide) _ 0 [] (by rfl) (HM.out.p0 _ rfl) aa cs.length ca (cs.flatMap ceC) (by rfl) HL.out.1 (HM.out.src HSR.out) HL.out.2 (by unfold maxLen; omega) (by omega) HM.out.bel.size ?_
      intro v3 W5 hown hgrow
      replace HM := (show Hid (Mc _ _ _ _ _ _ _ _ _) from HM.out.app3 hown hgrow)
      clear hown hgrow
      obtain ⟨a3, k3, hv3, _⟩ := own_shape (HM.out.p3 _ rfl)
      subst hv3
      refine hK.out _ _ (fun _ => HM.out.S HS0.out) ?_
      (try simp only [Act.put, List.setIfInBounds_toArray, List.set_cons_zero, List.set_cons_succ])
      clear hK
      refine till_take (i := 8) (v := (.agg #[.slice a3 cs.length k3, .slice (some ⟨g4, 0, none⟩) 0 0, .int .i64 k, .slice (some ⟨g7, 0, none⟩) 0 0])) rfl (by kernel_rfl) (fun _ _ _ h => h) (by rfl) ?_ (HM.out.S HS0.out) ?_
      · (intro w hSw; obtain ⟨s0, s1⟩ := hSw; go_simp)
      (try simp only [Act.put, List.setIfInBounds_toArray, List.set_cons_zero, List.set_cons_succ])
    case' b108 =>
     go_simp
     replace HM := (show Hid (Mc _ _ _ _ _ _ _ _ _) from HM.out.mk9)
     refine hK.out _ _ (fun _ => HM.out.S HS0.out) ?_
     (try simp only [Act.put, List.setIfInBounds_toArray, List.set_cons_zero, List.set_cons_succ])
     clear hK
     generalize W2.alloc (.cells #[.slice none 0 0, .slice none 0 0, .int .i64 0, .slice none 0 0] 32) = W3 at HM ⊢
     generalize W2.heap.size = g9 at HM ⊢
     refine till_two (i := 3) (j := 4) rfl rfl (by kernel_rfl) (fun K hK => ?b117) (fun K hK => ?b118)
     case' b117 =>
      refine step_append_src (by rfl) _ _ 28 (by rfl) V.heap.size 44 i0 (.agg #[.int .i64 0, .int .i64 0, .int .i64 0]) 3 24 Try.underlying28 hi0 hz0 hz1 hz2 rfl (by decide) _ 0 [] (by rfl) (HM.out.p0 _ rfl) aa cs.length ca (cs.flatMap ceC) (by rfl) HL.out.1 (HM.out.src HSR.out) HL.out.2 (by unfold maxLen; omega) (by omega) HM.out.bel.size ?_
      intro v3 W4 hown hgrow
      replace HM := (show Hid (Mc _ _ _ _ _ _ _ _ _) from HM.out.app3 hown hgrow)
      clear hown hgrow
      obtain ⟨a3, k3, hv3, _⟩ := own_shape (HM.out.p3 _ rfl)
      subst hv3
      refine hK.out _ _ (fun _ => HM.out.S HS0.out) ?_
      (try simp only [Act.put, List.setIfInBounds_toArray, List.set_cons_zero, List.set_cons_succ])
      clear hK
      refine till_step (i := 4) rfl (by kernel_rfl) (fun K hK => ?_)
      go_simp
      replace HM := (show Hid (Mc _ _ _ _ _ _ _ _ _) from HM.out.mk4)
      refine hK.out _ _ (fun _ => HM.out.S HS0.out) ?_
      (try simp only [Act.put, List.setIfInBounds_toArray, List.set_cons_zero, List.set_cons_succ])
      clear hK
      generalize W4.alloc (.cells #[] 64) = W5 at HM ⊢
      generalize W4.heap.size = g4 at HM ⊢
      refine till_take (i := 8) (v := (.agg #[.slice a3 cs.length k3, .slice (some ⟨g4, 0, none⟩) 0 0, .int .i64 k, .slice (some ⟨g7, 0, none⟩) 0 0])) rfl (by kernel_rfl) (fun _ _ _ h => h) (by rfl) ?_ (HM.out.S HS0.out) ?_
      · (intro w hSw; obtain ⟨s0, s1⟩ := hSw; go_simp)
      (try simp only [Act.put, List.setIfInBounds_toArray, List.set_cons_zero, List.set_cons_succ])
     case' b118 =>
      go_simp
      replace HM := (show Hid (Mc _ _ _ _ _ _ _ _ _) from HM.out.mk4)
      refine hK.out _ _ (fun _ => HM.out.S HS0.out) ?_
      (try simp only [Act.put, List.setIfInBounds_toArray, List.set_cons_zero, List.set_cons_succ])
      clear hK
      generalize W3.alloc (.cells #[] 64) = W4 at HM ⊢
      generalize W3.heap.size = g4 at HM ⊢
      refine till_step (i := 3) rfl (by kernel_rfl) (fun K hK => ?_)
      refine step_append_src (by rfl) _ _ 28 (by rfl) V.heap.size 44 i0 (.agg #[.int .i64 0, .int .i64 0, .int .i64 0]) 3 24 Try.underlying28 hi0 hz0 hz1 hz2 rfl (by decide) _ 0 [] (by rfl) (HM.out.p0 _ rfl) aa cs.length ca (cs.flatMap ceC) (by rfl) HL.out.1 (HM.out.src HSR.out) HL.out.2 (by unfold maxLen; omega) (by omega) HM.out.bel.size ?_
      intro v3 W5 hown hgrow
      replace HM := (show Hid (Mc _ _ _ _ _ _ _ _ _) from HM.out.app3 hown hgrow)
      clear hown hgrow
      obtain ⟨a3, k3, hv3, _⟩ := own_shape (HM.out.p3 _ rfl)
      subst hv3
      refine hK.out _ _ (fun _ => HM.out.S HS0.out) ?_
      (try simp only [Act.put, List.setIfInBounds_toArray, List.set_cons_zero, List.set_cons_succ])
      clear hK
      refine till_take (i := 8) (v := (.agg #[.slice a3 cs.length k3, .slice (some ⟨g4, 0, none⟩) 0 0, .int .i64 k, .slice (some ⟨g7, 0, none⟩) 0 0])) rfl (by kernel_rfl) (fun _ _ _ h => h) (by rfl) ?_ (HM.out.S HS0.out) ?_
      · (intro w hSw; obtain ⟨s0, s1⟩ := hSw; go_simp)
      (try simp only [Act.put, List.setIfInBounds_toArray, List.set_cons_zero, List.set_cons_succ])
   case' b104 =>
    go_simp
    replace HM := (show Hid (Mc _ _ _ _ _ _ _ _ _) from HM.out.mk4)
    refine hK.out _ _ (fun _ => HM.out.S HS0.out) ?_
    (try simp only [Act.put, List.setIfInBounds_toArray, List.set_cons_zero, List.set_cons_succ])
    clear hK
    generalize W1.alloc (.cells #[] 64) = W2 at HM ⊢
    generalize W1.heap.size = g4 at HM ⊢
    refine till_two (i := 0) (j := 9) rfl rfl (by kernel_rfl) (fun K hK => ?b121) (fun K hK => ?b122)
    case' b121 =>
     go_simp
     replace HM := (show Hid (Mc _ _ _ _ _ _ _ _ _) from HM.out.mk0)
     refine hK.out _ _ (fun _ => HM.out.S HS0.out) ?_
     (try simp only [Act.put, List.setIfInBounds_toArray, List.set_cons_zero, List.set_cons_succ])
     clear hK
     generalize W2.alloc (.cells #[] 44) = W3 at HM ⊢
     generalize W2.heap.size = g0 at HM ⊢
     refine till_two (i := 3) (j := 9) rfl rfl (by kernel_rfl) (fun K hK => ?b123) (fun K hK => ?b124)
     case' b123 =>
      refine step_append_src (by rfl) _ _ 28 (by rfl) V.heap.size 44 i0 (.agg #[.int .i64 0, .int .i64 0, .int .i64 0]) 3 24 Try.underlying28 hi0 hz0 hz1 hz2 rfl (by decide) _ 0 [] (by rfl) (HM.out.p0 _ rfl) aa cs.length ca (cs.flatMap ceC) (by rfl) HL.out.1 (HM.out.src HSR.out) HL.out.2 (by unfold maxLen; omega) (by omega) HM.out.bel.size ?_
      intro v3 W4 hown hgrow
      replace HM := (show Hid (Mc _ _ _ _ _ _ _ _ _) from HM.out.app3 hown hgrow)
      clear hown hgrow
      obtain ⟨a3, k3, hv3, _⟩ := own_shape (HM.out.p3 _ rfl)
      subst hv3
      refine hK.out _ _ (fun _ => HM.out.S HS0.out) ?_
      (try simp only [Act.put, List.setIfInBounds_toArray, List.set_cons_zero, List.set_cons_succ])
      clear hK
      refine till_take (i := 8) (v := (.agg #[.slice a3 cs.length k3, .slice (some ⟨g4, 0, none⟩) 0 0, .int .i64 k, .slice (some ⟨g7, 0, none⟩) 0 0])) rfl (by kernel_rfl) (fun _ _ _ h => h) (by rfl) ?_ (HM.out.S HS0.out) ?_
      · (intro w hSw; obtain ⟨s0, s1⟩ := hSw; go_simp)
      (try simp only [Act.put, List.setIfInBounds_toArray, List.set_cons_zero, List.set_cons_succ])
      refine till_step (i := 9) rfl (by kernel_rfl) (fun K hK => ?_)
      go_simp
      replace HM := (show Hid (Mc _ _ _ _ _ _ _ _ _) from HM.out.mk9)
      refine hK.out _ _ (fun _ => HM.out.S HS0.out) ?_
      (try simp only [Act.put, List.setIfInBounds_toArray, List.set_cons_zero, List.set_cons_succ])
      clear hK
      generalize W4.alloc (.cells #[.slice none 0 0, .slice none 0 0, .int .i64 0, .slice none 0 0] 32) = W5 at HM ⊢
      generalize W4.heap.size = g9 at HM ⊢
     case' b124 =>
      go_simp
      replace HM := (show Hid (Mc _ _ _ _ _ _ _ _ _) from HM.out.mk9)
      refine hK.out _ _ (fun _ => HM.out.S HS0.out) ?_
      (try simp only [Act.put, List.setIfInBounds_toArray, List.set_cons_zero, List.set_cons_succ])
      clear hK
      generalize W3.alloc (.cells #[.slice none 0 0, .slice none 0 0, .int .i64 0, .slice none 0 0] 32) = W4 at HM ⊢
      generalize W3.heap.size = g9 at HM ⊢
      refine till_step (i := 3) rfl (by kernel_rfl) (fun K hK => ?_)
      refine step_append_src (by rfl) _ _ 28 (by rfl) V.heap.size 44 i0 (.agg #[.int .i64 0, .int .i64 0, .int .i64 0]) 3 24 Try.underlying28 hi0 hz0 hz1 hz2 rfl (by decide) _ 0 [] (by rfl) (HM.out.p0 _ rfl) aa cs.length ca (cs.flatMap ceC) (by rfl) HL.out.1 (HM.out.src HSR.out) HL.out.2 (by unfold maxLen; omega) (by omega) HM.out.bel.size ?_
      intro v3 W5 hown hgrow
      replace HM := (show Hid (Mc _ _ _ _ _ _ _ _ _) from HM.out.app3 hown hgrow)
      clear hown hgrow
      obtain ⟨a3, k3, hv3, _⟩ := own_shape (HM.out.p3 _ rfl)
      subst hv3
      refine hK.out _ _ (fun _ => HM.out.S HS0.out) ?_
      (try simp only [Act.put, List.setIfInBounds_toArray, List.set_cons_zero, List.set_cons_succ])
      clear hK
      refine till_take (i := 8) (v := (.agg #[.slice a3 cs.length k3, .slice (some ⟨g4, 0, none⟩) 0 0, .int .i64 k, .slice (some ⟨g7, 0, none⟩) 0 0])) rfl (by kernel_rfl) (fun _ _ _ h => h) (by rfl) ?_ (HM.out.S HS0.out) ?_
      · (intro w hSw; obtain ⟨s0, s1⟩ := hSw; go_simp)
      (try simp only [Act.put, List.setIfInBounds_toArray, List.set_cons_zero, List.set_cons_succ])
    case' b122 =>
     go_simp
     replace HM := (show Hid (Mc _ _ _ _ _ _ _ _ _) from HM.out.mk9)
     refine hK.out _ _ (fun _ => HM.out.S HS0.out) ?_
     (try simp only [Act.put, List.setIfInBounds_toArray, List.set_cons_zero, List.set_cons_succ])
     clear hK
     generalize W2.alloc (.cells #[.slice none 0 0, .slice none 0 0, .int .i64 0, .slice none 0 0] 32) = W3 at HM ⊢
     generalize W2.heap.size = g9 at HM ⊢
     refine till_step (i := 0) rfl (by kernel_rfl) (fun K hK => ?_)
     go_simp
     replace HM := (show Hid (Mc _ _ _ _ _ _ _ _ _) from HM.out.mk0)
     refine hK.out _ _ (fun _ => HM.out.S HS0.out) ?_
     (try simp only [Act.put, List.setIfInBounds_toArray, List.set_cons_zero, List.set_cons_succ])
     clear hK
     generalize W3.alloc (.cells #[] 44) = W4 at HM ⊢
     generalize W3.heap.size = g0 at HM ⊢
     refine till_step (i := 3) rfl (by kernel_rfl) (fun K hK => ?_)
     refine step_append_src (by rfl) _ _ 28 (by rfl) V.heap.size 44 i0 (.agg #[.int .i64 0, .int .i64 0, .int .i64 0]) 3 24 Try.underlying28 hi0 hz0 hz1 hz2 rfl (by decide) _ 0 [] (by rfl) (HM.out.p0 _ rfl) aa cs.length ca (cs.flatMap ceC) (by rfl) HL.out.1 (HM.out.src HSR.out) HL.out.2 (by unfold maxLen; omega) (by omega) HM.out.bel.size ?_
     intro v3 W5 hown hgrow
     replace HM := (show Hid (Mc _ _ _ _ _ _ _ _ _) from HM.out.app3 hown hgrow)
     clear hown hgrow
     obtain ⟨a3, k3, hv3, _⟩ := own_shape (HM.out.p3 _ rfl)
     subst hv3
     refine hK.out _ _ (fun _ => HM.out.S HS0.out) ?_
     (try simp only [Act.put, List.setIfInBounds_toArray, List.set_cons_zero, List.set_cons_succ])
     clear hK
     refine till_take (i := 8) (v := (.agg #[.slice a3 cs.length k3, .slice (some ⟨g4, 0, none⟩) 0 0, .int .i64 k, .slice (some ⟨g7, 0, none⟩) 0 0])) rfl (by kernel_rfl) (fun _ _ _ h => h) (by rfl) ?_ (HM.out.S HS0.out) ?_
     · (intro w hSw; obtain ⟨s0, s1⟩ := hSw; go_simp)
     (try simp only [Act.put, List.setIfInBounds_toArray, List.set_cons_zero, List.set_cons_succ])
   case' b105 =>
    go_simp
    replace HM := (show Hid (Mc _ _ _ _ _ _ _ _ _) from HM.out.mk9)
    refine hK.out _ _ (fun _ => HM.out.S HS0.out) ?_
    (try simp only [Act.put, List.setIfInBounds_toArray, List.set_cons_zero, List.set_cons_succ])
    clear hK
    generalize W1.alloc (.cells #[.slice none 0 0, .slice none 0 0, .int .i64 0, .slice none 0 0] 32) = W2 at HM ⊢
    generalize W1.heap.size = g9 at HM ⊢
    refine till_two (i := 0) (j := 4) rfl rfl (by kernel_rfl) (fun K hK => ?b129) (fun K hK => ?b130)
    case' b129 =>
     go_simp
     replace HM := (show Hid (Mc _ _ _ _ _ _ _ _ _) from HM.out.mk0)
     refine hK.out _ _ (fun _ => HM.out.S HS0.out) ?_
     (try simp only [Act.put, List.setIfInBounds_toArray, List.set_cons_zero, List.set_cons_succ])
     clear hK
     generalize W2.alloc (.cells #[] 44) = W3 at HM ⊢
     generalize W2.heap.size = g0 at HM ⊢
     refine till_two (i := 3) (j := 4) rfl rfl (by kernel_rfl) (fun K hK => ?b131) (fun K hK => ?b132)
     case' b131 =>
      refine step_append_src (by rfl) _ _ 28 (by rfl) V.heap.size 44 i0 (.agg #[.int .i64 0, .int .i64 0, .int .i64 0]) 3 24 Try.underlying28 hi0 hz0 hz1 hz2 rfl (by decide) _ 0 [] (by rfl) (HM.out.p0 _ rfl) aa cs.length ca (cs.flatMap ceC) (by rfl) HL.out.1 (HM.out.src HSR.out) HL.out.2 (by unfold maxLen; omega) (by omega) HM.out.bel.size ?_
      intro v3 W4 hown hgrow
      replace HM := (show Hid (Mc _ _ _ _ _ _ _ _ _) from HM.out.app3 hown hgrow)
      clear hown hgrow
      obtain ⟨a3, k3, hv3, _⟩ := own_shape (HM.out.p3 _ rfl)
      subst hv3
      refine hK.out _ _ (fun _ => HM.out.S HS0.out) ?_
      (try simp only [Act.put, List.setIfInBounds_toArray, List.set_cons_zero, List.set_cons_succ])
      clear hK
      refine till_step (i := 4) rfl (by kernel_rfl) (fun K hK => ?_)
      go_simp
      replace HM := (show Hid (Mc _ _ _ _ _ _ _ _ _) from HM.out.mk4)
      refine hK.out _ _ (fun _ => HM.out.S HS0.out) ?_
      (try simp only [Act.put, List.setIfInBounds_toArray, List.set_cons_zero, List.set_cons_succ])
      clear hK
      generalize W4.alloc (.cells #[] 64) = W5 at HM ⊢
      generalize W4.heap.size = g4 at HM ⊢
      refine till_take (i := 8) (v := (.agg #[.slice a3 cs.length k3, .slice (some ⟨g4, 0, none⟩) 0 0, .int .i64 k, .slice (some ⟨g7, 0, none⟩) 0 0])) rfl (by kernel_rfl) (fun _ _ _ h => h) (by rfl) ?_ (HM.out.S HS0.out) ?_
      · (intro w hSw; obtain ⟨s0, s1⟩ := hSw; go_simp)
      (try simp only [Act.put, List.setIfInBounds_toArray, List.set_cons_zero, List.set_cons_succ])
     case' b132 =>
      go_simp
      replace HM := (show Hid (Mc _ _ _ _ _ _ _ _ _) from HM.out.mk4)
      refine hK.out _ _ (fun _ => HM.out.S HS0.out) ?_
      (try simp only [Act.put, List.setIfInBounds_toArray, List.set_cons_zero, List.set_cons_succ])
      clear hK
      generalize W3.alloc (.cells #[] 64) = W4 at HM ⊢
      generalize W3.heap.size = g4 at HM ⊢
      refine till_step (i := 3) rfl (by kernel_rfl) (fun K hK => ?_)
      refine step_append_src (by rfl) _ _ 28 (by rfl) V.heap.size 44 i0 (.agg #[.int .i64 0, .int .i64 0, .int .i64 0]) 3 24 Try.underlying28 hi0 hz0 hz1 hz2 rfl (by decide) _ 0 [] (by rfl) (HM.out.p0 _ rfl) aa cs.length ca (cs.flatMap ceC) (by rfl) HL.out.1 (HM.out.src HSR.out) HL.out.2 (by unfold maxLen; omega) (by omega) HM.out.bel.size ?_
      intro v3 W5 hown hgrow
      replace HM := (show Hid (Mc _ _ _ _ _ _ _ _ _) from HM.out.app3 hown hgrow)
      clear hown hgrow
      obtain ⟨a3, k3, hv3, _⟩ := own_shape (HM.out.p3 _ rfl)
      subst hv3
      refine hK.out _ _ (fun _ => HM.out.S HS0.out) ?_
      (try simp only [Act.put, List.setIfInBounds_toArray, List.set_cons_zero, List.set_cons_succ])
      clear hK
      refine till_take (i := 8) (v := (.agg #[.slice a3 cs.length k3, .slice (some ⟨g4, 0, none⟩) 0 0, .int .i64 k, .slice (some ⟨g7, 0, none⟩) 0 0])) rfl (by kernel_rfl) (fun _ _ _ h => h) (by rfl) ?_ (HM.out.S HS0.out) ?_
      · (intro w hSw; obtain ⟨s0, s1⟩ := hSw; go_simp)
      (try simp only [Act.put, List.setIfInBounds_toArray, List.set_cons_zero, List.set_cons_succ])
    case' b130 =>
     go_simp
     replace HM := (show Hid (Mc _ _ _ _ _ _ _ _ _) from HM.out.mk4)
     refine hK.out _ _ (fun _ => HM.out.S HS0.out) ?_
     (try simp only [Act.put, List.setIfInBounds_toArray, List.set_cons_zero, List.set_cons_succ])
     clear hK
     generalize W2.alloc (.cells #[] 64) = W3 at HM ⊢
     generalize W2.heap.size = g4 at HM ⊢
     refine till_step (i := 0) rfl (by kernel_rfl) (fun K hK => ?_)
     go_simp
     replace HM := (show Hid (Mc _ _ _ _ _ _ _ _ _) from HM.out.mk0)
     refine hK.out _ _ (fun _ => HM.out.S HS0.out) ?_
     (try simp only [Act.put, List.setIfInBounds_toArray, List.set_cons_zero, List.set_cons_succ])
     clear hK
     generalize W3.alloc (.cells #[] 44) = W4 at HM ⊢
     generalize W3.heap.size = g0 at HM ⊢
     refine till_step (i := 3) rfl (by kernel_rfl) (fun K hK => ?_)
     refine step_append_src (by rfl) _ _ 28 (by rfl) V.heap.size 44 i0 (.agg #[.int .i64 0, .int .i64 0, .int .i64 0]) 3 24 Try.underlying28 hi0 hz0 hz1 hz2 rfl (by decide) _ 0 [] (by rfl) (HM.out.p0 _ rfl) aa cs.length ca (cs.flatMap ceC) (by rfl) HL.out.1 (HM.out.src HSR.out) HL.out.2 (by unfold maxLen; omega) (by omega) HM.out.bel.size ?_
     intro v3 W5 hown hgrow
     replace HM := (show Hid (Mc _ _ _ _ _ _ _ _ _) from HM.out.app3 hown hgrow)
     clear hown hgrow
     obtain ⟨a3, k3, hv3, _⟩ := own_shape (HM.out.p3 _ rfl)
     subst hv3
     refine hK.out _ _ (fun _ => HM.out.S HS0.out) ?_
     (try simp only [Act.put, List.setIfInBounds_toArray, List.set_cons_zero, List.set_cons_succ])
     clear hK
     refine till_take (i := 8) (v := (.agg #[.slice a3 cs.length k3, .slice (some ⟨g4, 0, none⟩) 0 0, .int .i64 k, .slice (some ⟨g7, 0, none⟩) 0 0])) rfl (by kernel_rfl) (fun _ _ _ h => h) (by rfl) ?_ (HM.out.S HS0.out) ?_
     · (intro w hSw; obtain ⟨s0, s1⟩ := hSw; go_simp)
     (try simp only [Act.put, List.setIfInBounds_toArray, List.set_cons_zero, List.set_cons_succ])
  case' b4 =>
   go_simp
   replace HM := (show Hid (Mc _ _ _ _ _ _ _ _ _) from HM.out.mk9)
   refine hK.out _ _ (fun _ => HM.out.S HS0.out) ?_
   (try simp only [Act.put, List.setIfInBounds_toArray, List.set_cons_zero, List.set_cons_succ])
   clear hK
   generalize W0.alloc (.cells #[.slice none 0 0, .slice none 0 0, .int .i64 0, .slice none 0 0] 32) = W1 at HM ⊢
   generalize W0.heap.size = g9 at HM ⊢
   refine till_three (i := 0) (j := 4) (m := 7) rfl rfl rfl (by kernel_rfl) (fun K hK => ?b137) (fun K hK => ?b138) (fun K hK => ?b139)
   case' b137 =>
    go_simp
    replace HM := (show Hid (Mc _ _ _ _ _ _ _ _ _) from HM.out.mk0)
    refine hK.out _ _ (fun _ => HM.out.S HS0.out) ?_
    (try simp only [Act.put, List.setIfInBounds_toArray, List.set_cons_zero, List.set_cons_succ])
    clear hK
    generalize W1.alloc (.cells #[] 44) = W2 at HM ⊢
    generalize W1.heap.size = g0 at HM ⊢
    refine till_three (i := 3) (j := 4) (m := 7) rfl rfl rfl (by kernel_rfl) (fun K hK => ?b140) (fun K hK => ?b141) (fun K hK => ?b142)
    case' b140 =>
     refine step_append_src (by rfl) _ _ 28 (by rfl) V.heap.size 44 i0 (.agg #[.int .i64 0, .int .i64 0, .int .i64 0]) 3 24 Try.underlying28 hi0 hz0 hz1 hz2 rfl (by decide) _ 0 [] (by rfl) (HM.out.p0 _ rfl) aa cs.length ca (cs.flatMap ceC) (by rfl) HL.out.1 (HM.out.src HSR.out) HL.out.2 (by unfold maxLen; omega) (by omega) HM.out.bel.size ?_
     intro v3 W3 hown hgrow
     replace HM := (show Hid (Mc _ _ _ _ _ _ _ _ _) from HM.out.app3 hown hgrow)
     clear hown hgrow
     obtain ⟨a3, k3, hv3, _⟩ := own_shape (HM.out.p3 _ rfl)
     subst hv3
     refine hK.out _ _ (fun _ => HM.out.S HS0.out) ?_
     (try simp only [Act.put, List.setIfInBounds_toArray, List.set_cons_zero, List.set_cons_succ])
     clear hK
     refine till_two (i := 4) (j := 7) rfl rfl (by kernel_rfl) (fun K hK => ?b143) (fun K hK => ?b144)
     case' b143 =>
      go_simp
      replace HM := (show Hid (Mc _ _ _ _ _ _ _ _ _) from HM.out.mk4)
      refine hK.out _ _ (fun _ => HM.out.S HS0.out) ?_
      (try simp only [Act.put, List.setIfInBounds_toArray, List.set_cons_zero, List.set_cons_succ])
      clear hK
      generalize W3.alloc (.cells #[] 64) = W4 at HM ⊢
      generalize W3.heap.size = g4 at HM ⊢
      refine till_step (i := 7) rfl (by kernel_rfl) (fun K hK => ?_)
      go_simp
      replace HM := (show Hid (Mc _ _ _ _ _ _ _ _ _) from HM.out.mk7)
      refine hK.out _ _ (fun _ => HM.out.S HS0.out) ?_
      (try simp only [Act.put, List.setIfInBounds_toArray, List.set_cons_zero, List.set_cons_succ])
      clear hK
      generalize W4.alloc (.cells #[] 56) = W5 at HM ⊢
      generalize W4.heap.size = g7 at HM ⊢
      refine till_take (i := 8) (v := (.agg #[.slice a3 cs.length k3, .slice (some ⟨g4, 0, none⟩) 0 0, .int .i64 k, .slice (some ⟨g7, 0, none⟩) 0 0])) rfl (by kernel_rfl) (fun _ _ _ h => h) (by rfl) ?_ (HM.out.S HS0.out) ?_
      · (intro w hSw; obtain ⟨s0, s1⟩ := hSw; go_simp)
      (try simp only [Act.put, List.setIfInBounds_toArray, List.set_cons_zero, List.set_cons_succ])
     case' b144 =>
      go_simp
      replace HM := (show Hid (Mc _ _ _ _ _ _ _ _ _) from HM.out.mk7)
      refine hK.out _ _ (fun _ => HM.out.S HS0.out) ?_
      (try simp only [Act.put, List.setIfInBounds_toArray, List.set_cons_zero, List.set_cons_succ])
      clear hK
      generalize W3.alloc (.cells #[] 56) = W4 at HM ⊢
      generalize W3.heap.size = g7 at HM ⊢
      refine till_step (i := 4) rfl (by kernel_rfl) (fun K hK => ?_)
      go_simp
      replace HM := (show Hid (Mc _ _ _ _ _ _ _ _ _) from HM.out.mk4)
      refine hK.out _ _ (fun _ => HM.out.S HS0.out) ?_
      (try simp only [Act.put, List.setIfInBounds_toArray, List.set_cons_zero, List.set_cons_succ])
      clear hK
      generalize W4.alloc (.cells #[] 64) = W5 at HM ⊢
      generalize W4.heap.size = g4 at HM ⊢
      refine till_take (i := 8) (v := (.agg #[.slice a3 cs.length k3, .slice (some ⟨g4, 0, none⟩) 0 0, .int .i64 k, .slice (some ⟨g7, 0, none⟩) 0 0])) rfl (by kernel_rfl) (fun _ _ _ h => h) (by rfl) ?_ (HM.out.S HS0.out) ?_
      · (intro w hSw; obtain ⟨s0, s1⟩ := hSw; go_simp)
      (try simp only [Act.put, List.setIfInBounds_toArray, List.set_cons_zero, List.set_cons_succ])
    case' b141 =>
     go_simp
     replace HM := (show Hid (Mc _ _ _ _ _ _ _ _ _) from HM.out.mk4)
     refine hK.out _ _ (fun _ => HM.out.S HS0.out) ?_
     (try simp only [Act.put, List.setIfInBounds_toArray, List.set_cons_zero, List.set_cons_succ])
     clear hK
     generalize W2.alloc (.cells #[] 64) = W3 at HM ⊢
     generalize W2.heap.size = g4 at HM ⊢
     refine till_two (i := 3) (j := 7) rfl rfl (by kernel_rfl) (fun K hK => ?b147) (fun K hK => ?b148)
     case' b147 =>
      refine step_append_src (by rfl) _ _ 28 (by rfl) V.heap.size 44 i0 (.agg #[.int .i64 0, .int .i64 0, .int .i64 0]) 3 24 Try.underlying28 hi0 hz0 hz1 hz2 rfl (by decide) _ 0 [] (by rfl) (HM.out.p0 _ rfl) aa cs.length ca (cs.flatMap ceC) (by rfl) HL.out.1 (HM.out.src HSR.out) HL.out.2 (by unfold maxLen; omega) (by omega) HM.out.bel.size ?_
      intro v3 W4 hown hgrow
      replace HM := (show Hid (Mc _ _ _ _ _ _ _ _ _) from HM.out.app3 hown hgrow)
      clear hown hgrow
      obtain ⟨a3, k3, hv3, _⟩ := own_shape (HM.out.p3 _ rfl)
      subst hv3
      refine hK.out _ _ (fun _ => HM.out.S HS0.out) ?_
      (try simp only [Act.put, List.setIfInBounds_toArray, List.set_cons_zero, List.set_cons_succ])
      clear hK
      refine till_step (i := 7) rfl (by kernel_rfl) (fun K hK => ?_)
      go_simp
      replace HM := (show Hid (Mc _ _ _ _ _ _ _ _ _) from HM.out.mk7)
      refine hK.out _ _ (fun _ => HM.out.S HS0.out) ?_
      (try simp only [Act.put, List.setIfInBounds_toArray, List.set_cons_zero, List.set_cons_succ])
      clear hK
      generalize W4.alloc (.cells #[] 56) = W5 at HM ⊢
      generalize W4.heap.size = g7 at HM ⊢
      refine till_take (i := 8) (v := (.agg #[.slice a3 cs.length k3, .slice (some ⟨g4, 0, none⟩) 0 0, .int .i64 k, .slice (some ⟨g7, 0, none⟩) 0 0])) rfl (by kernel_rfl) (fun _ _ _ h => h) (by rfl) ?_ (HM.out.S HS0.out) ?_
      · (intro w hSw; obtain ⟨s0, s1⟩ := hSw; go_simp)
      (try simp only [Act.put, List.setIfInBounds_toArray, List.set_cons_zero, List.set_cons_succ])
     case' b148 =>
      go_simp
      replace HM := (show Hid (Mc _ _ _ _ _ _ _ _ _) from HM.out.mk7)
      refine hK.out _ _ (fun _ => HM.out.S HS0.out) ?_
      (try simp only [Act.put, List.setIfInBounds_toArray, List.set_cons_zero, List.set_cons_succ])
      clear hK
      generalize W3.alloc (.cells #[] 56) = W4 at HM ⊢
      generalize W3.heap.size = g7 at HM ⊢
      refine till_step (i := 3) rfl (by kernel_rfl) (fun K hK => ?_)
      refine step_append_src (by rfl) _ _ 28 (by rfl) V.heap.size 44 i0 (.agg #[.int .i64 0, .int .i64 0, .int .i64 0]) 3 24 Try.underlying28 hi0 hz0 hz1 hz2 rfl (by decide) _ 0 [] (by rfl) (HM.out.p0 _ rfl) aa cs.length ca (cs.flatMap ceC) (by rfl) HL.out.1 (HM.out.src HSR.out) HL.out.2 (by unfold maxLen; omega) (by omega) HM.out.bel.size ?_
      intro v3 W5 hown hgrow
      replace HM := (show Hid (Mc _ _ _ _ _ _ _ _ _) from HM.out.app3 hown hgrow)
      clear hown hgrow
      obtain ⟨a3, k3, hv3, _⟩ := own_shape (HM.out.p3 _ rfl)
      subst hv3
      refine hK.out _ _ (fun _ => HM.out.S HS0.out) ?_
      (try simp only [Act.put, List.setIfInBounds_toArray, List.set_cons_zero, List.set_cons_succ])
      clear hK
      refine till_take (i := 8) (v := (.agg #[.slice a3 cs.length k3, .slice (some ⟨g4, 0, none⟩) 0 0, .int .i64 k, .slice (some ⟨g7, 0, none⟩) 0 0])) rfl (by kernel_rfl) (fun _ _ _ h => h) (by rfl) ?_ (HM.out.S HS0.out) ?_
      · (intro w hSw; obtain ⟨s0, s1⟩ := hSw; go_simp)
      (try simp only [Act.put, List.setIfInBounds_toArray, List.set_cons_zero, List.set_cons_succ])
    case' b142 =>
     go_simp
     replace HM := (show Hid (Mc _ _ _ _ _ _ _ _ _) from HM.out.mk7)
     refine hK.out _ _ (fun _ => HM.out.S HS0.out) ?_
     (try simp only [Act.put, List.setIfInBounds_toArray, List.set_cons_zero, List.set_cons_succ])
     clear hK
     generalize W2.alloc (.cells #[] 56) = W3 at HM ⊢
     generalize W2.heap.size = g7 at HM ⊢
     refine till_two (i := 3) (j := 4) rfl rfl (by kernel_rfl) (fun K hK => ?b151) (fun K hK => ?b152)
     case' b151 =>
      refine step_append_src (by rfl) _ _ 28 (by rfl) V.heap.size 44 i0 (.agg #[.int .i64 0, .int .i64 0, .int .i64 0]) 3 24 Try.underlying28 hi0 hz0 hz1 hz2 rfl (by decide) _ 0 [] (by rfl) (HM.out.p0 _ rfl) aa cs.length ca (cs.flatMap ceC) (by rfl) HL.out.1 (HM.out.src HSR.out) HL.out.2 (by unfold maxLen; omega) (by omega) HM.out.bel.size ?_
      intro v3 W4 hown hgrow
      replace HM := (show Hid (Mc _ _ _ _ _ _ _ _ _) from HM.out.app3 hown hgrow)
      clear hown hgrow
      obtain ⟨a3, k3, hv3, _⟩ := own_shape (HM.out.p3 _ rfl)
      subst hv3
      refine hK.out _ _ (fun _ => HM.out.S HS0.out) ?_
      (try simp only [Act.put, List.setIfInBounds_toArray, List.set_cons_zero, List.set_cons_succ])
      clear hK
      refine till_step (i := 4) rfl (by kernel_rfl) (fun K hK => ?_)
      go_simp
      replace HM := (show Hid (Mc _ _ _ _ _ _ _ _ _) from HM.out.mk4)
      refine hK.out _ _ (fun _ => HM.out.S HS0.out) ?_
      (try simp only [Act.put, List.setIfInBounds_toArray, List.set_cons_zero, List.set_cons_succ])
      clear hK
      generalize W4.alloc (.cells #[] 64) = W5 at HM ⊢
      generalize W4.heap.size = g4 at HM ⊢
      refine till_take (i := 8) (v := (.agg #[.slice a3 cs.length k3, .slice (some ⟨g4, 0, none⟩) 0 0, .int .i64 k, .slice (some ⟨g7, 0, none⟩) 0 0])) rfl (by kernel_rfl) (fun _ _ _ h => h) (by rfl) ?_ (HM.out.S HS0.out) ?_
      · (intro w hSw; obtain ⟨s0, s1⟩ := hSw; go_simp)
      (try simp only [Act.put, List.setIfInBounds_toArray, List.set_cons_zero, List.set_cons_succ])
     case' b152 =>
      go_simp
      replace HM := (show Hid (Mc _ _ _ _ _ _ _ _ _) from HM.out.mk4)
      refine hK.out _ _ (fun _ => HM.out.S HS0.out) ?_
      (try simp only [Act.put, List.setIfInBounds_toArray, List.set_cons_zero, List.set_cons_succ])
      clear hK
      generalize W3.alloc (.cells #[] 64) = W4 at HM ⊢
      generalize W3.heap.size = g4 at HM ⊢
      refine till_step (i := 3) rfl (by kernel_rfl) (fun K hK => ?_)
      refine step_append_src (by rfl) _ _ 28 (by rfl) V.heap.size 44 i0 (.agg #[.int .i64 0, .int .i64 0, .int .i64 0]) 3 24 Try.underlying28 hi0 hz0 hz1 hz2 rfl (by decide) _ 0 [] (by rfl) (HM.out.p0 _ rfl) aa cs.length ca (cs.flatMap ceC) (by rfl) HL.out.1 (HM.out.src HSR.out) HL.out.2 (by unfold maxLen; omega) (by omega) HM.out.bel.size ?_
      intro v3 W5 hown hgrow
      replace HM := (show Hid (Mc _ _ _ _ _ _ _ _ _) from HM.out.app3 hown hgrow)
      clear hown hgrow
      obtain ⟨a3, k3, hv3, _⟩ := own_shape (HM.out.p3 _ rfl)
      subst hv3
      refine hK.out _ _ (fun _ => HM.out.S HS0.out) ?_
      (try simp only [Act.put, List.setIfInBounds_toArray, List.set_cons_zero, List.set_cons_succ])
      clear hK
      refine till_take (i := 8) (v := (.agg #[.slice a3 cs.length k3, .slice (some ⟨g4, 0, none⟩) 0 0, .int .i64 k, .slice (some ⟨g7, 0, none⟩) 0 0])) rfl (by kernel_rfl) (fun _ _ _ h => h) (by rfl) ?_ (HM.out.S HS0.out) ?_
      · (intro w hSw; obtain ⟨s0, s1⟩ := hSw; go_simp)
      (try simp only [Act.put, List.setIfInBounds_toArray, List.set_cons_zero, List.set_cons_succ])
   case' b138 =>
    go_simp
    replace HM := (show Hid (Mc _ _ _ _ _ _ _ _ _) from HM.out.mk4)
    refine hK.out _ _ (fun _ => HM.out.S HS0.out) ?_
    (try simp only [Act.put, List.setIfInBounds_toArray, List.set_cons_zero, List.set_cons_succ])
    clear hK
    generalize W1.alloc (.cells #[] 64) = W2 at HM ⊢
    generalize W1.heap.size = g4 at HM ⊢
    refine till_two (i := 0) (j := 7) rfl rfl (by kernel_rfl) (fun K hK => ?b155) (fun K hK => ?b156)
    case' b155 =>
     go_simp
     replace HM := (show Hid (Mc _ _ _ _ _ _ _ _ _) from HM.out.mk0)
     refine hK.out _ _ (fun _ => HM.out.S HS0.out) ?_
     (try simp only [Act.put, List.setIfInBounds_toArray, List.set_cons_zero, List.set_cons_succ])
     clear hK
     generalize W2.alloc (.cells #[] 44) = W3 at HM ⊢
     generalize W2.heap.size = g0 at HM ⊢
     refine till_two (i := 3) (j := 7) rfl rfl (by kernel_rfl) (fun K hK => ?b157) (fun K hK => ?b158)
     case' b157 =>
      refine step_append_src (by rfl) _ _ 28 (by rfl) V.heap.size 44 i0 (.agg #[.int .i64 0, .int .i64 0, .int .i64 0]) 3 24 Try.underlying28 hi0 hz0 hz1 hz2 rfl (by decide) _ 0 [] (by rfl) (HM.out.p0 _ rfl) aa cs.length ca (cs.flatMap ceC) (by rfl) HL.out.1 (HM.out.src HSR.out) HL.out.2 (by unfold maxLen; omega) (by omega) HM.out.bel.size ?_
      intro v3 W4 hown hgrow
      replace HM := (show Hid (Mc _ _ _ _ _ _ _ _ _) from HM.out.app3 hown hgrow)
      clear hown hgrow
      obtain ⟨a3, k3, hv3, _⟩ := own_shape (HM.out.p3 _ rfl)
      subst hv3
      refine hK.out _ _ (fun _ => HM.out.S HS0.out) ?_
      (try simp only [Act.put, List.setIfInBounds_toArray, List.set_cons_zero, List.set_cons_succ])
      clear hK
      refine till_step (i := 7) rfl (by kernel_rfl) (fun K hK => ?_)
      go_simp
      replace HM := (show Hid (Mc _ _ _ _ _ _ _ _ _) from HM.out.mk7)
      refine hK.out _ _ (fun _ => HM.out.S HS0.out) ?_
      (try simp only [Act.put, List.setIfInBounds_toArray, List.set_cons_zero, List.set_cons_succ])
      clear hK
      generalize W4.alloc (.cells #[] 56) = W5 at HM ⊢
      generalize W4.heap.size = g7 at HM ⊢
      refine till_take (i := 8) (v := (.agg #[.slice a3 cs.length k3, .slice (some ⟨g4, 0, none⟩) 0 0, .int .i64 k, .slice (some ⟨g7, 0, none⟩) 0 0])) rfl (by kernel_rfl) (fun _ _ _ h => h) (by rfl) ?_ (HM.out.S HS0.out) ?_
      · (intro w hSw; obtain ⟨s0, s1⟩ := hSw; go_simp)
      (try simp only [Act.put, List.setIfInBounds_toArray, List.set_cons_zero, List.set_cons_succ])
     case' b158 =>
      go_simp
      replace HM := (show Hid (Mc _ _ _ _ _ _ _ _ _) from HM.out.mk7)
      refine hK.out _ _ (fun _ => HM.out.S HS0.out) ?_
      (try simp only [Act.put, List.setIfInBounds_toArray, List.set_cons_zero, List.set_cons_succ])
      clear hK
      generalize W3.alloc (.cells #[] 56) = W4 at HM ⊢
      generalize W3.heap.size = g7 at HM ⊢
      refine till_step (i := 3) rfl (by kernel_rfl) (fun K hK => ?_)
      refine step_append_src (by rfl) _ _ 28 (by rfl) V.heap.size 44 i0 (.agg #[.int .i64 0, .int .i64 0, .int .i64 0]) 3 24 Try.underlying28 hi0 hz0 hz1 hz2 rfl (by decide) _ 0 [] (by rfl) (HM.out.p0 _ rfl) aa cs.length ca (cs.flatMap ceC) (by rfl) HL.out.1 (HM.out.src HSR.out) HL.out.2 (by unfold maxLen; omega) (by omega) HM.out.bel.size ?_
      intro v3 W5 hown hgrow
      replace HM := (show Hid (Mc _ _ _ _ _ _ _ _ _) from HM.out.app3 hown hgrow)
      clear hown hgrow
      obtain ⟨a3, k3, hv3, _⟩ := own_shape (HM.out.p3 _ rfl)
      subst hv3
      refine hK.out _ _ (fun _ => HM.out.S HS0.out) ?_
      (try simp only [Act.put, List.setIfInBounds_toArray, List.set_cons_zero, List.set_cons_succ])
      clear hK
      refine till_take (i := 8) (v := (.agg #[.slice a3 cs.length k3, .slice (some ⟨g4, 0, none⟩) 0 0, .int .i64 k, .slice (some ⟨g7, 0, none⟩) 0 0])) rfl (by kernel_rfl) (fun _ _ _ h => h) (by rfl) ?_ (HM.out.S HS0.out) ?_
      · (intro w hSw; obtain ⟨s0, s1⟩ := hSw; go_simp)
      (try simp only [Act.put, List.setIfInBounds_toArray, List.set_cons_zero, List.set_cons_succ])
    case' b156 =>
     go_simp
     replace HM := (show Hid (Mc _ _ _ _ _ _ _ _ _) from HM.out.mk7)
     refine hK.out _ _ (fun _ => HM.out.S HS0.out) ?_
     (try simp only [Act.put, List.setIfInBounds_toArray, List.set_cons_zero, List.set_cons_succ])
     clear hK
     generalize W2.alloc (.cells #[] 56) = W3 at HM ⊢
     generalize W2.heap.size = g7 at HM ⊢
     refine till_step (i := 0) rfl (by kernel_rfl) (fun K hK => ?_)
     go_simp
     replace HM := (show Hid (Mc _ _ _ _ _ _ _ _ _) from HM.out.mk0)
     refine hK.out _ _ (fun _ => HM.out.S HS0.out) ?_
     (try simp only [Act.put, List.setIfInBounds_toArray, List.set_cons_zero, List.set_cons_succ])
     clear hK
     generalize W3.alloc (.cells #[] 44) = W4 at HM ⊢
     generalize W3.heap.size = g0 at HM ⊢
     refine till_step (i := 3) rfl (by kernel_rfl) (fun K hK => ?_)
     refine step_append_src (by rfl) _ _ 28 (by rfl) V.heap.size 44 i0 (.agg #[.int .i64 0, .int .i64 0, .int .i64 0]) 3 24 Try.underlying28 hi0 hz0 hz1 hz2 rfl (by decide) _ 0 [] (by rfl) (HM.out.p0 _ rfl) aa cs.length ca (cs.flatMap ceC) (by rfl) HL.out.1 (HM.out.src HSR.out) HL.out.2 (by unfold maxLen; omega) (by omega) HM.out.bel.size ?_
     intro v3 W5 hown hgrow
     replace HM := (show Hid (Mc _ _ _ _ _ _ _ _ _) from HM.out.app3 hown hgrow)
     clear hown hgrow
     obtain ⟨a3, k3, hv3, _⟩ := own_shape (HM.out.p3 _ rfl)
     subst hv3
     refine hK.out _ _ (fun _ => HM.out.S HS0.out) ?_
     (try simp only [Act.put, List.setIfInBounds_toArray, List.set_cons_zero, List.set_cons_succ])
     clear hK
     refine till_take (i := 8) (v := (.agg #[.slice a3 cs.length k3, .slice (some ⟨g4, 0, none⟩) 0 0, .int .i64 k, .slice (some ⟨g7, 0, none⟩) 0 0])) rfl (by kernel_rfl) (fun _ _ _ h => h) (by rfl) ?_ (HM.out.S HS0.out) ?_
     · (intro w hSw; obtain ⟨s0, s1⟩ := hSw; go_simp)
     (try simp only [Act.put, List.setIfInBounds_toArray, List.set_cons_zero, List.set_cons_succ])
   case' b139 =>
    go_simp
    replace HM := (show Hid (Mc _ _ _ _ _ _ _ _ _) from HM.out.mk7)
    refine hK.out _ _ (fun _ => HM.out.S HS0.out) ?_
    (try simp only [Act.put, List.setIfInBounds_toArray, List.set_cons_zero, List.set_cons_succ])
    clear hK
    generalize W1.alloc (.cells #[] 56) = W2 at HM ⊢
    generalize W1.heap.size = g7 at HM ⊢
    refine till_two (i := 0) (j := 4) rfl rfl (by kernel_rfl) (fun K hK => ?b163) (fun K hK => ?b164)
    case' b163 =>
     go_simp
     replace HM := (show Hid (Mc _ _ _ _ _ _ _ _ _) from HM.out.mk0)
     refine hK.out _ _ (fun _ => HM.out.S HS0.out) ?_
     (try simp only [Act.put, List.setIfInBounds_toArray, List.set_cons_zero, List.set_cons_succ])
     clear hK
     generalize W2.alloc (.cells #[] 44) = W3 at HM ⊢
     generalize W2.heap.size = g0 at HM ⊢
     refine till_two (i := 3) (j := 4) rfl rfl (by kernel_rfl) (fun K hK => ?b165) (fun K hK => ?b166)
     case' b165 =>
      refine step_append_src (by rfl) _ _ 28 (by rfl) V.heap.size 44 i0 (.agg #[.int .i64 0, .int .i64 0, .int .i64 0]) 3 24 Try.underlying28 hi0 hz0 hz1 hz2 rfl (by decide) _ 0 [] (by rfl) (HM.out.p0 _ rfl) aa cs.length ca (cs.flatMap ceC) (by rfl) HL.out.1 (HM.out.src HSR.out) HL.out.2 (by unfold maxLen; omega) (by omega) HM.out.bel.size ?_
      intro v3 W4 hown hgrow
      replace HM := (show Hid (Mc _ _ _ _ _ _ _ _ _) from HM.out.app3 hown hgrow)
      clear hown hgrow
      obtain ⟨a3, k3, hv3, _⟩ := own_shape (HM.out.p3 _ rfl)
      subst hv3
      refine hK.out _ _ (fun _ => HM.out.S HS0.out) ?_
      (try simp only [Act.put, List.setIfInBounds_toArray, List.set_cons_zero, List.set_cons_succ])
      clear hK
      refine till_step (i := 4) rfl (by kernel_rfl) (fun K hK => ?_)
      go_simp
      replace HM := (show Hid (Mc _ _ _ _ _ _ _ _ _) from HM.out.mk4)
      refine hK.out _ _ (fun _ => HM.out.S HS0.out) ?_
      (try simp only [Act.put, List.setIfInBounds_toArray, List.set_cons_zero, List.set_cons_succ])
      clear hK
      generalize W4.alloc (.cells #[] 64) = W5 at HM ⊢
      generalize W4.heap.size = g4 at HM ⊢
      refine till_take (i := 8) (v := (.agg #[.slice a3 cs.length k3, .slice (some ⟨g4, 0, none⟩) 0 0, .int .i64 k, .slice (some ⟨g7, 0, none⟩) 0 0])) rfl (by kernel_rfl) (fun _ _ _ h => h) (by rfl) ?_ (HM.out.S HS0.out) ?_
      · (intro w hSw; obtain ⟨s0, s1⟩ := hSw; go_simp)
      (try simp only [Act.put, List.setIfInBounds_toArray, List.set_cons_zero, List.set_cons_succ])
     case' b166 =>
      go_simp
      replace HM := (show Hid (Mc _ _ _ _ _ _ _ _ _) from HM.out.mk4)
      refine hK.out _ _ (fun _ => HM.out.S HS0.out) ?_
      (try simp only [Act.put, List.setIfInBounds_toArray, List.set_cons_zero, List.set_cons_succ])
      clear hK
      generalize W3.alloc (.cells #[] 64) = W4 at HM ⊢
      generalize W3.heap.size = g4 at HM ⊢
      refine till_step (i := 3) rfl (by kernel_rfl) (fun K hK => ?_)
      refine step_append_src (by rfl) _ _ 28 (by rfl) V.heap.size 44 i0 (.agg #[.int .i64 0, .int .i64 0, .int .i64 0]) 3 24 Try.underlying28 hi0 hz0 hz1 hz2 rfl (by decide) _ 0 [] (by rfl) (HM.out.p0 _ rfl) aa cs.length ca (cs.flatMap ceC) (by rfl) HL.out.1 (HM.out.src HSR.out) HL.out.2 (by unfold maxLen; omega) (by omega) HM.out.bel.size ?_
      intro v3 W5 hown hgrow
      replace HM := (show Hid (Mc _ _ _ _ _ _ _ _ _) from HM.out.app3 hown hgrow)
      clear hown hgrow
      obtain ⟨a3, k3, hv3, _⟩ := own_shape (HM.out.p3 _ rfl)
      subst hv3
      refine hK.out _ _ (fun _ => HM.out.S HS0.out) ?_
      (try simp only [Act.put, List.setIfInBounds_toArray, List.set_cons_zero, List.set_cons_succ])
      clear hK
      refine till_take (i := 8) (v := (.agg #[.slice a3 cs.length k3, .slice (some ⟨g4, 0, none⟩) 0 0, .int .i64 k, .slice (some ⟨g7, 0, none⟩) 0 0])) rfl (by kernel_rfl) (fun _ _ _ h => h) (by rfl) ?_ (HM.out.S HS0.out) ?_
      · (intro w hSw; obtain ⟨s0, s1⟩ := hSw; go_simp)
      (try simp only [Act.put, List.setIfInBounds_toArray, List.set_cons_zero, List.set_cons_succ])
    case' b164 =>
     go_simp
     replace HM := (show Hid (Mc _ _ _ _ _ _ _ _ _) from HM.out.mk4)
     refine hK.out _ _ (fun _ => HM.out.S HS0.out) ?_
     (try simp only [Act.put, List.setIfInBounds_toArray, List.set_cons_zero, List.set_cons_succ])
     clear hK
     generalize W2.alloc (.cells #[] 64) = W3 at HM ⊢
     generalize W2.heap.size = g4 at HM ⊢
     refine till_step (i := 0) rfl (by kernel_rfl) (fun K hK => ?_)
     go_simp
     replace HM := (show Hid (Mc _ _ _ _ _ _ _ _ _) from HM.out.mk0)
     refine hK.out _ _ (fun _ => HM.out.S HS0.out) ?_
     (try simp only [Act.put, List.setIfInBounds_toArray, List.set_cons_zero, List.set_cons_succ])
     clear hK
     generalize W3.alloc (.cells #[] 44) = W4 at HM ⊢
     generalize W3.heap.size = g0 at HM ⊢
     refine till_step (i := 3) rfl (by kernel_rfl) (fun K hK => ?_)
     refine step_append_src (by rfl) _ _ 28 (by rfl) V.heap.size 44 i0 (.agg #[.int .i64 0, .int .i64 0, .int .i64 0]) 3 24 Try.underlying28 hi0 hz0 hz1 hz2 rfl (by decide) _ 0 [] (by rfl) (HM.out.p0 _ rfl) aa cs.length ca (cs.flatMap ceC) (by rfl) HL.out.1 (HM.out.src HSR.out) HL.out.2 (by unfold maxLen; omega) (by omega) HM.out.bel.size ?_
     intro v3 W5 hown hgrow
     replace HM := (show Hid (Mc _ _ _ _ _ _ _ _ _) from HM.out.app3 hown hgrow)
     clear hown hgrow
     obtain ⟨a3, k3, hv3, _⟩ := own_shape (HM.out.p3 _ rfl)
     subst hv3
     refine hK.out _ _ (fun _ => HM.out.S HS0.out) ?_
     (try simp only [Act.put, List.setIfInBounds_toArray, List.set_cons_zero, List.set_cons_succ])
     clear hK
     refine till_take (i := 8) (v := (.agg #[.slice a3 cs.length k3, .slice (some ⟨g4, 0, none⟩) 0 0, .int .i64 k, .slice (some ⟨g7, 0, none⟩) 0 0])) rfl (by kernel_rfl) (fun _ _ _ h => h) (by rfl) ?_ (HM.out.S HS0.out) ?_
     · (intro w hSw; obtain ⟨s0, s1⟩ := hSw; go_simp)
     (try simp only [Act.put, List.setIfInBounds_toArray, List.set_cons_zero, List.set_cons_succ])
  all_goals
    obtain ⟨hbx, hgx⟩ := HM.out.p9 _ rfl
    obtain ⟨⟨y0, y1, y2, y3⟩, ⟨z0, z1, z2, z3⟩, y4⟩ := box4c hbx
    have HB4 := (show Hid (_ ∧ _) from box4 (b0 := .slice a3 cs.length k3) (b1 := .slice (some ⟨g4, 0, none⟩) 0 0) (b2 := .int .i64 k) (b3 := .slice (some ⟨g7, 0, none⟩) 0 0) hbx)
    clear hbx
    refine till_step (i := 10) rfl (by kernel_rfl) (fun K hK => ?_)
    go_simp
    refine hK.out _ _ (fun h => absurd rfl h) ?_
    clear hK
    refine till_done (by kernel_rfl) ?_ _
    exact hQ.out _ _ _ _ _ _ _ _ _ _ _ (CB.first (own_tag (HM.out.p3 _ rfl) HB4.out.2 (by decide)) (own_tag (HM.out.p4 _ rfl) HB4.out.2 (by decide)) (own_tag (HM.out.p7 _ rfl) HB4.out.2 (by decide)) HB4.out.1 hgx) ((((HM.out.bel.setCell (by simpa using hgx) _).setCell (by simpa using hgx) _).setCell (by simpa using hgx) _).setCell (by simpa using hgx) _)
end Go.Proofs.Ytnbgonmdjgapnaa
