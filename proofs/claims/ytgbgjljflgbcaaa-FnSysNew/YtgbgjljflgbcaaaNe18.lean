import Derived.Test.YtgbgjljflgbcaaaNe17
namespace Go.Proofs.Ytgbgjljflgbcaaa
open Go.RowKit
set_option linter.unusedSimpArgs false
set_option linter.unusedVariables false
set_option maxRecDepth 100000 in
set_option maxHeartbeats 4000000 in
theorem bent_reg18 (T : Nat → Prop) (B R Wb P p : Nat) (w w2 : World) (cv : Value) (xs : List Int) (g n cap : Nat) (L0 : List (Ac × Value × Value)) (a0 : Option Addr) (c0 : Nat) (LT : List (List (Ac × Value × Value) × Value)) (HT : Hid (BtC T B R Wb P w w2 p cv xs g n cap L0 (.slice a0 L0.length c0) LT))
    (hp : p ≤ 900000) (hW : Wb ≤ w.heap.size) (hlt : R < B) (hle : B ≤ Wb) (hPs : Wb + 1 < P) (hn0 : 0 < n) (hn5 : n ≤ 10) (hL0 : L0.length ≤ 20) (Q : Exit → Act → World → Prop) (u1 u2 u3 u4 u6 u7 u8 u9 u10 u11 u12 u13 u14 u15 u16 u17 u18 u19 u20 u21 u22 u23 u24 u25 u26 u27 u28 u29 u30 u31 u32 u33 u34 u35 u36 u37 u38 u39 u40 u41 u42 u43 u44 u45 u46 u47 u48 u49 u50 u51 u52 u53 u54 u55 u56 u57 u58 u59 u60 u61 u62 u63 u64 u65 u66 u67 u68 u69 u70 u71 u72 u73 u74 u75 u76 u77 u78 u79 u80 u81 u82 u83 u84 u85 u86 u87 u88 u89 u90 u91 u92 u93 u94 u95 u96 u97 u98 u99 u100 u101 u102 u103 u104 u105 u106 u107 u108 u109 u110 u111 u112 u113 u114 u115 u116 u117 u118 u119 u120 u121 u122 u123 u124 u125 u126 u127 u128 u129 u130 u131 u132 u133 u134 u135 u136 u137 u138 u139 u140 u141 u142 u143 : Value)
    (hQ : Hid (∀ (v82 v83 v84 v85 v86 v87 v88 v89 v90 v91 v92 v93 v94 v95 : Value) (V : World) (x : Ac × Value × Value) (g4 cap4 : Nat), BtC T B R Wb P w V (p + 1) cv xs g n cap (L0 ++ [x]) (.slice (some ⟨g4, 0, none⟩) (L0.length + 1) cap4) LT → Q .normal ⟨(.pointer (some ⟨R, 0, none⟩) :: u1 :: u2 :: u3 :: u4 :: .pointer (some ⟨P, 0, none⟩) :: u6 :: u7 :: u8 :: u9 :: u10 :: u11 :: u12 :: u13 :: u14 :: u15 :: u16 :: u17 :: u18 :: u19 :: u20 :: u21 :: u22 :: u23 :: u24 :: u25 :: u26 :: u27 :: u28 :: u29 :: u30 :: u31 :: u32 :: u33 :: u34 :: u35 :: u36 :: u37 :: u38 :: u39 :: u40 :: u41 :: u42 :: u43 :: u44 :: u45 :: u46 :: u47 :: u48 :: u49 :: u50 :: u51 :: u52 :: u53 :: u54 :: u55 :: u56 :: u57 :: u58 :: u59 :: u60 :: u61 :: u62 :: u63 :: u64 :: u65 :: u66 :: u67 :: u68 :: u69 :: u70 :: u71 :: u72 :: u73 :: u74 :: u75 :: u76 :: u77 :: u78 :: u79 :: u80 :: u81 :: v82 :: v83 :: v84 :: v85 :: v86 :: v87 :: v88 :: v89 :: v90 :: v91 :: v92 :: v93 :: v94 :: v95 :: u96 :: u97 :: u98 :: u99 :: u100 :: u101 :: u102 :: u103 :: u104 :: u105 :: u106 :: u107 :: u108 :: u109 :: u110 :: u111 :: u112 :: u113 :: u114 :: u115 :: u116 :: u117 :: u118 :: u119 :: u120 :: u121 :: u122 :: u123 :: u124 :: u125 :: u126 :: u127 :: u128 :: u129 :: u130 :: u131 :: u132 :: u133 :: u134 :: u135 :: u136 :: u137 :: u138 :: u139 :: u140 :: u141 :: u142 :: u143 :: []).toArray, []⟩ V)) :
    Code.wp Try.prog (bentReg 18) Q ⟨(.pointer (some ⟨R, 0, none⟩) :: u1 :: u2 :: u3 :: u4 :: .pointer (some ⟨P, 0, none⟩) :: u6 :: u7 :: u8 :: u9 :: u10 :: u11 :: u12 :: u13 :: u14 :: u15 :: u16 :: u17 :: u18 :: u19 :: u20 :: u21 :: u22 :: u23 :: u24 :: u25 :: u26 :: u27 :: u28 :: u29 :: u30 :: u31 :: u32 :: u33 :: u34 :: u35 :: u36 :: u37 :: u38 :: u39 :: u40 :: u41 :: u42 :: u43 :: u44 :: u45 :: u46 :: u47 :: u48 :: u49 :: u50 :: u51 :: u52 :: u53 :: u54 :: u55 :: u56 :: u57 :: u58 :: u59 :: u60 :: u61 :: u62 :: u63 :: u64 :: u65 :: u66 :: u67 :: u68 :: u69 :: u70 :: u71 :: u72 :: u73 :: u74 :: u75 :: u76 :: u77 :: u78 :: u79 :: u80 :: u81 :: u82 :: u83 :: u84 :: u85 :: u86 :: u87 :: u88 :: u89 :: u90 :: u91 :: u92 :: u93 :: u94 :: u95 :: u96 :: u97 :: u98 :: u99 :: u100 :: u101 :: u102 :: u103 :: u104 :: u105 :: u106 :: u107 :: u108 :: u109 :: u110 :: u111 :: u112 :: u113 :: u114 :: u115 :: u116 :: u117 :: u118 :: u119 :: u120 :: u121 :: u122 :: u123 :: u124 :: u125 :: u126 :: u127 :: u128 :: u129 :: u130 :: u131 :: u132 :: u133 :: u134 :: u135 :: u136 :: u137 :: u138 :: u139 :: u140 :: u141 :: u142 :: u143 :: []).toArray, []⟩ w2 := by
  obtain ⟨i1, hi1, hy0, hy1, hy2⟩ := info_parts Try.info_act
  have hs2 : Wb ≤ w2.heap.size := Nat.le_trans hW HT.out.fr.size
  have HTd : Hid (BtC T B R Wb P w w2.drew p cv xs g n cap L0 (.slice a0 L0.length c0) LT) := HT.out.next (HT.out.rd.below (Below.refl _ _).drew) (Fr.of_below (Below.refl _ _).drew) (by omega) (by omega) hs2
  obtain ⟨e21, e22, f22, l21, l22, _⟩ := HTd.out.cells
  conv => arg 2; whnf
  refine wp_region_noPanic ?_
  refine till_begin (S := fun w' => w'.cell? ⟨P, 1, none⟩ = some (.slice (some ⟨g, 0, none⟩) n cap) ∧ w'.cell? ⟨g, 0, none⟩ = some (.slice a0 L0.length c0)) (z := 14) (by kernel_rfl) ?_
  refine till_take (i := 0) (v := (.pointer (some ⟨P, 1, none⟩))) rfl (by kernel_rfl) (fun _ _ _ h => h) (by rfl) ?_ ⟨e21, e22⟩ ?_
  · (intro w hSw; obtain ⟨s1, s2⟩ := hSw; go_simp)
  (try simp only [Act.put, List.setIfInBounds_toArray, List.set_cons_zero, List.set_cons_succ])
  refine till_take (i := 1) (v := (.slice (some ⟨g, 0, none⟩) n cap)) rfl (by kernel_rfl) (fun _ _ _ h => h) (by rfl) ?_ ⟨e21, e22⟩ ?_
  · (intro w hSw; obtain ⟨s1, s2⟩ := hSw; go_simp)
  (try simp only [Act.put, List.setIfInBounds_toArray, List.set_cons_zero, List.set_cons_succ])
  refine till_take (i := 2) (v := (.pointer (some ⟨P, 1, none⟩))) rfl (by kernel_rfl) (fun _ _ _ h => h) (by rfl) ?_ ⟨e21, e22⟩ ?_
  · (intro w hSw; obtain ⟨s1, s2⟩ := hSw; go_simp)
  (try simp only [Act.put, List.setIfInBounds_toArray, List.set_cons_zero, List.set_cons_succ])
  refine till_take (i := 3) (v := (.slice (some ⟨g, 0, none⟩) n cap)) rfl (by kernel_rfl) (fun _ _ _ h => h) (by rfl) ?_ ⟨e21, e22⟩ ?_
  · (intro w hSw; obtain ⟨s1, s2⟩ := hSw; go_simp)
  (try simp only [Act.put, List.setIfInBounds_toArray, List.set_cons_zero, List.set_cons_succ])
  refine till_take (i := 4) (v := (.pointer (some ⟨g, 0, none⟩))) rfl (by kernel_rfl) (fun _ _ _ h => h) (by rfl) ?_ ⟨e21, e22⟩ ?_
  · (intro w hSw; obtain ⟨s1, s2⟩ := hSw; go_simp)
  (try simp only [Act.put, List.setIfInBounds_toArray, List.set_cons_zero, List.set_cons_succ])
  refine till_take (i := 5) (v := (.slice a0 L0.length c0)) rfl (by kernel_rfl) (fun _ _ _ h => h) (by rfl) ?_ ⟨e21, e22⟩ ?_
  · (intro w hSw; obtain ⟨s1, s2⟩ := hSw; go_simp)
  (try simp only [Act.put, List.setIfInBounds_toArray, List.set_cons_zero, List.set_cons_succ])
  refine till_take (i := 6) (v := (.pointer (some ⟨R, 0, none⟩))) rfl (by kernel_rfl) (fun _ _ _ h => h) (by rfl) ?_ ⟨e21, e22⟩ ?_
  · (intro w hSw; obtain ⟨s1, s2⟩ := hSw; go_simp)
  (try simp only [Act.put, List.setIfInBounds_toArray, List.set_cons_zero, List.set_cons_succ])
  refine till_step (i := 7) rfl (by kernel_rfl) (fun K hK => ?_)
  go_simp
  go_at_call 48
  refine (pick_any B R _ _ _ HTd.out.rd (by omega) (by omega) (by omega)).mono ?_
  rintro e w3 ⟨q3, rfl, q30, q31, hR3, hF3⟩
  have HT3 : Hid (BtC T B R Wb P w w3 (p + 1) cv xs g n cap L0 (.slice a0 L0.length c0) LT) := HTd.out.next hR3 hF3 (by omega) (by omega) hs2
  have hs3 : Wb ≤ w3.heap.size := Nat.le_trans hW HT3.out.fr.size
  obtain ⟨e31, e32, f32, l31, l32, _⟩ := HT3.out.cells
  have hsub3 : IntKind.i64.wrap (q3 - 1) = q3 - 1 := by rw [IntKind.wrap_i64]; omega
  clear hR3 hF3
  refine hK.out _ _ (fun _ => ⟨e31, e32⟩) ?_
  (try simp only [Act.put, List.setIfInBounds_toArray, List.set_cons_zero, List.set_cons_succ])
  clear hK
  refine till_take (i := 8) (v := (.int .i64 (q3 - 1))) rfl (by kernel_rfl) (fun _ _ _ h => h) (by rfl) ?_ ⟨e31, e32⟩ ?_
  · (intro w hSw; obtain ⟨s1, s2⟩ := hSw; go_simp)
  (try simp only [Act.put, List.setIfInBounds_toArray, List.set_cons_zero, List.set_cons_succ])
  refine till_step (i := 9) rfl (by kernel_rfl) (fun K hK => ?_)
  go_simp
  have HT5 : Hid (BtC T B R Wb P w (w3.alloc (.cells #[.int .i64 (q3 - 1)] 3)) (p + 1) cv xs g n cap L0 (.slice a0 L0.length c0) LT) := HT3.out.alloc (by omega) hle (by omega) hs3 _
  have hs5 : Wb ≤ (w3.alloc (.cells #[.int .i64 (q3 - 1)] 3)).heap.size := by simp; omega
  obtain ⟨e51, e52, f52, l51, l52, _⟩ := HT5.out.cells
  refine hK.out _ _ (fun _ => ⟨e51, e52⟩) ?_
  (try simp only [Act.put, List.setIfInBounds_toArray, List.set_cons_zero, List.set_cons_succ])
  clear hK
  refine till_take (i := 10) (v := (.agg #[.int .i64 2, .slice none 0 0, (.slice (some ⟨w3.heap.size, 0, none⟩) 1 1), .int .i64 0])) rfl (by kernel_rfl) (fun _ _ _ h => h) (by rfl) ?_ ⟨e51, e52⟩ ?_
  · (intro w hSw; obtain ⟨s1, s2⟩ := hSw; go_simp)
  (try simp only [Act.put, List.setIfInBounds_toArray, List.set_cons_zero, List.set_cons_succ])
  refine till_step (i := 11) rfl (by kernel_rfl) (fun K hK => ?_)
  go_simp
  have HT6 : Hid (BtC T B R Wb P w ((w3.alloc (.cells #[.int .i64 (q3 - 1)] 3)).alloc (.cells #[.int .i64 2, .slice none 0 0, (.slice (some ⟨w3.heap.size, 0, none⟩) 1 1), .int .i64 0] 122)) (p + 1) cv xs g n cap L0 (.slice a0 L0.length c0) LT) := HT5.out.alloc (by omega) hle (by omega) hs5 _
  have hs6 : Wb ≤ ((w3.alloc (.cells #[.int .i64 (q3 - 1)] 3)).alloc (.cells #[.int .i64 2, .slice none 0 0, (.slice (some ⟨w3.heap.size, 0, none⟩) 1 1), .int .i64 0] 122)).heap.size := by simp; omega
  obtain ⟨e61, e62, f62, l61, l62, _⟩ := HT6.out.cells
  refine hK.out _ _ (fun _ => ⟨e61, e62⟩) ?_
  (try simp only [Act.put, List.setIfInBounds_toArray, List.set_cons_zero, List.set_cons_succ])
  clear hK
  refine till_step (i := 12) rfl (by kernel_rfl) (fun K hK => ?_)
  refine step_append_lies _ (by rfl) _ _ 113 (by rfl) Wb 122 i1 (.agg #[.int .i64 0, .slice none 0 0, .slice none 0 0, .int .i64 0]) 4 64 Try.underlying113 hi1 hy0 hy1 hy2 rfl (by omega) _ L0.length (acCells L0) (by rfl) HT6.out.cells.2.2.2.2.2 _ 1 1 [.int .i64 2, .slice none 0 0, (.slice (some ⟨w3.heap.size, 0, none⟩) 1 1), .int .i64 0] (by rfl) rfl (by intro j u hj; rcases j with _ | _ | _ | _ | j <;> simp at hj <;> subst hj <;> simp [Addr.add]) (by intro u hu; simp at hu; rcases hu with rfl | rfl | rfl | rfl <;> rfl) (by omega) (by unfold maxLen; omega) (by omega) hs6 _ (by rfl) ?_
  intro g4 cap4 w4 hown4 hgrow4 hat4 hlt4
  obtain ⟨e41, e42, f42, l41, l42, hT4⟩ := HT6.out.app (a := ⟨2, [], [q3 - 1], 0⟩) hle hs6 hown4 hgrow4 hat4 ⟨.inr (own_none _ _).1, .inr (World.ownsRow.alloc (own_one w3 3 1 Wb [.int .i64 (q3 - 1)] rfl hs3) _)⟩
  have HT4 : Hid (BtC T B R Wb P w (w4.setCell ⟨g, 0, none⟩ (.slice (some ⟨g4, 0, none⟩) (L0.length + 1) cap4)) (p + 1) cv xs g n cap (L0 ++ [(⟨2, [], [q3 - 1], 0⟩, .slice none 0 0, (.slice (some ⟨w3.heap.size, 0, none⟩) 1 1))]) (.slice (some ⟨g4, 0, none⟩) (L0.length + 1) cap4) LT) := hT4
  clear hown4 hgrow4 hat4 hT4
  refine hK.out _ _ (fun _ => ⟨e41, e42⟩) ?_
  (try simp only [Act.put, List.setIfInBounds_toArray, List.set_cons_zero, List.set_cons_succ])
  clear hK
  refine till_take (i := 13) (v := (.pointer (some ⟨g, 0, none⟩))) rfl (by kernel_rfl) (fun _ _ _ h => h) (by rfl) ?_ ⟨e41, e42⟩ ?_
  · (intro w hSw; obtain ⟨s1, s2⟩ := hSw; go_simp)
  (try simp only [Act.put, List.setIfInBounds_toArray, List.set_cons_zero, List.set_cons_succ])
  refine till_step (i := 14) rfl (by kernel_rfl) (fun K hK => ?_)
  go_simp
  refine hK.out _ _ (fun h => absurd rfl h) ?_
  refine till_done (by kernel_rfl) ?_ _
  (try simp only [Act.put, List.setIfInBounds_toArray, List.set_cons_zero, List.set_cons_succ])
  exact NoPanic.normal (hQ.out _ _ _ _ _ _ _ _ _ _ _ _ _ _ _ _ _ _ HT4.out)
set_option maxRecDepth 100000 in
set_option maxHeartbeats 4000000 in
theorem bent_reg10 (T : Nat → Prop) (B R Wb P p : Nat) (w w2 : World) (cv : Value) (xs : List Int) (g n cap : Nat) (L0 : List (Ac × Value × Value)) (a0 : Option Addr) (c0 : Nat) (LT : List (List (Ac × Value × Value) × Value)) (HT : Hid (BtC T B R Wb P w w2 p cv xs g n cap L0 (.slice a0 L0.length c0) LT))
    (hp : p ≤ 900000) (hW : Wb ≤ w.heap.size) (hlt : R < B) (hle : B ≤ Wb) (hPs : Wb + 1 < P) (hn0 : 0 < n) (hn5 : n ≤ 10) (hL0 : L0.length ≤ 20) (Q : Exit → Act → World → Prop) (u1 u2 u3 u4 u6 u7 u8 u9 u10 u11 u12 u13 u14 u15 u16 u17 u18 u19 u20 u21 u22 u23 u24 u25 u26 u27 u28 u29 u30 u31 u32 u33 u34 u35 u36 u37 u38 u39 u40 u41 u42 u43 u44 u45 u46 u47 u48 u49 u50 u51 u52 u53 u54 u55 u56 u57 u58 u59 u60 u61 u62 u63 u64 u65 u66 u67 u68 u69 u70 u71 u72 u73 u74 u75 u76 u77 u78 u79 u80 u81 u82 u83 u84 u85 u86 u87 u88 u89 u90 u91 u92 u93 u94 u95 u96 u97 u98 u99 u100 u101 u102 u103 u104 u105 u106 u107 u108 u109 u110 u111 u112 u113 u114 u115 u116 u117 u118 u119 u120 u121 u122 u123 u124 u125 u126 u127 u128 u129 u130 u131 u132 u133 u134 u135 u136 u137 u138 u139 u140 u141 u142 u143 : Value)
    (hQ : Hid (∀ (v38 v39 v40 v41 v42 v43 v44 v45 v46 v47 : Value) (V : World) (x : Ac × Value × Value) (g4 cap4 : Nat), BtC T B R Wb P w V (p + 0) cv xs g n cap (L0 ++ [x]) (.slice (some ⟨g4, 0, none⟩) (L0.length + 1) cap4) LT → Q .normal ⟨(.pointer (some ⟨R, 0, none⟩) :: u1 :: u2 :: u3 :: u4 :: .pointer (some ⟨P, 0, none⟩) :: u6 :: u7 :: u8 :: u9 :: u10 :: u11 :: u12 :: u13 :: u14 :: u15 :: u16 :: u17 :: u18 :: u19 :: u20 :: u21 :: u22 :: u23 :: u24 :: u25 :: u26 :: u27 :: u28 :: u29 :: u30 :: u31 :: u32 :: u33 :: u34 :: u35 :: u36 :: u37 :: v38 :: v39 :: v40 :: v41 :: v42 :: v43 :: v44 :: v45 :: v46 :: v47 :: u48 :: u49 :: u50 :: u51 :: u52 :: u53 :: u54 :: u55 :: u56 :: u57 :: u58 :: u59 :: u60 :: u61 :: u62 :: u63 :: u64 :: u65 :: u66 :: u67 :: u68 :: u69 :: u70 :: u71 :: u72 :: u73 :: u74 :: u75 :: u76 :: u77 :: u78 :: u79 :: u80 :: u81 :: u82 :: u83 :: u84 :: u85 :: u86 :: u87 :: u88 :: u89 :: u90 :: u91 :: u92 :: u93 :: u94 :: u95 :: u96 :: u97 :: u98 :: u99 :: u100 :: u101 :: u102 :: u103 :: u104 :: u105 :: u106 :: u107 :: u108 :: u109 :: u110 :: u111 :: u112 :: u113 :: u114 :: u115 :: u116 :: u117 :: u118 :: u119 :: u120 :: u121 :: u122 :: u123 :: u124 :: u125 :: u126 :: u127 :: u128 :: u129 :: u130 :: u131 :: u132 :: u133 :: u134 :: u135 :: u136 :: u137 :: u138 :: u139 :: u140 :: u141 :: u142 :: u143 :: []).toArray, []⟩ V)) :
    Code.wp Try.prog (bentReg 10) Q ⟨(.pointer (some ⟨R, 0, none⟩) :: u1 :: u2 :: u3 :: u4 :: .pointer (some ⟨P, 0, none⟩) :: u6 :: u7 :: u8 :: u9 :: u10 :: u11 :: u12 :: u13 :: u14 :: u15 :: u16 :: u17 :: u18 :: u19 :: u20 :: u21 :: u22 :: u23 :: u24 :: u25 :: u26 :: u27 :: u28 :: u29 :: u30 :: u31 :: u32 :: u33 :: u34 :: u35 :: u36 :: u37 :: u38 :: u39 :: u40 :: u41 :: u42 :: u43 :: u44 :: u45 :: u46 :: u47 :: u48 :: u49 :: u50 :: u51 :: u52 :: u53 :: u54 :: u55 :: u56 :: u57 :: u58 :: u59 :: u60 :: u61 :: u62 :: u63 :: u64 :: u65 :: u66 :: u67 :: u68 :: u69 :: u70 :: u71 :: u72 :: u73 :: u74 :: u75 :: u76 :: u77 :: u78 :: u79 :: u80 :: u81 :: u82 :: u83 :: u84 :: u85 :: u86 :: u87 :: u88 :: u89 :: u90 :: u91 :: u92 :: u93 :: u94 :: u95 :: u96 :: u97 :: u98 :: u99 :: u100 :: u101 :: u102 :: u103 :: u104 :: u105 :: u106 :: u107 :: u108 :: u109 :: u110 :: u111 :: u112 :: u113 :: u114 :: u115 :: u116 :: u117 :: u118 :: u119 :: u120 :: u121 :: u122 :: u123 :: u124 :: u125 :: u126 :: u127 :: u128 :: u129 :: u130 :: u131 :: u132 :: u133 :: u134 :: u135 :: u136 :: u137 :: u138 :: u139 :: u140 :: u141 :: u142 :: u143 :: []).toArray, []⟩ w2 := by
  obtain ⟨i1, hi1, hy0, hy1, hy2⟩ := info_parts Try.info_act
  have hs2 : Wb ≤ w2.heap.size := Nat.le_trans hW HT.out.fr.size
  have HTd : Hid (BtC T B R Wb P w w2.drew p cv xs g n cap L0 (.slice a0 L0.length c0) LT) := HT.out.next (HT.out.rd.below (Below.refl _ _).drew) (Fr.of_below (Below.refl _ _).drew) (by omega) (by omega) hs2
  obtain ⟨e21, e22, f22, l21, l22, _⟩ := HTd.out.cells
  conv => arg 2; whnf
  refine wp_region_noPanic ?_
  refine till_begin (S := fun w' => w'.cell? ⟨P, 1, none⟩ = some (.slice (some ⟨g, 0, none⟩) n cap) ∧ w'.cell? ⟨g, 0, none⟩ = some (.slice a0 L0.length c0)) (z := 10) (by kernel_rfl) ?_
  refine till_take (i := 0) (v := (.pointer (some ⟨P, 1, none⟩))) rfl (by kernel_rfl) (fun _ _ _ h => h) (by rfl) ?_ ⟨e21, e22⟩ ?_
  · (intro w hSw; obtain ⟨s1, s2⟩ := hSw; go_simp)
  (try simp only [Act.put, List.setIfInBounds_toArray, List.set_cons_zero, List.set_cons_succ])
  refine till_take (i := 1) (v := (.slice (some ⟨g, 0, none⟩) n cap)) rfl (by kernel_rfl) (fun _ _ _ h => h) (by rfl) ?_ ⟨e21, e22⟩ ?_
  · (intro w hSw; obtain ⟨s1, s2⟩ := hSw; go_simp)
  (try simp only [Act.put, List.setIfInBounds_toArray, List.set_cons_zero, List.set_cons_succ])
  refine till_take (i := 2) (v := (.pointer (some ⟨P, 1, none⟩))) rfl (by kernel_rfl) (fun _ _ _ h => h) (by rfl) ?_ ⟨e21, e22⟩ ?_
  · (intro w hSw; obtain ⟨s1, s2⟩ := hSw; go_simp)
  (try simp only [Act.put, List.setIfInBounds_toArray, List.set_cons_zero, List.set_cons_succ])
  refine till_take (i := 3) (v := (.slice (some ⟨g, 0, none⟩) n cap)) rfl (by kernel_rfl) (fun _ _ _ h => h) (by rfl) ?_ ⟨e21, e22⟩ ?_
  · (intro w hSw; obtain ⟨s1, s2⟩ := hSw; go_simp)
  (try simp only [Act.put, List.setIfInBounds_toArray, List.set_cons_zero, List.set_cons_succ])
  refine till_take (i := 4) (v := (.pointer (some ⟨g, 0, none⟩))) rfl (by kernel_rfl) (fun _ _ _ h => h) (by rfl) ?_ ⟨e21, e22⟩ ?_
  · (intro w hSw; obtain ⟨s1, s2⟩ := hSw; go_simp)
  (try simp only [Act.put, List.setIfInBounds_toArray, List.set_cons_zero, List.set_cons_succ])
  refine till_take (i := 5) (v := (.slice a0 L0.length c0)) rfl (by kernel_rfl) (fun _ _ _ h => h) (by rfl) ?_ ⟨e21, e22⟩ ?_
  · (intro w hSw; obtain ⟨s1, s2⟩ := hSw; go_simp)
  (try simp only [Act.put, List.setIfInBounds_toArray, List.set_cons_zero, List.set_cons_succ])
  refine till_take (i := 6) (v := (.agg #[.int .i64 3, .slice none 0 0, .slice none 0 0, .int .i64 0])) rfl (by kernel_rfl) (fun _ _ _ h => h) (by rfl) ?_ ⟨e21, e22⟩ ?_
  · (intro w hSw; obtain ⟨s1, s2⟩ := hSw; go_simp)
  (try simp only [Act.put, List.setIfInBounds_toArray, List.set_cons_zero, List.set_cons_succ])
  refine till_step (i := 7) rfl (by kernel_rfl) (fun K hK => ?_)
  go_simp
  have HT5 : Hid (BtC T B R Wb P w (w2.drew.alloc (.cells #[.int .i64 3, .slice none 0 0, .slice none 0 0, .int .i64 0] 122)) (p) cv xs g n cap L0 (.slice a0 L0.length c0) LT) := HTd.out.alloc (by omega) hle (by omega) hs2 _
  have hs5 : Wb ≤ (w2.drew.alloc (.cells #[.int .i64 3, .slice none 0 0, .slice none 0 0, .int .i64 0] 122)).heap.size := by simp; omega
  obtain ⟨e51, e52, f52, l51, l52, _⟩ := HT5.out.cells
  refine hK.out _ _ (fun _ => ⟨e51, e52⟩) ?_
  (try simp only [Act.put, List.setIfInBounds_toArray, List.set_cons_zero, List.set_cons_succ])
  clear hK
  refine till_step (i := 8) rfl (by kernel_rfl) (fun K hK => ?_)
  refine step_append_lies _ (by rfl) _ _ 113 (by rfl) Wb 122 i1 (.agg #[.int .i64 0, .slice none 0 0, .slice none 0 0, .int .i64 0]) 4 64 Try.underlying113 hi1 hy0 hy1 hy2 rfl (by omega) _ L0.length (acCells L0) (by rfl) HT5.out.cells.2.2.2.2.2 _ 1 1 [.int .i64 3, .slice none 0 0, .slice none 0 0, .int .i64 0] (by rfl) rfl (by intro j u hj; rcases j with _ | _ | _ | _ | j <;> simp at hj <;> subst hj <;> simp [Addr.add]) (by intro u hu; simp at hu; rcases hu with rfl | rfl | rfl | rfl <;> rfl) (by omega) (by unfold maxLen; omega) (by omega) hs5 _ (by rfl) ?_
  intro g4 cap4 w4 hown4 hgrow4 hat4 hlt4
  obtain ⟨e41, e42, f42, l41, l42, hT4⟩ := HT5.out.app (a := ⟨3, [], [], 0⟩) hle hs5 hown4 hgrow4 hat4 ⟨.inr (own_none _ _).1, .inr (own_none _ _).2⟩
  have HT4 : Hid (BtC T B R Wb P w (w4.setCell ⟨g, 0, none⟩ (.slice (some ⟨g4, 0, none⟩) (L0.length + 1) cap4)) (p) cv xs g n cap (L0 ++ [(⟨3, [], [], 0⟩, .slice none 0 0, .slice none 0 0)]) (.slice (some ⟨g4, 0, none⟩) (L0.length + 1) cap4) LT) := hT4
  clear hown4 hgrow4 hat4 hT4
  refine hK.out _ _ (fun _ => ⟨e41, e42⟩) ?_
  (try simp only [Act.put, List.setIfInBounds_toArray, List.set_cons_zero, List.set_cons_succ])
  clear hK
  refine till_take (i := 9) (v := (.pointer (some ⟨g, 0, none⟩))) rfl (by kernel_rfl) (fun _ _ _ h => h) (by rfl) ?_ ⟨e41, e42⟩ ?_
  · (intro w hSw; obtain ⟨s1, s2⟩ := hSw; go_simp)
  (try simp only [Act.put, List.setIfInBounds_toArray, List.set_cons_zero, List.set_cons_succ])
  refine till_step (i := 10) rfl (by kernel_rfl) (fun K hK => ?_)
  go_simp
  refine hK.out _ _ (fun h => absurd rfl h) ?_
  refine till_done (by kernel_rfl) ?_ _
  (try simp only [Act.put, List.setIfInBounds_toArray, List.set_cons_zero, List.set_cons_succ])
  exact NoPanic.normal (hQ.out _ _ _ _ _ _ _ _ _ _ _ _ _ _ HT4.out)
set_option maxRecDepth 100000 in
set_option maxHeartbeats 4000000 in
theorem bent_reg20 (T : Nat → Prop) (B R Wb P p : Nat) (w w2 : World) (cv : Value) (xs : List Int) (g n cap : Nat) (L0 : List (Ac × Value × Value)) (a0 : Option Addr) (c0 : Nat) (LT : List (List (Ac × Value × Value) × Value)) (HT : Hid (BtC T B R Wb P w w2 p cv xs g n cap L0 (.slice a0 L0.length c0) LT))
    (hp : p ≤ 900000) (hW : Wb ≤ w.heap.size) (hlt : R < B) (hle : B ≤ Wb) (hPs : Wb + 1 < P) (hn0 : 0 < n) (hn5 : n ≤ 10) (hL0 : L0.length ≤ 20) (Q : Exit → Act → World → Prop) (u1 u2 u3 u4 u6 u7 u8 u9 u10 u11 u12 u13 u14 u15 u16 u17 u18 u19 u20 u21 u22 u23 u24 u25 u26 u27 u28 u29 u30 u31 u32 u33 u34 u35 u36 u37 u38 u39 u40 u41 u42 u43 u44 u45 u46 u47 u48 u49 u50 u51 u52 u53 u54 u55 u56 u57 u58 u59 u60 u61 u62 u63 u64 u65 u66 u67 u68 u69 u70 u71 u72 u73 u74 u75 u76 u77 u78 u79 u80 u81 u82 u83 u84 u85 u86 u87 u88 u89 u90 u91 u92 u93 u94 u95 u96 u97 u98 u99 u100 u101 u102 u103 u104 u105 u106 u107 u108 u109 u110 u111 u112 u113 u114 u115 u116 u117 u118 u119 u120 u121 u122 u123 u124 u125 u126 u127 u128 u129 u130 u131 u132 u133 u134 u135 u136 u137 u138 u139 u140 u141 u142 u143 : Value)
    (hQ : Hid (∀ (v98 v99 v100 v101 v102 v103 v104 v105 v106 v107 v108 v109 v110 v111 v112 v113 v114 v115 v116 v117 : Value) (V : World) (x : Ac × Value × Value) (g4 cap4 : Nat), BtC T B R Wb P w V (p + 3) cv xs g n cap (L0 ++ [x]) (.slice (some ⟨g4, 0, none⟩) (L0.length + 1) cap4) LT → Q .normal ⟨(.pointer (some ⟨R, 0, none⟩) :: u1 :: u2 :: u3 :: u4 :: .pointer (some ⟨P, 0, none⟩) :: u6 :: u7 :: u8 :: u9 :: u10 :: u11 :: u12 :: u13 :: u14 :: u15 :: u16 :: u17 :: u18 :: u19 :: u20 :: u21 :: u22 :: u23 :: u24 :: u25 :: u26 :: u27 :: u28 :: u29 :: u30 :: u31 :: u32 :: u33 :: u34 :: u35 :: u36 :: u37 :: u38 :: u39 :: u40 :: u41 :: u42 :: u43 :: u44 :: u45 :: u46 :: u47 :: u48 :: u49 :: u50 :: u51 :: u52 :: u53 :: u54 :: u55 :: u56 :: u57 :: u58 :: u59 :: u60 :: u61 :: u62 :: u63 :: u64 :: u65 :: u66 :: u67 :: u68 :: u69 :: u70 :: u71 :: u72 :: u73 :: u74 :: u75 :: u76 :: u77 :: u78 :: u79 :: u80 :: u81 :: u82 :: u83 :: u84 :: u85 :: u86 :: u87 :: u88 :: u89 :: u90 :: u91 :: u92 :: u93 :: u94 :: u95 :: u96 :: u97 :: v98 :: v99 :: v100 :: v101 :: v102 :: v103 :: v104 :: v105 :: v106 :: v107 :: v108 :: v109 :: v110 :: v111 :: v112 :: v113 :: v114 :: v115 :: v116 :: v117 :: u118 :: u119 :: u120 :: u121 :: u122 :: u123 :: u124 :: u125 :: u126 :: u127 :: u128 :: u129 :: u130 :: u131 :: u132 :: u133 :: u134 :: u135 :: u136 :: u137 :: u138 :: u139 :: u140 :: u141 :: u142 :: u143 :: []).toArray, []⟩ V)) :
    Code.wp Try.prog (bentReg 20) Q ⟨(.pointer (some ⟨R, 0, none⟩) :: u1 :: u2 :: u3 :: u4 :: .pointer (some ⟨P, 0, none⟩) :: u6 :: u7 :: u8 :: u9 :: u10 :: u11 :: u12 :: u13 :: u14 :: u15 :: u16 :: u17 :: u18 :: u19 :: u20 :: u21 :: u22 :: u23 :: u24 :: u25 :: u26 :: u27 :: u28 :: u29 :: u30 :: u31 :: u32 :: u33 :: u34 :: u35 :: u36 :: u37 :: u38 :: u39 :: u40 :: u41 :: u42 :: u43 :: u44 :: u45 :: u46 :: u47 :: u48 :: u49 :: u50 :: u51 :: u52 :: u53 :: u54 :: u55 :: u56 :: u57 :: u58 :: u59 :: u60 :: u61 :: u62 :: u63 :: u64 :: u65 :: u66 :: u67 :: u68 :: u69 :: u70 :: u71 :: u72 :: u73 :: u74 :: u75 :: u76 :: u77 :: u78 :: u79 :: u80 :: u81 :: u82 :: u83 :: u84 :: u85 :: u86 :: u87 :: u88 :: u89 :: u90 :: u91 :: u92 :: u93 :: u94 :: u95 :: u96 :: u97 :: u98 :: u99 :: u100 :: u101 :: u102 :: u103 :: u104 :: u105 :: u106 :: u107 :: u108 :: u109 :: u110 :: u111 :: u112 :: u113 :: u114 :: u115 :: u116 :: u117 :: u118 :: u119 :: u120 :: u121 :: u122 :: u123 :: u124 :: u125 :: u126 :: u127 :: u128 :: u129 :: u130 :: u131 :: u132 :: u133 :: u134 :: u135 :: u136 :: u137 :: u138 :: u139 :: u140 :: u141 :: u142 :: u143 :: []).toArray, []⟩ w2 := by
  obtain ⟨i1, hi1, hy0, hy1, hy2⟩ := info_parts Try.info_act
  have hs2 : Wb ≤ w2.heap.size := Nat.le_trans hW HT.out.fr.size
  have HTd : Hid (BtC T B R Wb P w w2.drew p cv xs g n cap L0 (.slice a0 L0.length c0) LT) := HT.out.next (HT.out.rd.below (Below.refl _ _).drew) (Fr.of_below (Below.refl _ _).drew) (by omega) (by omega) hs2
  obtain ⟨e21, e22, f22, l21, l22, _⟩ := HTd.out.cells
  conv => arg 2; whnf
  refine wp_region_noPanic ?_
  refine till_begin (S := fun w' => w'.cell? ⟨P, 1, none⟩ = some (.slice (some ⟨g, 0, none⟩) n cap) ∧ w'.cell? ⟨g, 0, none⟩ = some (.slice a0 L0.length c0)) (z := 20) (by kernel_rfl) ?_
  refine till_take (i := 0) (v := (.pointer (some ⟨P, 1, none⟩))) rfl (by kernel_rfl) (fun _ _ _ h => h) (by rfl) ?_ ⟨e21, e22⟩ ?_
  · (intro w hSw; obtain ⟨s1, s2⟩ := hSw; go_simp)
  (try simp only [Act.put, List.setIfInBounds_toArray, List.set_cons_zero, List.set_cons_succ])
  refine till_take (i := 1) (v := (.slice (some ⟨g, 0, none⟩) n cap)) rfl (by kernel_rfl) (fun _ _ _ h => h) (by rfl) ?_ ⟨e21, e22⟩ ?_
  · (intro w hSw; obtain ⟨s1, s2⟩ := hSw; go_simp)
  (try simp only [Act.put, List.setIfInBounds_toArray, List.set_cons_zero, List.set_cons_succ])
  refine till_take (i := 2) (v := (.pointer (some ⟨P, 1, none⟩))) rfl (by kernel_rfl) (fun _ _ _ h => h) (by rfl) ?_ ⟨e21, e22⟩ ?_
  · (intro w hSw; obtain ⟨s1, s2⟩ := hSw; go_simp)
  (try simp only [Act.put, List.setIfInBounds_toArray, List.set_cons_zero, List.set_cons_succ])
  refine till_take (i := 3) (v := (.slice (some ⟨g, 0, none⟩) n cap)) rfl (by kernel_rfl) (fun _ _ _ h => h) (by rfl) ?_ ⟨e21, e22⟩ ?_
  · (intro w hSw; obtain ⟨s1, s2⟩ := hSw; go_simp)
  (try simp only [Act.put, List.setIfInBounds_toArray, List.set_cons_zero, List.set_cons_succ])
  refine till_take (i := 4) (v := (.pointer (some ⟨g, 0, none⟩))) rfl (by kernel_rfl) (fun _ _ _ h => h) (by rfl) ?_ ⟨e21, e22⟩ ?_
  · (intro w hSw; obtain ⟨s1, s2⟩ := hSw; go_simp)
  (try simp only [Act.put, List.setIfInBounds_toArray, List.set_cons_zero, List.set_cons_succ])
  refine till_take (i := 5) (v := (.slice a0 L0.length c0)) rfl (by kernel_rfl) (fun _ _ _ h => h) (by rfl) ?_ ⟨e21, e22⟩ ?_
  · (intro w hSw; obtain ⟨s1, s2⟩ := hSw; go_simp)
  (try simp only [Act.put, List.setIfInBounds_toArray, List.set_cons_zero, List.set_cons_succ])
  refine till_take (i := 6) (v := (.pointer (some ⟨R, 0, none⟩))) rfl (by kernel_rfl) (fun _ _ _ h => h) (by rfl) ?_ ⟨e21, e22⟩ ?_
  · (intro w hSw; obtain ⟨s1, s2⟩ := hSw; go_simp)
  (try simp only [Act.put, List.setIfInBounds_toArray, List.set_cons_zero, List.set_cons_succ])
  refine till_take (i := 8) (v := (.pointer (some ⟨R, 0, none⟩))) rfl (by kernel_rfl) (fun _ _ _ h => h) (by rfl) ?_ ⟨e21, e22⟩ ?_
  · (intro w hSw; obtain ⟨s1, s2⟩ := hSw; go_simp)
  (try simp only [Act.put, List.setIfInBounds_toArray, List.set_cons_zero, List.set_cons_succ])
  refine till_take (i := 11) (v := (.pointer (some ⟨R, 0, none⟩))) rfl (by kernel_rfl) (fun _ _ _ h => h) (by rfl) ?_ ⟨e21, e22⟩ ?_
  · (intro w hSw; obtain ⟨s1, s2⟩ := hSw; go_simp)
  (try simp only [Act.put, List.setIfInBounds_toArray, List.set_cons_zero, List.set_cons_succ])
  refine till_step (i := 7) rfl (by kernel_rfl) (fun K hK => ?_)
  go_simp
  go_at_call 48
  refine (pick_any B R _ _ _ HTd.out.rd (by omega) (by omega) (by omega)).mono ?_
  rintro e w3 ⟨q3, rfl, q30, q31, hR3, hF3⟩
  have HT3 : Hid (BtC T B R Wb P w w3 (p + 1) cv xs g n cap L0 (.slice a0 L0.length c0) LT) := HTd.out.next hR3 hF3 (by omega) (by omega) hs2
  have hs3 : Wb ≤ w3.heap.size := Nat.le_trans hW HT3.out.fr.size
  obtain ⟨e31, e32, f32, l31, l32, _⟩ := HT3.out.cells
  have hsub3 : IntKind.i64.wrap (q3 - 1) = q3 - 1 := by rw [IntKind.wrap_i64]; omega
  clear hR3 hF3
  refine hK.out _ _ (fun _ => ⟨e31, e32⟩) ?_
  (try simp only [Act.put, List.setIfInBounds_toArray, List.set_cons_zero, List.set_cons_succ])
  clear hK
  refine till_step (i := 9) rfl (by kernel_rfl) (fun K hK => ?_)
  go_simp
  go_at_call 48
  refine (pick_any B R _ _ _ HT3.out.rd (by omega) (by omega) (by omega)).mono ?_
  rintro e w5 ⟨q5, rfl, q50, q51, hR5, hF5⟩
  have HT5 : Hid (BtC T B R Wb P w w5 (p + 1 + 1) cv xs g n cap L0 (.slice a0 L0.length c0) LT) := HT3.out.next hR5 hF5 (by omega) (by omega) hs3
  have hs5 : Wb ≤ w5.heap.size := Nat.le_trans hW HT5.out.fr.size
  obtain ⟨e51, e52, f52, l51, l52, _⟩ := HT5.out.cells
  have hsub5 : IntKind.i64.wrap (q5 - 1) = q5 - 1 := by rw [IntKind.wrap_i64]; omega
  clear hR5 hF5
  refine hK.out _ _ (fun _ => ⟨e51, e52⟩) ?_
  (try simp only [Act.put, List.setIfInBounds_toArray, List.set_cons_zero, List.set_cons_succ])
  clear hK
  refine till_take (i := 10) (v := (.int .i64 (q5 - 1))) rfl (by kernel_rfl) (fun _ _ _ h => h) (by rfl) ?_ ⟨e51, e52⟩ ?_
  · (intro w hSw; obtain ⟨s1, s2⟩ := hSw; go_simp)
  (try simp only [Act.put, List.setIfInBounds_toArray, List.set_cons_zero, List.set_cons_succ])
  refine till_step (i := 12) rfl (by kernel_rfl) (fun K hK => ?_)
  go_simp
  go_at_call 48
  refine (pick_any B R _ _ _ HT5.out.rd (by omega) (by omega) (by omega)).mono ?_
  rintro e w7 ⟨q7, rfl, q70, q71, hR7, hF7⟩
  have HT7 : Hid (BtC T B R Wb P w w7 (p + 1 + 1 + 1) cv xs g n cap L0 (.slice a0 L0.length c0) LT) := HT5.out.next hR7 hF7 (by omega) (by omega) hs5
  have hs7 : Wb ≤ w7.heap.size := Nat.le_trans hW HT7.out.fr.size
  obtain ⟨e71, e72, f72, l71, l72, _⟩ := HT7.out.cells
  have hsub7 : IntKind.i64.wrap (q7 - 1) = q7 - 1 := by rw [IntKind.wrap_i64]; omega
  clear hR7 hF7
  refine hK.out _ _ (fun _ => ⟨e71, e72⟩) ?_
  (try simp only [Act.put, List.setIfInBounds_toArray, List.set_cons_zero, List.set_cons_succ])
  clear hK
  refine till_take (i := 13) (v := (.int .i64 (q7 - 1))) rfl (by kernel_rfl) (fun _ _ _ h => h) (by rfl) ?_ ⟨e71, e72⟩ ?_
  · (intro w hSw; obtain ⟨s1, s2⟩ := hSw; go_simp)
  (try simp only [Act.put, List.setIfInBounds_toArray, List.set_cons_zero, List.set_cons_succ])
  refine till_take (i := 14) (v := (.agg #[.int .i64 q3, .int .i64 (q5 - 1), .int .i64 (q7 - 1)])) rfl (by kernel_rfl) (fun _ _ _ h => h) (by rfl) ?_ ⟨e71, e72⟩ ?_
  · (intro w hSw; obtain ⟨s1, s2⟩ := hSw; go_simp)
  (try simp only [Act.put, List.setIfInBounds_toArray, List.set_cons_zero, List.set_cons_succ])
  refine till_step (i := 15) rfl (by kernel_rfl) (fun K hK => ?_)
  go_simp
  have HT8 : Hid (BtC T B R Wb P w (w7.alloc (.cells #[.int .i64 q3, .int .i64 (q5 - 1), .int .i64 (q7 - 1)] 125)) (p + 1 + 1 + 1) cv xs g n cap L0 (.slice a0 L0.length c0) LT) := HT7.out.alloc (by omega) hle (by omega) hs7 _
  have hs8 : Wb ≤ (w7.alloc (.cells #[.int .i64 q3, .int .i64 (q5 - 1), .int .i64 (q7 - 1)] 125)).heap.size := by simp; omega
  obtain ⟨e81, e82, f82, l81, l82, _⟩ := HT8.out.cells
  refine hK.out _ _ (fun _ => ⟨e81, e82⟩) ?_
  (try simp only [Act.put, List.setIfInBounds_toArray, List.set_cons_zero, List.set_cons_succ])
  clear hK
  refine till_take (i := 16) (v := (.agg #[.int .i64 1, (.slice (some ⟨w7.heap.size, 0, none⟩) 1 1), .slice none 0 0, .int .i64 0])) rfl (by kernel_rfl) (fun _ _ _ h => h) (by rfl) ?_ ⟨e81, e82⟩ ?_
  · (intro w hSw; obtain ⟨s1, s2⟩ := hSw; go_simp)
  (try simp only [Act.put, List.setIfInBounds_toArray, List.set_cons_zero, List.set_cons_succ])
  refine till_step (i := 17) rfl (by kernel_rfl) (fun K hK => ?_)
  go_simp
  have HT6 : Hid (BtC T B R Wb P w ((w7.alloc (.cells #[.int .i64 q3, .int .i64 (q5 - 1), .int .i64 (q7 - 1)] 125)).alloc (.cells #[.int .i64 1, (.slice (some ⟨w7.heap.size, 0, none⟩) 1 1), .slice none 0 0, .int .i64 0] 122)) (p + 1 + 1 + 1) cv xs g n cap L0 (.slice a0 L0.length c0) LT) := HT8.out.alloc (by omega) hle (by omega) hs8 _
  have hs6 : Wb ≤ ((w7.alloc (.cells #[.int .i64 q3, .int .i64 (q5 - 1), .int .i64 (q7 - 1)] 125)).alloc (.cells #[.int .i64 1, (.slice (some ⟨w7.heap.size, 0, none⟩) 1 1), .slice none 0 0, .int .i64 0] 122)).heap.size := by simp; omega
  obtain ⟨e61, e62, f62, l61, l62, _⟩ := HT6.out.cells
  refine hK.out _ _ (fun _ => ⟨e61, e62⟩) ?_
  (try simp only [Act.put, List.setIfInBounds_toArray, List.set_cons_zero, List.set_cons_succ])
  clear hK
  refine till_step (i := 18) rfl (by kernel_rfl) (fun K hK => ?_)
  refine step_append_lies _ (by rfl) _ _ 113 (by rfl) Wb 122 i1 (.agg #[.int .i64 0, .slice none 0 0, .slice none 0 0, .int .i64 0]) 4 64 Try.underlying113 hi1 hy0 hy1 hy2 rfl (by omega) _ L0.length (acCells L0) (by rfl) HT6.out.cells.2.2.2.2.2 _ 1 1 [.int .i64 1, (.slice (some ⟨w7.heap.size, 0, none⟩) 1 1), .slice none 0 0, .int .i64 0] (by rfl) rfl (by intro j u hj; rcases j with _ | _ | _ | _ | j <;> simp at hj <;> subst hj <;> simp [Addr.add]) (by intro u hu; simp at hu; rcases hu with rfl | rfl | rfl | rfl <;> rfl) (by omega) (by unfold maxLen; omega) (by omega) hs6 _ (by rfl) ?_
  intro g4 cap4 w4 hown4 hgrow4 hat4 hlt4
  obtain ⟨e41, e42, f42, l41, l42, hT4⟩ := HT6.out.app (a := ⟨1, [⟨q3, q5 - 1, q7 - 1⟩], [], 0⟩) hle hs6 hown4 hgrow4 hat4 ⟨.inr (World.ownsRow.alloc (own_one w7 125 3 Wb [.int .i64 q3, .int .i64 (q5 - 1), .int .i64 (q7 - 1)] rfl hs7) _), .inr (own_none _ _).2⟩
  have HT4 : Hid (BtC T B R Wb P w (w4.setCell ⟨g, 0, none⟩ (.slice (some ⟨g4, 0, none⟩) (L0.length + 1) cap4)) (p + 1 + 1 + 1) cv xs g n cap (L0 ++ [(⟨1, [⟨q3, q5 - 1, q7 - 1⟩], [], 0⟩, (.slice (some ⟨w7.heap.size, 0, none⟩) 1 1), .slice none 0 0)]) (.slice (some ⟨g4, 0, none⟩) (L0.length + 1) cap4) LT) := hT4
  clear hown4 hgrow4 hat4 hT4
  refine hK.out _ _ (fun _ => ⟨e41, e42⟩) ?_
  (try simp only [Act.put, List.setIfInBounds_toArray, List.set_cons_zero, List.set_cons_succ])
  clear hK
  refine till_take (i := 19) (v := (.pointer (some ⟨g, 0, none⟩))) rfl (by kernel_rfl) (fun _ _ _ h => h) (by rfl) ?_ ⟨e41, e42⟩ ?_
  · (intro w hSw; obtain ⟨s1, s2⟩ := hSw; go_simp)
  (try simp only [Act.put, List.setIfInBounds_toArray, List.set_cons_zero, List.set_cons_succ])
  refine till_step (i := 20) rfl (by kernel_rfl) (fun K hK => ?_)
  go_simp
  refine hK.out _ _ (fun h => absurd rfl h) ?_
  refine till_done (by kernel_rfl) ?_ _
  (try simp only [Act.put, List.setIfInBounds_toArray, List.set_cons_zero, List.set_cons_succ])
  exact NoPanic.normal (hQ.out _ _ _ _ _ _ _ _ _ _ _ _ _ _ _ _ _ _ _ _ _ _ _ _ HT4.out)
end Go.Proofs.Ytgbgjljflgbcaaa
