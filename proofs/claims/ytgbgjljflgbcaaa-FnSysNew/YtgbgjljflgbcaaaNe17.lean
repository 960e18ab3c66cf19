import Derived.Test.YtgbgjljflgbcaaaNe16
import Derived.Test.YtgbgjljflgbcaaaNe13
namespace Go.Proofs.Ytgbgjljflgbcaaa
open Go.RowKit
set_option linter.unusedSimpArgs false
set_option linter.unusedVariables false
def findReg (k : Nat) : Code → Option Code
  | .region i ops b => if i = k then some (.region i ops b) else none
  | .seq a b => match findReg k a with
    | some c => some c
    | none => findReg k b
  | .block _ c => findReg k c
  | .loop c => findReg k c
  | .scope c => findReg k c
  | .cond _ a b => match findReg k a with
    | some c => some c
    | none => findReg k b
  | _ => none
noncomputable def bentReg (k : Nat) : Code := ((Try.f80.body.bind (findReg k)).getD .skip)
set_option maxRecDepth 100000 in
set_option maxHeartbeats 4000000 in
theorem bent_reg16 (T : Nat → Prop) (B R Wb P p : Nat) (w w2 : World) (cv : Value) (xs : List Int) (g n cap : Nat) (L0 : List (Ac × Value × Value)) (a0 : Option Addr) (c0 : Nat) (LT : List (List (Ac × Value × Value) × Value)) (HT : Hid (BtC T B R Wb P w w2 p cv xs g n cap L0 (.slice a0 L0.length c0) LT))
    (hp : p ≤ 900000) (hW : Wb ≤ w.heap.size) (hlt : R < B) (hle : B ≤ Wb) (hPs : Wb + 1 < P) (hn0 : 0 < n) (hn5 : n ≤ 10) (hL0 : L0.length ≤ 20) (Q : Exit → Act → World → Prop) (u1 u2 u3 u4 u6 u7 u8 u9 u10 u11 u12 u13 u14 u15 u16 u17 u18 u19 u20 u21 u22 u23 u24 u25 u26 u27 u28 u29 u30 u31 u32 u33 u34 u35 u36 u37 u38 u39 u40 u41 u42 u43 u44 u45 u46 u47 u48 u49 u50 u51 u52 u53 u54 u55 u56 u57 u58 u59 u60 u61 u62 u63 u64 u65 u66 u67 u68 u69 u70 u71 u72 u73 u74 u75 u76 u77 u78 u79 u80 u81 u82 u83 u84 u85 u86 u87 u88 u89 u90 u91 u92 u93 u94 u95 u96 u97 u98 u99 u100 u101 u102 u103 u104 u105 u106 u107 u108 u109 u110 u111 u112 u113 u114 u115 u116 u117 u118 u119 u120 u121 u122 u123 u124 u125 u126 u127 u128 u129 u130 u131 u132 u133 u134 u135 u136 u137 u138 u139 u140 u141 u142 u143 : Value)
    (hQ : Hid (∀ (v67 v68 v69 v70 v71 v72 v73 v74 v75 v76 v77 v78 v79 : Value) (V : World) (x : Ac × Value × Value) (g4 cap4 : Nat), BtC T B R Wb P w V (p + 1) cv xs g n cap (L0 ++ [x]) (.slice (some ⟨g4, 0, none⟩) (L0.length + 1) cap4) LT → Q .normal ⟨(.pointer (some ⟨R, 0, none⟩) :: u1 :: u2 :: u3 :: u4 :: .pointer (some ⟨P, 0, none⟩) :: u6 :: u7 :: u8 :: u9 :: u10 :: u11 :: u12 :: u13 :: u14 :: u15 :: u16 :: u17 :: u18 :: u19 :: u20 :: u21 :: u22 :: u23 :: u24 :: u25 :: u26 :: u27 :: u28 :: u29 :: u30 :: u31 :: u32 :: u33 :: u34 :: u35 :: u36 :: u37 :: u38 :: u39 :: u40 :: u41 :: u42 :: u43 :: u44 :: u45 :: u46 :: u47 :: u48 :: u49 :: u50 :: u51 :: u52 :: u53 :: u54 :: u55 :: u56 :: u57 :: u58 :: u59 :: u60 :: u61 :: u62 :: u63 :: u64 :: u65 :: u66 :: v67 :: v68 :: v69 :: v70 :: v71 :: v72 :: v73 :: v74 :: v75 :: v76 :: v77 :: v78 :: v79 :: u80 :: u81 :: u82 :: u83 :: u84 :: u85 :: u86 :: u87 :: u88 :: u89 :: u90 :: u91 :: u92 :: u93 :: u94 :: u95 :: u96 :: u97 :: u98 :: u99 :: u100 :: u101 :: u102 :: u103 :: u104 :: u105 :: u106 :: u107 :: u108 :: u109 :: u110 :: u111 :: u112 :: u113 :: u114 :: u115 :: u116 :: u117 :: u118 :: u119 :: u120 :: u121 :: u122 :: u123 :: u124 :: u125 :: u126 :: u127 :: u128 :: u129 :: u130 :: u131 :: u132 :: u133 :: u134 :: u135 :: u136 :: u137 :: u138 :: u139 :: u140 :: u141 :: u142 :: u143 :: []).toArray, []⟩ V)) :
    Code.wp Try.prog (bentReg 16) Q ⟨(.pointer (some ⟨R, 0, none⟩) :: u1 :: u2 :: u3 :: u4 :: .pointer (some ⟨P, 0, none⟩) :: u6 :: u7 :: u8 :: u9 :: u10 :: u11 :: u12 :: u13 :: u14 :: u15 :: u16 :: u17 :: u18 :: u19 :: u20 :: u21 :: u22 :: u23 :: u24 :: u25 :: u26 :: u27 :: u28 :: u29 :: u30 :: u31 :: u32 :: u33 :: u34 :: u35 :: u36 :: u37 :: u38 :: u39 :: u40 :: u41 :: u42 :: u43 :: u44 :: u45 :: u46 :: u47 :: u48 :: u49 :: u50 :: u51 :: u52 :: u53 :: u54 :: u55 :: u56 :: u57 :: u58 :: u59 :: u60 :: u61 :: u62 :: u63 :: u64 :: u65 :: u66 :: u67 :: u68 :: u69 :: u70 :: u71 :: u72 :: u73 :: u74 :: u75 :: u76 :: u77 :: u78 :: u79 :: u80 :: u81 :: u82 :: u83 :: u84 :: u85 :: u86 :: u87 :: u88 :: u89 :: u90 :: u91 :: u92 :: u93 :: u94 :: u95 :: u96 :: u97 :: u98 :: u99 :: u100 :: u101 :: u102 :: u103 :: u104 :: u105 :: u106 :: u107 :: u108 :: u109 :: u110 :: u111 :: u112 :: u113 :: u114 :: u115 :: u116 :: u117 :: u118 :: u119 :: u120 :: u121 :: u122 :: u123 :: u124 :: u125 :: u126 :: u127 :: u128 :: u129 :: u130 :: u131 :: u132 :: u133 :: u134 :: u135 :: u136 :: u137 :: u138 :: u139 :: u140 :: u141 :: u142 :: u143 :: []).toArray, []⟩ w2 := by
  obtain ⟨i1, hi1, hy0, hy1, hy2⟩ := info_parts Try.info_act
  have hs2 : Wb ≤ w2.heap.size := Nat.le_trans hW HT.out.fr.size
  have HTd : Hid (BtC T B R Wb P w w2.drew p cv xs g n cap L0 (.slice a0 L0.length c0) LT) := HT.out.next (HT.out.rd.below (Below.refl _ _).drew) (Fr.of_below (Below.refl _ _).drew) (by omega) (by omega) hs2
  obtain ⟨e21, e22, f22, l21, l22, _⟩ := HTd.out.cells
  conv => arg 2; whnf
  refine wp_region_noPanic ?_
  refine till_begin (S := fun w' => w'.cell? ⟨P, 1, none⟩ = some (.slice (some ⟨g, 0, none⟩) n cap) ∧ w'.cell? ⟨g, 0, none⟩ = some (.slice a0 L0.length c0)) (z := 13) (by kernel_rfl) ?_
  refine till_take (i := 0) (v := (.pointer (some ⟨P, 1, none⟩))) rfl (by kernel_rfl) (fun _ _ _ h => h) (by rfl) ?_ ⟨e21, e22⟩ ?_
  · (intro w hSw; obtain ⟨s1, s2⟩ := hSw; go_simp)
  (try simp only [Act.put, List.setIfInBounds_toArray, List.set_cons_zero, List.set_cons_succ])
  refine till_take (i := 1) (v := (.slice (some ⟨g, 0, none⟩) n cap)) rfl (by kernel_rfl) (fun _ _ _ h => h) (by rfl) ?_ ⟨e21, e22⟩ ?_
  · (intro w hSw; obtain ⟨s1, s2⟩ := hSw; go_simp)
  (try simp only [Act.put, List.setIfInBounds_toArray, List.set_cons_zero, List.set_cons_succ])
  refine till_take (i := 2) (v := (.pointer (some ⟨P, 1, none⟩))) rfl (by kernel_rfl) (fun _ _ _ h => h) (by rfl) ?_ ⟨e21, e22⟩ ?_
  · (intro w hSw; obtain ⟨s1, s2⟩ := hSw; go_simp)
  (try simp only [Act.put, List.setIfInBounds_toArray, List.set_cons_zero, List.set_cons_succ])
  refine till_take (i := 3) (v := (.slice (some ⟨g, 0, none⟩) n cap)) rfl (by kernel_rfl) (fun _ _ _ h => h) (by rfl) ?_ ⟨e21, e22⟩ ?_
  · (intro w hSw; obtain ⟨s1, s2⟩ := hSw; go_simp)
  (try simp only [Act.put, List.setIfInBounds_toArray, List.set_cons_zero, List.set_cons_succ])
  refine till_take (i := 4) (v := (.pointer (some ⟨g, 0, none⟩))) rfl (by kernel_rfl) (fun _ _ _ h => h) (by rfl) ?_ ⟨e21, e22⟩ ?_
  · (intro w hSw; obtain ⟨s1, s2⟩ := hSw; go_simp)
  (try simp only [Act.put, List.setIfInBounds_toArray, List.set_cons_zero, List.set_cons_succ])
  refine till_take (i := 5) (v := (.slice a0 L0.length c0)) rfl (by kernel_rfl) (fun _ _ _ h => h) (by rfl) ?_ ⟨e21, e22⟩ ?_
  · (intro w hSw; obtain ⟨s1, s2⟩ := hSw; go_simp)
  (try simp only [Act.put, List.setIfInBounds_toArray, List.set_cons_zero, List.set_cons_succ])
  refine till_take (i := 6) (v := (.pointer (some ⟨R, 0, none⟩))) rfl (by kernel_rfl) (fun _ _ _ h => h) (by rfl) ?_ ⟨e21, e22⟩ ?_
  · (intro w hSw; obtain ⟨s1, s2⟩ := hSw; go_simp)
  (try simp only [Act.put, List.setIfInBounds_toArray, List.set_cons_zero, List.set_cons_succ])
  refine till_step (i := 7) rfl (by kernel_rfl) (fun K hK => ?_)
  go_simp
  go_at_call 48
  refine (pick_any B R _ _ _ HTd.out.rd (by omega) (by omega) (by omega)).mono ?_
  rintro e w3 ⟨q3, rfl, q30, q31, hR3, hF3⟩
  have HT3 : Hid (BtC T B R Wb P w w3 (p + 1) cv xs g n cap L0 (.slice a0 L0.length c0) LT) := HTd.out.next hR3 hF3 (by omega) (by omega) hs2
  have hs3 : Wb ≤ w3.heap.size := Nat.le_trans hW HT3.out.fr.size
  obtain ⟨e31, e32, f32, l31, l32, _⟩ := HT3.out.cells
  have hsub3 : IntKind.i64.wrap (q3 - 1) = q3 - 1 := by rw [IntKind.wrap_i64]; omega
  clear hR3 hF3
  refine hK.out _ _ (fun _ => ⟨e31, e32⟩) ?_
  (try simp only [Act.put, List.setIfInBounds_toArray, List.set_cons_zero, List.set_cons_succ])
  clear hK
  refine till_take (i := 8) (v := (.int .i64 (q3 - 1))) rfl (by kernel_rfl) (fun _ _ _ h => h) (by rfl) ?_ ⟨e31, e32⟩ ?_
  · (intro w hSw; obtain ⟨s1, s2⟩ := hSw; go_simp)
  (try simp only [Act.put, List.setIfInBounds_toArray, List.set_cons_zero, List.set_cons_succ])
  refine till_take (i := 9) (v := (.agg #[.int .i64 (q3 - 1), .slice none 0 0, .slice none 0 0, .int .i64 0])) rfl (by kernel_rfl) (fun _ _ _ h => h) (by rfl) ?_ ⟨e31, e32⟩ ?_
  · (intro w hSw; obtain ⟨s1, s2⟩ := hSw; go_simp)
  (try simp only [Act.put, List.setIfInBounds_toArray, List.set_cons_zero, List.set_cons_succ])
  refine till_step (i := 10) rfl (by kernel_rfl) (fun K hK => ?_)
  go_simp
  have HT5 : Hid (BtC T B R Wb P w (w3.alloc (.cells #[.int .i64 (q3 - 1), .slice none 0 0, .slice none 0 0, .int .i64 0] 122)) (p + 1) cv xs g n cap L0 (.slice a0 L0.length c0) LT) := HT3.out.alloc (by omega) hle (by omega) hs3 _
  have hs5 : Wb ≤ (w3.alloc (.cells #[.int .i64 (q3 - 1), .slice none 0 0, .slice none 0 0, .int .i64 0] 122)).heap.size := by simp; omega
  obtain ⟨e51, e52, f52, l51, l52, _⟩ := HT5.out.cells
  refine hK.out _ _ (fun _ => ⟨e51, e52⟩) ?_
  (try simp only [Act.put, List.setIfInBounds_toArray, List.set_cons_zero, List.set_cons_succ])
  clear hK
  refine till_step (i := 11) rfl (by kernel_rfl) (fun K hK => ?_)
  refine step_append_lies _ (by rfl) _ _ 113 (by rfl) Wb 122 i1 (.agg #[.int .i64 0, .slice none 0 0, .slice none 0 0, .int .i64 0]) 4 64 Try.underlying113 hi1 hy0 hy1 hy2 rfl (by omega) _ L0.length (acCells L0) (by rfl) HT5.out.cells.2.2.2.2.2 _ 1 1 [.int .i64 (q3 - 1), .slice none 0 0, .slice none 0 0, .int .i64 0] (by rfl) rfl (by intro j u hj; rcases j with _ | _ | _ | _ | j <;> simp at hj <;> subst hj <;> simp [Addr.add]) (by intro u hu; simp at hu; rcases hu with rfl | rfl | rfl | rfl <;> rfl) (by omega) (by unfold maxLen; omega) (by omega) hs5 _ (by rfl) ?_
  intro g4 cap4 w4 hown4 hgrow4 hat4 hlt4
  obtain ⟨e41, e42, f42, l41, l42, hT4⟩ := HT5.out.app (a := ⟨(q3 - 1), [], [], 0⟩) hle hs5 hown4 hgrow4 hat4 ⟨.inr (own_none _ _).1, .inr (own_none _ _).2⟩
  have HT4 : Hid (BtC T B R Wb P w (w4.setCell ⟨g, 0, none⟩ (.slice (some ⟨g4, 0, none⟩) (L0.length + 1) cap4)) (p + 1) cv xs g n cap (L0 ++ [(⟨(q3 - 1), [], [], 0⟩, .slice none 0 0, .slice none 0 0)]) (.slice (some ⟨g4, 0, none⟩) (L0.length + 1) cap4) LT) := hT4
  clear hown4 hgrow4 hat4 hT4
  refine hK.out _ _ (fun _ => ⟨e41, e42⟩) ?_
  (try simp only [Act.put, List.setIfInBounds_toArray, List.set_cons_zero, List.set_cons_succ])
  clear hK
  refine till_take (i := 12) (v := (.pointer (some ⟨g, 0, none⟩))) rfl (by kernel_rfl) (fun _ _ _ h => h) (by rfl) ?_ ⟨e41, e42⟩ ?_
  · (intro w hSw; obtain ⟨s1, s2⟩ := hSw; go_simp)
  (try simp only [Act.put, List.setIfInBounds_toArray, List.set_cons_zero, List.set_cons_succ])
  refine till_step (i := 13) rfl (by kernel_rfl) (fun K hK => ?_)
  go_simp
  refine hK.out _ _ (fun h => absurd rfl h) ?_
  refine till_done (by kernel_rfl) ?_ _
  (try simp only [Act.put, List.setIfInBounds_toArray, List.set_cons_zero, List.set_cons_succ])
  exact NoPanic.normal (hQ.out _ _ _ _ _ _ _ _ _ _ _ _ _ _ _ _ _ HT4.out)
set_option maxRecDepth 100000 in
set_option maxHeartbeats 4000000 in
theorem bent_reg24 (T : Nat → Prop) (B R Wb P p : Nat) (w w2 : World) (cv : Value) (xs : List Int) (g n cap : Nat) (L0 : List (Ac × Value × Value)) (a0 : Option Addr) (c0 : Nat) (LT : List (List (Ac × Value × Value) × Value)) (HT : Hid (BtC T B R Wb P w w2 p cv xs g n cap L0 (.slice a0 L0.length c0) LT))
    (hp : p ≤ 900000) (hW : Wb ≤ w.heap.size) (hlt : R < B) (hle : B ≤ Wb) (hPs : Wb + 1 < P) (hn0 : 0 < n) (hn5 : n ≤ 10) (hL0 : L0.length ≤ 20) (Q : Exit → Act → World → Prop) (u1 u2 u3 u4 u6 u7 u8 u9 u10 u11 u12 u13 u14 u15 u16 u17 u18 u19 u20 u21 u22 u23 u24 u25 u26 u27 u28 u29 u30 u31 u32 u33 u34 u35 u36 u37 u38 u39 u40 u41 u42 u43 u44 u45 u46 u47 u48 u49 u50 u51 u52 u53 u54 u55 u56 u57 u58 u59 u60 u61 u62 u63 u64 u65 u66 u67 u68 u69 u70 u71 u72 u73 u74 u75 u76 u77 u78 u79 u80 u81 u82 u83 u84 u85 u86 u87 u88 u89 u90 u91 u92 u93 u94 u95 u96 u97 u98 u99 u100 u101 u102 u103 u104 u105 u106 u107 u108 u109 u110 u111 u112 u113 u114 u115 u116 u117 u118 u119 u120 u121 u122 u123 u124 u125 u126 u127 u128 u129 u130 u131 u132 u133 u134 u135 u136 u137 u138 u139 u140 u141 u142 u143 : Value)
    (hQ : Hid (∀ (v130 v131 v132 v133 v134 v135 v136 v137 v138 v139 v140 v141 v142 : Value) (V : World) (x : Ac × Value × Value) (g4 cap4 : Nat), BtC T B R Wb P w V (p + 1) cv xs g n cap (L0 ++ [x]) (.slice (some ⟨g4, 0, none⟩) (L0.length + 1) cap4) LT → Q .normal ⟨(.pointer (some ⟨R, 0, none⟩) :: u1 :: u2 :: u3 :: u4 :: .pointer (some ⟨P, 0, none⟩) :: u6 :: u7 :: u8 :: u9 :: u10 :: u11 :: u12 :: u13 :: u14 :: u15 :: u16 :: u17 :: u18 :: u19 :: u20 :: u21 :: u22 :: u23 :: u24 :: u25 :: u26 :: u27 :: u28 :: u29 :: u30 :: u31 :: u32 :: u33 :: u34 :: u35 :: u36 :: u37 :: u38 :: u39 :: u40 :: u41 :: u42 :: u43 :: u44 :: u45 :: u46 :: u47 :: u48 :: u49 :: u50 :: u51 :: u52 :: u53 :: u54 :: u55 :: u56 :: u57 :: u58 :: u59 :: u60 :: u61 :: u62 :: u63 :: u64 :: u65 :: u66 :: u67 :: u68 :: u69 :: u70 :: u71 :: u72 :: u73 :: u74 :: u75 :: u76 :: u77 :: u78 :: u79 :: u80 :: u81 :: u82 :: u83 :: u84 :: u85 :: u86 :: u87 :: u88 :: u89 :: u90 :: u91 :: u92 :: u93 :: u94 :: u95 :: u96 :: u97 :: u98 :: u99 :: u100 :: u101 :: u102 :: u103 :: u104 :: u105 :: u106 :: u107 :: u108 :: u109 :: u110 :: u111 :: u112 :: u113 :: u114 :: u115 :: u116 :: u117 :: u118 :: u119 :: u120 :: u121 :: u122 :: u123 :: u124 :: u125 :: u126 :: u127 :: u128 :: u129 :: v130 :: v131 :: v132 :: v133 :: v134 :: v135 :: v136 :: v137 :: v138 :: v139 :: v140 :: v141 :: v142 :: u143 :: []).toArray, []⟩ V)) :
    Code.wp Try.prog (bentReg 24) Q ⟨(.pointer (some ⟨R, 0, none⟩) :: u1 :: u2 :: u3 :: u4 :: .pointer (some ⟨P, 0, none⟩) :: u6 :: u7 :: u8 :: u9 :: u10 :: u11 :: u12 :: u13 :: u14 :: u15 :: u16 :: u17 :: u18 :: u19 :: u20 :: u21 :: u22 :: u23 :: u24 :: u25 :: u26 :: u27 :: u28 :: u29 :: u30 :: u31 :: u32 :: u33 :: u34 :: u35 :: u36 :: u37 :: u38 :: u39 :: u40 :: u41 :: u42 :: u43 :: u44 :: u45 :: u46 :: u47 :: u48 :: u49 :: u50 :: u51 :: u52 :: u53 :: u54 :: u55 :: u56 :: u57 :: u58 :: u59 :: u60 :: u61 :: u62 :: u63 :: u64 :: u65 :: u66 :: u67 :: u68 :: u69 :: u70 :: u71 :: u72 :: u73 :: u74 :: u75 :: u76 :: u77 :: u78 :: u79 :: u80 :: u81 :: u82 :: u83 :: u84 :: u85 :: u86 :: u87 :: u88 :: u89 :: u90 :: u91 :: u92 :: u93 :: u94 :: u95 :: u96 :: u97 :: u98 :: u99 :: u100 :: u101 :: u102 :: u103 :: u104 :: u105 :: u106 :: u107 :: u108 :: u109 :: u110 :: u111 :: u112 :: u113 :: u114 :: u115 :: u116 :: u117 :: u118 :: u119 :: u120 :: u121 :: u122 :: u123 :: u124 :: u125 :: u126 :: u127 :: u128 :: u129 :: u130 :: u131 :: u132 :: u133 :: u134 :: u135 :: u136 :: u137 :: u138 :: u139 :: u140 :: u141 :: u142 :: u143 :: []).toArray, []⟩ w2 := by
  obtain ⟨i1, hi1, hy0, hy1, hy2⟩ := info_parts Try.info_act
  have hs2 : Wb ≤ w2.heap.size := Nat.le_trans hW HT.out.fr.size
  have HTd : Hid (BtC T B R Wb P w w2.drew p cv xs g n cap L0 (.slice a0 L0.length c0) LT) := HT.out.next (HT.out.rd.below (Below.refl _ _).drew) (Fr.of_below (Below.refl _ _).drew) (by omega) (by omega) hs2
  obtain ⟨e21, e22, f22, l21, l22, _⟩ := HTd.out.cells
  conv => arg 2; whnf
  refine wp_region_noPanic ?_
  refine till_begin (S := fun w' => w'.cell? ⟨P, 1, none⟩ = some (.slice (some ⟨g, 0, none⟩) n cap) ∧ w'.cell? ⟨g, 0, none⟩ = some (.slice a0 L0.length c0)) (z := 13) (by kernel_rfl) ?_
  refine till_take (i := 0) (v := (.pointer (some ⟨P, 1, none⟩))) rfl (by kernel_rfl) (fun _ _ _ h => h) (by rfl) ?_ ⟨e21, e22⟩ ?_
  · (intro w hSw; obtain ⟨s1, s2⟩ := hSw; go_simp)
  (try simp only [Act.put, List.setIfInBounds_toArray, List.set_cons_zero, List.set_cons_succ])
  refine till_take (i := 1) (v := (.slice (some ⟨g, 0, none⟩) n cap)) rfl (by kernel_rfl) (fun _ _ _ h => h) (by rfl) ?_ ⟨e21, e22⟩ ?_
  · (intro w hSw; obtain ⟨s1, s2⟩ := hSw; go_simp)
  (try simp only [Act.put, List.setIfInBounds_toArray, List.set_cons_zero, List.set_cons_succ])
  refine till_take (i := 2) (v := (.pointer (some ⟨P, 1, none⟩))) rfl (by kernel_rfl) (fun _ _ _ h => h) (by rfl) ?_ ⟨e21, e22⟩ ?_
  · (intro w hSw; obtain ⟨s1, s2⟩ := hSw; go_simp)
  (try simp only [Act.put, List.setIfInBounds_toArray, List.set_cons_zero, List.set_cons_succ])
  refine till_take (i := 3) (v := (.slice (some ⟨g, 0, none⟩) n cap)) rfl (by kernel_rfl) (fun _ _ _ h => h) (by rfl) ?_ ⟨e21, e22⟩ ?_
  · (intro w hSw; obtain ⟨s1, s2⟩ := hSw; go_simp)
  (try simp only [Act.put, List.setIfInBounds_toArray, List.set_cons_zero, List.set_cons_succ])
  refine till_take (i := 4) (v := (.pointer (some ⟨g, 0, none⟩))) rfl (by kernel_rfl) (fun _ _ _ h => h) (by rfl) ?_ ⟨e21, e22⟩ ?_
  · (intro w hSw; obtain ⟨s1, s2⟩ := hSw; go_simp)
  (try simp only [Act.put, List.setIfInBounds_toArray, List.set_cons_zero, List.set_cons_succ])
  refine till_take (i := 5) (v := (.slice a0 L0.length c0)) rfl (by kernel_rfl) (fun _ _ _ h => h) (by rfl) ?_ ⟨e21, e22⟩ ?_
  · (intro w hSw; obtain ⟨s1, s2⟩ := hSw; go_simp)
  (try simp only [Act.put, List.setIfInBounds_toArray, List.set_cons_zero, List.set_cons_succ])
  refine till_take (i := 6) (v := (.pointer (some ⟨R, 0, none⟩))) rfl (by kernel_rfl) (fun _ _ _ h => h) (by rfl) ?_ ⟨e21, e22⟩ ?_
  · (intro w hSw; obtain ⟨s1, s2⟩ := hSw; go_simp)
  (try simp only [Act.put, List.setIfInBounds_toArray, List.set_cons_zero, List.set_cons_succ])
  refine till_step (i := 7) rfl (by kernel_rfl) (fun K hK => ?_)
  go_simp
  go_at_call 48
  refine (pick_any B R _ _ _ HTd.out.rd (by omega) (by omega) (by omega)).mono ?_
  rintro e w3 ⟨q3, rfl, q30, q31, hR3, hF3⟩
  have HT3 : Hid (BtC T B R Wb P w w3 (p + 1) cv xs g n cap L0 (.slice a0 L0.length c0) LT) := HTd.out.next hR3 hF3 (by omega) (by omega) hs2
  have hs3 : Wb ≤ w3.heap.size := Nat.le_trans hW HT3.out.fr.size
  obtain ⟨e31, e32, f32, l31, l32, _⟩ := HT3.out.cells
  have hsub3 : IntKind.i64.wrap (q3 - 1) = q3 - 1 := by rw [IntKind.wrap_i64]; omega
  clear hR3 hF3
  refine hK.out _ _ (fun _ => ⟨e31, e32⟩) ?_
  (try simp only [Act.put, List.setIfInBounds_toArray, List.set_cons_zero, List.set_cons_succ])
  clear hK
  refine till_take (i := 8) (v := (.int .i64 (q3 - 1))) rfl (by kernel_rfl) (fun _ _ _ h => h) (by rfl) ?_ ⟨e31, e32⟩ ?_
  · (intro w hSw; obtain ⟨s1, s2⟩ := hSw; go_simp)
  (try simp only [Act.put, List.setIfInBounds_toArray, List.set_cons_zero, List.set_cons_succ])
  refine till_take (i := 9) (v := (.agg #[.int .i64 4, .slice none 0 0, .slice none 0 0, .int .i64 (q3 - 1)])) rfl (by kernel_rfl) (fun _ _ _ h => h) (by rfl) ?_ ⟨e31, e32⟩ ?_
  · (intro w hSw; obtain ⟨s1, s2⟩ := hSw; go_simp)
  (try simp only [Act.put, List.setIfInBounds_toArray, List.set_cons_zero, List.set_cons_succ])
  refine till_step (i := 10) rfl (by kernel_rfl) (fun K hK => ?_)
  go_simp
  have HT5 : Hid (BtC T B R Wb P w (w3.alloc (.cells #[.int .i64 4, .slice none 0 0, .slice none 0 0, .int .i64 (q3 - 1)] 122)) (p + 1) cv xs g n cap L0 (.slice a0 L0.length c0) LT) := HT3.out.alloc (by omega) hle (by omega) hs3 _
  have hs5 : Wb ≤ (w3.alloc (.cells #[.int .i64 4, .slice none 0 0, .slice none 0 0, .int .i64 (q3 - 1)] 122)).heap.size := by simp; omega
  obtain ⟨e51, e52, f52, l51, l52, _⟩ := HT5.out.cells
  refine hK.out _ _ (fun _ => ⟨e51, e52⟩) ?_
  (try simp only [Act.put, List.setIfInBounds_toArray, List.set_cons_zero, List.set_cons_succ])
  clear hK
  refine till_step (i := 11) rfl (by kernel_rfl) (fun K hK => ?_)
  refine step_append_lies _ (by rfl) _ _ 113 (by rfl) Wb 122 i1 (.agg #[.int .i64 0, .slice none 0 0, .slice none 0 0, .int .i64 0]) 4 64 Try.underlying113 hi1 hy0 hy1 hy2 rfl (by omega) _ L0.length (acCells L0) (by rfl) HT5.out.cells.2.2.2.2.2 _ 1 1 [.int .i64 4, .slice none 0 0, .slice none 0 0, .int .i64 (q3 - 1)] (by rfl) rfl (by intro j u hj; rcases j with _ | _ | _ | _ | j <;> simp at hj <;> subst hj <;> simp [Addr.add]) (by intro u hu; simp at hu; rcases hu with rfl | rfl | rfl | rfl <;> rfl) (by omega) (by unfold maxLen; omega) (by omega) hs5 _ (by rfl) ?_
  intro g4 cap4 w4 hown4 hgrow4 hat4 hlt4
  obtain ⟨e41, e42, f42, l41, l42, hT4⟩ := HT5.out.app (a := ⟨4, [], [], (q3 - 1)⟩) hle hs5 hown4 hgrow4 hat4 ⟨.inr (own_none _ _).1, .inr (own_none _ _).2⟩
  have HT4 : Hid (BtC T B R Wb P w (w4.setCell ⟨g, 0, none⟩ (.slice (some ⟨g4, 0, none⟩) (L0.length + 1) cap4)) (p + 1) cv xs g n cap (L0 ++ [(⟨4, [], [], (q3 - 1)⟩, .slice none 0 0, .slice none 0 0)]) (.slice (some ⟨g4, 0, none⟩) (L0.length + 1) cap4) LT) := hT4
  clear hown4 hgrow4 hat4 hT4
  refine hK.out _ _ (fun _ => ⟨e41, e42⟩) ?_
  (try simp only [Act.put, List.setIfInBounds_toArray, List.set_cons_zero, List.set_cons_succ])
  clear hK
  refine till_take (i := 12) (v := (.pointer (some ⟨g, 0, none⟩))) rfl (by kernel_rfl) (fun _ _ _ h => h) (by rfl) ?_ ⟨e41, e42⟩ ?_
  · (intro w hSw; obtain ⟨s1, s2⟩ := hSw; go_simp)
  (try simp only [Act.put, List.setIfInBounds_toArray, List.set_cons_zero, List.set_cons_succ])
  refine till_step (i := 13) rfl (by kernel_rfl) (fun K hK => ?_)
  go_simp
  refine hK.out _ _ (fun h => absurd rfl h) ?_
  refine till_done (by kernel_rfl) ?_ _
  (try simp only [Act.put, List.setIfInBounds_toArray, List.set_cons_zero, List.set_cons_succ])
  exact NoPanic.normal (hQ.out _ _ _ _ _ _ _ _ _ _ _ _ _ _ _ _ _ HT4.out)
end Go.Proofs.Ytgbgjljflgbcaaa
