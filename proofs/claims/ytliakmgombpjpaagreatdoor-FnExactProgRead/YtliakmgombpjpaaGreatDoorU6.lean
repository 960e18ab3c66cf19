/-
  spec.ProgRead: an act more in the last body.
-/
import Derived.Test.YtliakmgombpjpaaGreatDoorU6q
namespace Go.Proofs.YtliakmgombpjpaaGreatDoor
open Go.RowKit
set_option linter.unusedSimpArgs false
set_option linter.unusedVariables false
set_option maxRecDepth 20000

noncomputable def readReg (k : Nat) : Code := ((Tryz.f12.body.bind (findReg8 k)).getD .skip)

theorem split32 (x : List UInt8) (w : World) (hx : x.length ≤ 1048576) :
    Calls Tryz.prog 30 #[.string (bs x), .int .u8 32] w fun e w' => ∃ a k, e = .returned (.slice a (splC 32 x).length k) ∧ StrsAt w' (.slice a (splC 32 x).length k) (splC 32 x) ∧ Below w.heap.size w w' := by
  have := l1Split_any (bs x) 32 w (by rw [bs_size]; exact hx)
  rw [bs_data] at this
  refine this.mono ?_
  rintro e w' ⟨v', rfl, ho, hb⟩
  obtain ⟨a, k, rfl, _⟩ := own_shape ho
  exact ⟨a, k, rfl, ho.at, hb⟩
set_option maxRecDepth 100000 in
set_option maxHeartbeats 4000000 in
theorem read_reg17 (B P LB LC k : Nat) (w0 w5 : World) (cv : Value) (cs : List Int) (gb kb : Nat) (L0 : List (List Ac × Value)) (M : List (Ac × Value × Value)) (am : Option Addr) (km : Nat) (lines : List (List UInt8)) (line : List UInt8)
    (HPG : Hid (PQ B P w0 w5 cv (.slice (some ⟨gb, 0, none⟩) (L0.length + 1) kb) cs (L0 ++ [(M.map (·.1), .slice am M.length km)])))
    (HM : Hid (w5.ownsRow B 44 4 (.slice am M.length km) M.length (acCells M) ∧ ∀ x, x ∈ M → OwnDe B w5 x.2.1 x.1.ds ∧ OwnInt B w5 x.2.2 x.1.ks))
    (d0 : w5.cell? ⟨LB, k, none⟩ = some (.string (bs line))) (hLB : LB < B) (hLP : LB ≠ P) (hkl : k < lines.length) (hll : lines.length ≤ 1048577) (hlc : lines.length ≤ LC ∧ LC ≤ 9223372036854775807) (hline : line.length ≤ 1000) (hL : L0.length ≤ 1048577) (hMl : M.length ≤ 1048577)
    (Q : Exit → Act → World → Prop) (u0 u1 u2 u3 u5 u7 u10 u11 u12 u13 u14 u15 u16 u17 u18 u19 u20 u21 u22 u23 u24 u25 u26 u27 u28 u29 u30 u31 u32 u33 u34 u35 u36 u37 u38 u39 u40 u41 u42 u43 u44 u45 u46 u47 u48 u49 u50 u51 u52 u53 u54 u55 u56 u57 u58 u59 u60 u61 u62 u63 u64 u65 u66 u67 u68 u69 u70 u71 u72 u73 u74 u75 u76 u77 u78 u79 u80 u81 u82 u83 u84 u85 u86 u87 u88 u89 u90 u91 u92 u93 : Value)
    (hQ : Hid (∀ (v69 v70 v71 v72 v73 v74 v75 v76 v77 v78 v79 v80 v81 v82 v83 v84 v85 v86 v87 : Value) (V : World) (av : Value), PQ B P w0 V cv (.slice (some ⟨gb, 0, none⟩) (L0.length + 1) kb) cs (L0 ++ [(M.map (·.1) ++ [acS (splC 32 line)], av)]) → Q .normal ⟨(u0 :: u1 :: u2 :: u3 :: .slice (some ⟨LB, 0, none⟩) lines.length LC :: u5 :: .pointer (some ⟨P, 0, none⟩) :: u7 :: .int .i64 (k : Int) :: .int .i64 ((L0.length : Int) + 1) :: u10 :: u11 :: u12 :: u13 :: u14 :: u15 :: u16 :: u17 :: u18 :: u19 :: u20 :: u21 :: u22 :: u23 :: u24 :: u25 :: u26 :: u27 :: u28 :: u29 :: u30 :: u31 :: u32 :: u33 :: u34 :: u35 :: u36 :: u37 :: u38 :: u39 :: u40 :: u41 :: u42 :: u43 :: u44 :: u45 :: u46 :: u47 :: u48 :: u49 :: u50 :: u51 :: u52 :: u53 :: u54 :: u55 :: u56 :: u57 :: u58 :: u59 :: u60 :: u61 :: u62 :: u63 :: u64 :: u65 :: u66 :: u67 :: u68 :: v69 :: v70 :: v71 :: v72 :: v73 :: v74 :: v75 :: v76 :: v77 :: v78 :: v79 :: v80 :: v81 :: v82 :: v83 :: v84 :: v85 :: v86 :: v87 :: u88 :: u89 :: u90 :: u91 :: u92 :: u93 :: []).toArray, []⟩ V)) :
    Code.wp Tryz.prog (readReg 17) Q ⟨(u0 :: u1 :: u2 :: u3 :: .slice (some ⟨LB, 0, none⟩) lines.length LC :: u5 :: .pointer (some ⟨P, 0, none⟩) :: u7 :: .int .i64 (k : Int) :: .int .i64 ((L0.length : Int) + 1) :: u10 :: u11 :: u12 :: u13 :: u14 :: u15 :: u16 :: u17 :: u18 :: u19 :: u20 :: u21 :: u22 :: u23 :: u24 :: u25 :: u26 :: u27 :: u28 :: u29 :: u30 :: u31 :: u32 :: u33 :: u34 :: u35 :: u36 :: u37 :: u38 :: u39 :: u40 :: u41 :: u42 :: u43 :: u44 :: u45 :: u46 :: u47 :: u48 :: u49 :: u50 :: u51 :: u52 :: u53 :: u54 :: u55 :: u56 :: u57 :: u58 :: u59 :: u60 :: u61 :: u62 :: u63 :: u64 :: u65 :: u66 :: u67 :: u68 :: u69 :: u70 :: u71 :: u72 :: u73 :: u74 :: u75 :: u76 :: u77 :: u78 :: u79 :: u80 :: u81 :: u82 :: u83 :: u84 :: u85 :: u86 :: u87 :: u88 :: u89 :: u90 :: u91 :: u92 :: u93 :: []).toArray, []⟩ w5 := by
  obtain ⟨i1, hi1, hy0, hy1, hy2⟩ := info_parts Tryz.info_act
  have hs5 := HPG.out.size
  have hPl : P < w5.heap.size := Nat.lt_of_lt_of_le HPG.out.lt hs5
  have hLl : LB < w5.heap.size := Nat.lt_of_lt_of_le hLB hs5
  have hgbl := HPG.out.row.lt gb rfl
  have hkl' : (k : Int) < (lines.length : Int) := by omega
  have hw9 : IntKind.i64.wrap (L0.length : Int) = (L0.length : Int) := by rw [IntKind.wrap_i64]; omega
  have SD : (w5.drew).cell? ⟨P, 1, none⟩ = some (.slice (some ⟨gb, 0, none⟩) (L0.length + 1) kb) ∧ (w5.drew).cell? ⟨gb, L0.length, none⟩ = some (.slice am M.length km) ∧ (w5.drew).cell? ⟨LB, k, none⟩ = some (.string (bs line)) := by
    have hrow6 := HPG.out.row
    rw [show (L0 ++ [(M.map (·.1), Value.slice am M.length km)]).length = L0.length + 1 by simp] at hrow6
    have cg := hrow6.cellAt L0.length (by omega)
    rw [show ((L0 ++ [(M.map (·.1), Value.slice am M.length km)]).map (·.2))[L0.length]? = some (Value.slice am M.length km) by simp] at cg
    exact ⟨HPG.out.c1, cg, d0⟩
  have hbd : Below w5.heap.size w5 w5.drew := (Below.refl _ _).drew
  obtain ⟨a, ha⟩ : ∃ a, a = acS (splC 32 line) := ⟨_, rfl⟩
  have HA := (show Hid (_ = _) from ha)
  clear ha
  conv => arg 2; whnf
  refine wp_region_noPanic ?_
  refine till_begin (S := fun w' => w'.cell? ⟨P, 1, none⟩ = some (.slice (some ⟨gb, 0, none⟩) (L0.length + 1) kb) ∧ w'.cell? ⟨gb, L0.length, none⟩ = some (.slice am M.length km) ∧ w'.cell? ⟨LB, k, none⟩ = some (.string (bs line))) (z := 19) (by kernel_rfl) ?_
  refine till_take (i := 0) (v := (.pointer (some ⟨P, 1, none⟩))) rfl (by kernel_rfl) (fun _ _ _ h => h) (by kernel_rfl) ?_ SD ?_
  · (intro w hSw; obtain ⟨s1, s2, s3⟩ := hSw; go_simp)
  (try simp only [Act.put, List.setIfInBounds_toArray, List.set_cons_zero, List.set_cons_succ])
  refine till_take (i := 1) (v := (.slice (some ⟨gb, 0, none⟩) (L0.length + 1) kb)) rfl (by kernel_rfl) (fun _ _ _ h => h) (by kernel_rfl) ?_ SD ?_
  · (intro w hSw; obtain ⟨s1, s2, s3⟩ := hSw; go_simp)
  (try simp only [Act.put, List.setIfInBounds_toArray, List.set_cons_zero, List.set_cons_succ])
  refine till_take (i := 2) (v := (.int .i64 ((L0.length : Int) + 1))) rfl (by kernel_rfl) (fun _ _ _ h => h) (by kernel_rfl) ?_ SD ?_
  · (intro w hSw; obtain ⟨s1, s2, s3⟩ := hSw; go_simp)
  (try simp only [Act.put, List.setIfInBounds_toArray, List.set_cons_zero, List.set_cons_succ])
  refine till_take (i := 3) (v := (.int .i64 (L0.length : Int))) rfl (by kernel_rfl) (fun _ _ _ h => h) (by kernel_rfl) ?_ SD ?_
  · (intro w hSw; obtain ⟨s1, s2, s3⟩ := hSw; go_simp)
  (try simp only [Act.put, List.setIfInBounds_toArray, List.set_cons_zero, List.set_cons_succ])
  refine till_take (i := 4) (v := (.pointer (some ⟨P, 1, none⟩))) rfl (by kernel_rfl) (fun _ _ _ h => h) (by kernel_rfl) ?_ SD ?_
  · (intro w hSw; obtain ⟨s1, s2, s3⟩ := hSw; go_simp)
  (try simp only [Act.put, List.setIfInBounds_toArray, List.set_cons_zero, List.set_cons_succ])
  refine till_take (i := 5) (v := (.slice (some ⟨gb, 0, none⟩) (L0.length + 1) kb)) rfl (by kernel_rfl) (fun _ _ _ h => h) (by kernel_rfl) ?_ SD ?_
  · (intro w hSw; obtain ⟨s1, s2, s3⟩ := hSw; go_simp)
  (try simp only [Act.put, List.setIfInBounds_toArray, List.set_cons_zero, List.set_cons_succ])
  refine till_take (i := 6) (v := (.int .i64 ((L0.length : Int) + 1))) rfl (by kernel_rfl) (fun _ _ _ h => h) (by kernel_rfl) ?_ SD ?_
  · (intro w hSw; obtain ⟨s1, s2, s3⟩ := hSw; go_simp)
  (try simp only [Act.put, List.setIfInBounds_toArray, List.set_cons_zero, List.set_cons_succ])
  refine till_take (i := 7) (v := (.int .i64 (L0.length : Int))) rfl (by kernel_rfl) (fun _ _ _ h => h) (by kernel_rfl) ?_ SD ?_
  · (intro w hSw; obtain ⟨s1, s2, s3⟩ := hSw; go_simp)
  (try simp only [Act.put, List.setIfInBounds_toArray, List.set_cons_zero, List.set_cons_succ])
  refine till_take (i := 8) (v := (.pointer (some ⟨gb, L0.length, none⟩))) rfl (by kernel_rfl) (fun _ _ _ h => h) (by kernel_rfl) ?_ SD ?_
  · (intro w hSw; obtain ⟨s1, s2, s3⟩ := hSw; go_simp; try (intro h; exact absurd h (by omega)))
  (try simp only [Act.put, List.setIfInBounds_toArray, List.set_cons_zero, List.set_cons_succ])
  refine till_take (i := 9) (v := (.slice am M.length km)) rfl (by kernel_rfl) (fun _ _ _ h => h) (by kernel_rfl) ?_ SD ?_
  · (intro w hSw; obtain ⟨s1, s2, s3⟩ := hSw; go_simp)
  (try simp only [Act.put, List.setIfInBounds_toArray, List.set_cons_zero, List.set_cons_succ])
  refine till_take (i := 10) (v := (.slice (some ⟨LB, 0, none⟩) lines.length LC)) rfl (by kernel_rfl) (fun _ _ _ h => h) (by kernel_rfl) ?_ SD ?_
  · (intro w hSw; obtain ⟨s1, s2, s3⟩ := hSw; go_simp)
  (try simp only [Act.put, List.setIfInBounds_toArray, List.set_cons_zero, List.set_cons_succ])
  refine till_take (i := 11) (v := (.int .i64 (k : Int))) rfl (by kernel_rfl) (fun _ _ _ h => h) (by kernel_rfl) ?_ SD ?_
  · (intro w hSw; obtain ⟨s1, s2, s3⟩ := hSw; go_simp)
  (try simp only [Act.put, List.setIfInBounds_toArray, List.set_cons_zero, List.set_cons_succ])
  refine till_take (i := 12) (v := (.pointer (some ⟨LB, k, none⟩))) rfl (by kernel_rfl) (fun _ _ _ h => h) (by kernel_rfl) ?_ SD ?_
  · (intro w hSw; obtain ⟨s1, s2, s3⟩ := hSw; go_simp; try (intro h; exact absurd h (by omega)))
  (try simp only [Act.put, List.setIfInBounds_toArray, List.set_cons_zero, List.set_cons_succ])
  refine till_take (i := 13) (v := (.string (bs line))) rfl (by kernel_rfl) (fun _ _ _ h => h) (by kernel_rfl) ?_ SD ?_
  · (intro w hSw; obtain ⟨s1, s2, s3⟩ := hSw; go_simp)
  (try simp only [Act.put, List.setIfInBounds_toArray, List.set_cons_zero, List.set_cons_succ])
  refine till_step (i := 14) rfl (by kernel_rfl) (fun K hK => ?_)
  go_simp
  go_at_call 30
  refine (split32 line _ (by omega)).mono ?_
  rintro e w6 ⟨a6, k6, rfl, hs6, hb6⟩
  have hb56 : Below w5.heap.size w5 w6 := hbd.trans hb6
  have hz6 : w5.heap.size ≤ w6.heap.size := hb56.size
  have S6 : w6.cell? ⟨P, 1, none⟩ = some (.slice (some ⟨gb, 0, none⟩) (L0.length + 1) kb) ∧ w6.cell? ⟨gb, L0.length, none⟩ = some (.slice am M.length km) ∧ w6.cell? ⟨LB, k, none⟩ = some (.string (bs line)) := ⟨by rw [hb6.cell (p := ⟨P, 1, none⟩) hPl]; exact SD.1, by rw [hb6.cell (p := ⟨gb, L0.length, none⟩) hgbl.2]; exact SD.2.1, by rw [hb6.cell (p := ⟨LB, k, none⟩) hLl]; exact SD.2.2⟩
  have HS6 := (show Hid (StrsAt _ _ _) from hs6)
  clear hs6
  refine hK.out _ _ (fun _ => S6) ?_
  (try simp only [Act.put, List.setIfInBounds_toArray, List.set_cons_zero, List.set_cons_succ])
  clear hK
  refine till_step (i := 15) rfl (by kernel_rfl) (fun K hK => ?_)
  go_simp
  go_at_call 32
  refine (l1Hear_one _ (splC 32 line) _ HS6.out (List.length_pos_iff.2 (splC_ne _ _)) (by have := (splC_len 32 line).1; omega) (fun x hx => by have := (splC_len 32 line).2 x hx; omega)).mono ?_
  rintro e w7 ⟨dv, kv, rfl, hod, hok, hb7⟩
  rw [← HA.out] at hod hok ⊢
  obtain ⟨ad, kd, rfl, _, _⟩ := own_shape hod
  obtain ⟨ak, kk, rfl, _, _⟩ := own_shape hok
  have hb57 : Below w5.heap.size w5 w7 := below_then hb56 hz6 hb7
  have hz7 : w5.heap.size ≤ w7.heap.size := hb57.size
  have S7 : w7.cell? ⟨P, 1, none⟩ = some (.slice (some ⟨gb, 0, none⟩) (L0.length + 1) kb) ∧ w7.cell? ⟨gb, L0.length, none⟩ = some (.slice am M.length km) ∧ w7.cell? ⟨LB, k, none⟩ = some (.string (bs line)) := ⟨by rw [hb7.cell (p := ⟨P, 1, none⟩) (by simp; omega)]; exact S6.1, by rw [hb7.cell (p := ⟨gb, L0.length, none⟩) (by simp; omega)]; exact S6.2.1, by rw [hb7.cell (p := ⟨LB, k, none⟩) (by simp; omega)]; exact S6.2.2⟩
  have HOD : Hid (OwnDe B w7 (.slice ad a.ds.length kd) a.ds) := own_base hod (by omega)
  have HOK : Hid (OwnInt B w7 (.slice ak a.ks.length kk) a.ks) := own_base hok (by omega)
  clear hod hok
  refine hK.out _ _ (fun _ => S7) ?_
  (try simp only [Act.put, List.setIfInBounds_toArray, List.set_cons_zero, List.set_cons_succ])
  clear hK
  refine till_step (i := 16) rfl (by kernel_rfl) (fun K hK => ?_)
  go_simp
  obtain ⟨W, hW⟩ : ∃ W, W = w7.alloc (.cells #[.int .i64 a.k, .slice ad a.ds.length kd, .slice ak a.ks.length kk, .int .i64 a.r] 44) := ⟨_, rfl⟩
  have hbW : Below w5.heap.size w5 W := by rw [hW]; exact hb57.alloc hz7 _
  have SW : W.cell? ⟨P, 1, none⟩ = some (.slice (some ⟨gb, 0, none⟩) (L0.length + 1) kb) ∧ W.cell? ⟨gb, L0.length, none⟩ = some (.slice am M.length km) ∧ W.cell? ⟨LB, k, none⟩ = some (.string (bs line)) := by
    rw [hW]
    have h7 := ((Below.refl w7.heap.size w7).alloc (Nat.le_refl _) (.cells #[.int .i64 a.k, .slice ad a.ds.length kd, .slice ak a.ks.length kk, .int .i64 a.r] 44))
    exact ⟨by rw [h7.cell (p := ⟨P, 1, none⟩) (by simp; omega)]; exact S7.1, by rw [h7.cell (p := ⟨gb, L0.length, none⟩) (by simp; omega)]; exact S7.2.1, by rw [h7.cell (p := ⟨LB, k, none⟩) (by simp; omega)]; exact S7.2.2⟩
  have hzW : w5.heap.size ≤ W.heap.size := hbW.size
  have HPW := (show Hid (PQ _ _ _ _ _ _ _ _) from HPG.out.next hbW)
  have HMW : Hid (W.ownsRow B 44 4 (.slice am M.length km) M.length (acCells M)) := own_heap HM.out.1 fun g hg => hbW.block g (HM.out.1.lt g hg).2
  have HMI : Hid (∀ x, x ∈ M → OwnDe B W x.2.1 x.1.ds ∧ OwnInt B W x.2.2 x.1.ks) := fun x hx => ⟨own_heap (HM.out.2 x hx).1 fun g hg => hbW.block g ((HM.out.2 x hx).1.lt g hg).2, own_heap (HM.out.2 x hx).2 fun g hg => hbW.block g ((HM.out.2 x hx).2.lt g hg).2⟩
  have HDW : Hid (OwnDe B W (.slice ad a.ds.length kd) a.ds) := by rw [hW]; exact World.ownsRow.alloc HOD.out _
  have HKW : Hid (OwnInt B W (.slice ak a.ks.length kk) a.ks) := by rw [hW]; exact World.ownsRow.alloc HOK.out _
  have HNW : Hid (∀ j u, [Value.int .i64 a.k, .slice ad a.ds.length kd, .slice ak a.ks.length kk, .int .i64 a.r][j]? = some u → W.cell? ((⟨w7.heap.size, 0, none⟩ : Addr).add j) = some u) := by
    intro j u hj
    rw [hW]
    rcases j with _ | _ | _ | _ | j <;> simp at hj <;> subst hj <;> simp [Addr.add]
  rw [← hW]
  refine hK.out _ _ (fun _ => SW) ?_
  (try simp only [Act.put, List.setIfInBounds_toArray, List.set_cons_zero, List.set_cons_succ])
  clear hK hW
  refine till_step (i := 17) rfl (by kernel_rfl) (fun K hK => ?_)
  refine step_append_lies _ (by rfl) _ _ 41 (by rfl) B 44 i1 (.agg #[.int .i64 0, .slice none 0 0, .slice none 0 0, .int .i64 0]) 4 64 Tryz.underlying41 hi1 hy0 hy1 hy2 rfl (by omega) _ M.length (acCells M) (by rfl) HMW.out ⟨w7.heap.size, 0, none⟩ 1 1 [.int .i64 a.k, .slice ad a.ds.length kd, .slice ak a.ks.length kk, .int .i64 a.r] (by rfl) rfl HNW.out (by intro u hu; simp at hu; rcases hu with rfl | rfl | rfl | rfl <;> rfl) (by omega) (by unfold maxLen; omega) (by omega) (by omega) _ (by rfl) ?_
  intro g4 cap4 w8 hown8 hgrow8 hat8 hlt8
  have HP8 := (show Hid (PQ _ _ _ _ _ _ _ _) from HPW.out.addAct (a := a) HMW.out HMI.out HDW.out HKW.out hown8 hgrow8 (hat8.elim (fun h => .inl h.symm) (fun h => .inr (by rw [h]; rfl))))
  have hge : ∀ g, (Value.slice am M.length km).ownBlock = some g → B ≤ g := fun g hg => (HMW.out.lt g hg).1
  have hPb : some P ≠ (Value.slice am M.length km).ownBlock := fun e => by have := hge P e.symm; have := HPG.out.lt; omega
  have hWb : some LB ≠ (Value.slice am M.length km).ownBlock := fun e => by have := hge LB e.symm; omega
  obtain ⟨cg8, fg8⟩ : w8.cell? ⟨gb, L0.length, none⟩ = some (.slice am M.length km) ∧ w8.frozen? ⟨gb, L0.length, none⟩ = false := by
    have hr := own_tag HPW.out.row (TagKept.grown HMW.out hgrow8) (by decide)
    rw [show (L0 ++ [(M.map (·.1), Value.slice am M.length km)]).length = L0.length + 1 by simp] at hr
    have cg := hr.cellAt L0.length (by omega)
    rw [show ((L0 ++ [(M.map (·.1), Value.slice am M.length km)]).map (·.2))[L0.length]? = some (Value.slice am M.length km) by simp] at cg
    exact ⟨cg, hr.frozenAt L0.length⟩
  have S8 : w8.cell? ⟨P, 1, none⟩ = some (.slice (some ⟨gb, 0, none⟩) (L0.length + 1) kb) ∧ w8.cell? ⟨gb, L0.length, none⟩ = some (.slice am M.length km) ∧ w8.cell? ⟨LB, k, none⟩ = some (.string (bs line)) := ⟨(World.cell?_of_block (hgrow8.block P (by omega) hPb)).trans SW.1, cg8, (World.cell?_of_block (hgrow8.block LB (by omega) hWb)).trans SW.2.2⟩
  clear hown8 hgrow8 hat8
  refine hK.out _ _ (fun _ => S8) ?_
  (try simp only [Act.put, List.setIfInBounds_toArray, List.set_cons_zero, List.set_cons_succ])
  clear hK
  refine till_take (i := 18) (v := (.pointer (some ⟨gb, L0.length, none⟩))) rfl (by kernel_rfl) (fun _ _ _ h => h) (by kernel_rfl) ?_ S8 ?_
  · (intro w hSw; obtain ⟨s1, s2, s3⟩ := hSw; go_simp; try (intro h; exact absurd h (by omega)))
  (try simp only [Act.put, List.setIfInBounds_toArray, List.set_cons_zero, List.set_cons_succ])
  refine till_step (i := 19) rfl (by kernel_rfl) (fun K hK => ?_)
  go_simp
  refine hK.out _ _ (fun h => absurd rfl h) ?_
  refine till_done (by kernel_rfl) ?_ _
  (try simp only [Act.put, List.setIfInBounds_toArray, List.set_cons_zero, List.set_cons_succ])
  rw [HA.out] at HP8
  exact NoPanic.normal (hQ.out _ _ _ _ _ _ _ _ _ _ _ _ _ _ _ _ _ _ _ _ _ HP8.out)

end Go.Proofs.YtliakmgombpjpaaGreatDoor
