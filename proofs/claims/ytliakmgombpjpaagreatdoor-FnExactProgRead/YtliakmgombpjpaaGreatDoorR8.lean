/-
  progGuess: the only program whose text a text can be.
-/
import Derived.Test.YtliakmgombpjpaaGreatDoorJ4
import Derived.Test.YtliakmgombpjpaaGreatDoorS0
namespace Go.Proofs.YtliakmgombpjpaaGreatDoor
open Go.RowKit
set_option linter.unusedSimpArgs false
set_option linter.unusedVariables false
set_option maxRecDepth 20000

theorem StrsAt.tail {w : World} {b n : Nat} {ws : List (List UInt8)} (h : StrsAt w (.slice (some ⟨b, 0, none⟩) n n) ws) (h1 : 1 < n) : StrsAt w (.slice (some ⟨b, 1, none⟩) (n - 1) (n - 1)) ws.tail := by
  obtain ⟨a, cap, e, hm, hc⟩ := h
  injection e with e1 e2 e3
  subst e1 e2
  have hl : ws.tail.length = ws.length - 1 := by simp
  refine ⟨_, _, by rw [hl], ⟨by omega, by omega⟩, fun i hi => ?_⟩
  obtain ⟨b', off', e', hb, c0⟩ := hc (i + 1) (by omega)
  injection e' with e4
  injection e4 with e5 e6
  subst e5 e6
  refine ⟨b, 1, rfl, hb, ?_⟩
  have hn : nth [] ws.tail i = nth [] ws (i + 1) := by
    cases ws with
    | nil => simp at hi
    | cons x xs => simp [nth]
  rw [hn, Nat.add_comm 1 i]
  simpa using c0
theorem StrsAt.tail0 {w : World} {ws : List (List UInt8)} (a : Option Addr) (n cap : Nat) (h : ws.length = n) (h1 : n ≤ 1) (hc : cap ≤ 9223372036854775807) : StrsAt w (.slice a (n - 1) cap) ws.tail := by
  have hl : ws.tail = [] := by
    match ws, h with
    | [], _ => rfl
    | [x], _ => rfl
    | x :: y :: z, h => simp at h; omega
  have hn : n - 1 = 0 := by omega
  rw [hl, hn]
  exact ⟨a, cap, rfl, ⟨Nat.zero_le _, hc⟩, fun i hi => absurd hi (by simp)⟩
theorem Fr.strs {R B : Nat} {w w' : World} {b n cap : Nat} {ws : List (List UInt8)} (hf : Fr R B w w') (h : StrsAt w (.slice (some ⟨b, 0, none⟩) n cap) ws) (hb : b < B) (hR : b ≠ R) : StrsAt w' (.slice (some ⟨b, 0, none⟩) n cap) ws := by
  obtain ⟨a, cap', e, hm, hc⟩ := h
  injection e with e1 e2 e3
  subst e1 e2 e3
  refine ⟨_, _, rfl, hm, fun i hi => ?_⟩
  obtain ⟨b', off', e', hb', c0⟩ := hc i hi
  injection e' with e4
  injection e4 with e5 e6
  subst e5 e6
  exact ⟨b, 0, rfl, Nat.lt_of_lt_of_le hb' hf.size, by rw [hf.cell hb hR]; exact c0⟩

theorem inter_len (N : Nat) : ∀ (ws : List (List UInt8)), (∀ x, x ∈ ws → x.length ≤ N) → (([32] : List UInt8).intercalate ws).length ≤ ws.length * (N + 1)
  | [], _ => by simp [List.intercalate]
  | [x], h => by have := h x (by simp); simp [List.intercalate]; omega
  | x :: y :: t, h => by
    have h1 := h x (by simp)
    have h2 := inter_len N (y :: t) (fun z hz => h z (List.mem_cons_of_mem _ hz))
    have e : ([32] : List UInt8).intercalate (x :: y :: t) = x ++ 32 :: ([32] : List UInt8).intercalate (y :: t) := by simp [List.intercalate, List.intersperse]
    rw [e, List.length_append, List.length_cons, List.length_cons (a := x), Nat.succ_mul]
    omega

def findReg8 (k : Nat) : Code → Option Code
  | .region i ops b => if i = k then some (.region i ops b) else none
  | .seq a b => match findReg8 k a with
    | some c => some c
    | none => findReg8 k b
  | .block _ c => findReg8 k c
  | .loop c => findReg8 k c
  | .scope c => findReg8 k c
  | .cond _ a b => match findReg8 k a with
    | some c => some c
    | none => findReg8 k b
  | _ => none
noncomputable def guessReg (k : Nat) : Code := ((Tryz.f24.body.bind (findReg8 k)).getD .skip)

set_option maxRecDepth 100000 in
set_option maxHeartbeats 4000000 in
theorem guess_reg12 (B P WB : Nat) (w0 w5 : World) (cv : Value) (cs : List Int) (gb kb : Nat) (L0 : List (List Ac × Value)) (M : List (Ac × Value × Value)) (am : Option Addr) (km : Nat) (ws : List (List UInt8)) (hd : List UInt8)
    (HPG : Hid (PG B P w0 w5 cv (.slice (some ⟨gb, 0, none⟩) (L0.length + 1) kb) cs (L0 ++ [(M.map (·.1), .slice am M.length km)])))
    (HM : Hid (w5.ownsRow B 44 4 (.slice am M.length km) M.length (acCells M) ∧ ∀ x, x ∈ M → OwnDe B w5 x.2.1 x.1.ds ∧ OwnInt B w5 x.2.2 x.1.ks))
    (HLT : Hid (∀ g, (Value.slice am M.length km).ownBlock = some g → g < WB)) (d0 : w5.cell? ⟨WB, 0, none⟩ = some (.string (bs hd))) (hWB : WB < w5.heap.size)
    (HG : Hid (Gl w5)) (HS : Hid (StrsAt w5 (.slice (some ⟨WB, 0, none⟩) ws.length ws.length) ws)) (hw1 : 0 < ws.length) (hwl : ws.length ≤ 1000001) (HWL : Hid (∀ x, x ∈ ws → x.length ≤ 1000000)) (hL : L0.length ≤ 1000001) (hMl : M.length ≤ 1000001)
    (Q : Exit → Act → World → Prop) (u0 u1 u2 u4 u5 u8 u9 u10 u11 u12 u13 u14 u15 u16 u17 u18 u19 u20 u21 u22 u23 u24 u25 u26 u27 u28 u29 u30 u31 u32 u33 u34 u35 u36 u37 u38 u39 u40 u41 u42 u43 u44 u45 u46 u47 u48 u49 u50 u51 u52 u53 u54 u55 u56 u57 u58 u59 u60 u61 u62 : Value)
    (hQ : Hid (∀ (v44 v45 v46 v47 v48 v49 v50 v51 v52 v53 v54 v55 v56 v57 v58 v59 v60 : Value) (V : World) (av : Value), PG B P w0 V cv (.slice (some ⟨gb, 0, none⟩) (L0.length + 1) kb) cs (L0 ++ [(M.map (·.1) ++ [acG hd ws.tail], av)]) → Q .normal ⟨(u0 :: u1 :: u2 :: .pointer (some ⟨P, 0, none⟩) :: u4 :: u5 :: .slice (some ⟨WB, 0, none⟩) ws.length ws.length :: .int .i64 L0.length :: u8 :: u9 :: u10 :: u11 :: u12 :: u13 :: u14 :: u15 :: u16 :: u17 :: u18 :: u19 :: u20 :: u21 :: u22 :: u23 :: u24 :: u25 :: u26 :: u27 :: u28 :: u29 :: u30 :: u31 :: u32 :: u33 :: u34 :: u35 :: u36 :: u37 :: u38 :: u39 :: u40 :: u41 :: u42 :: u43 :: v44 :: v45 :: v46 :: v47 :: v48 :: v49 :: v50 :: v51 :: v52 :: v53 :: v54 :: v55 :: v56 :: v57 :: v58 :: v59 :: v60 :: u61 :: u62 :: []).toArray, []⟩ V)) :
    Code.wp Tryz.prog (guessReg 12) Q ⟨(u0 :: u1 :: u2 :: .pointer (some ⟨P, 0, none⟩) :: u4 :: u5 :: .slice (some ⟨WB, 0, none⟩) ws.length ws.length :: .int .i64 L0.length :: u8 :: u9 :: u10 :: u11 :: u12 :: u13 :: u14 :: u15 :: u16 :: u17 :: u18 :: u19 :: u20 :: u21 :: u22 :: u23 :: u24 :: u25 :: u26 :: u27 :: u28 :: u29 :: u30 :: u31 :: u32 :: u33 :: u34 :: u35 :: u36 :: u37 :: u38 :: u39 :: u40 :: u41 :: u42 :: u43 :: u44 :: u45 :: u46 :: u47 :: u48 :: u49 :: u50 :: u51 :: u52 :: u53 :: u54 :: u55 :: u56 :: u57 :: u58 :: u59 :: u60 :: u61 :: u62 :: []).toArray, []⟩ w5 := by
  obtain ⟨i1, hi1, hy0, hy1, hy2⟩ := info_parts Tryz.info_act
  have hs5 := HPG.out.size
  have hPl : P < w5.heap.size := Nat.lt_of_lt_of_le HPG.out.lt hs5
  have hgbl := HPG.out.row.lt gb rfl
  have SD : (w5.drew).cell? ⟨P, 1, none⟩ = some (.slice (some ⟨gb, 0, none⟩) (L0.length + 1) kb) ∧ (w5.drew).cell? ⟨gb, L0.length, none⟩ = some (.slice am M.length km) ∧ (w5.drew).cell? ⟨WB, 0, none⟩ = some (.string (bs hd)) := by
    have hrow6 := HPG.out.row
    rw [show (L0 ++ [(M.map (·.1), Value.slice am M.length km)]).length = L0.length + 1 by simp] at hrow6
    have cg := hrow6.cellAt L0.length (by omega)
    rw [show ((L0 ++ [(M.map (·.1), Value.slice am M.length km)]).map (·.2))[L0.length]? = some (Value.slice am M.length km) by simp] at cg
    exact ⟨HPG.out.c1, cg, d0⟩
  obtain ⟨tv, HTV⟩ : ∃ tv, Hid ((ws.length = 1 ∧ tv = Value.slice (some ⟨WB, 0, none⟩) 0 0) ∨ (1 < ws.length ∧ tv = Value.slice (some ⟨WB, 1, none⟩) (ws.length - 1) (ws.length - 1))) := by
    by_cases h : ws.length = 1
    · exact ⟨_, .inl ⟨h, rfl⟩⟩
    · exact ⟨_, .inr ⟨by omega, rfl⟩⟩
  have hbd : Below w5.heap.size w5 w5.drew := (Below.refl _ _).drew
  have HTS : Hid (StrsAt w5.drew tv ws.tail) := by
    have : StrsAt w5 tv ws.tail := by
      rcases HTV.out with ⟨h, rfl⟩ | ⟨h, rfl⟩
      · exact StrsAt.tail0 _ 1 0 h (by omega) (by omega)
      · exact HS.out.tail h
    exact this
  have HGd : Hid (Gl w5.drew) := HG.out.mono hbd
  obtain ⟨a, ha⟩ : ∃ a, a = acG hd ws.tail := ⟨_, rfl⟩
  have HA := (show Hid (_ = _) from ha)
  clear ha
  conv => arg 2; whnf
  refine wp_region_noPanic ?_
  refine till_begin (S := fun w' => w'.cell? ⟨P, 1, none⟩ = some (.slice (some ⟨gb, 0, none⟩) (L0.length + 1) kb) ∧ w'.cell? ⟨gb, L0.length, none⟩ = some (.slice am M.length km) ∧ w'.cell? ⟨WB, 0, none⟩ = some (.string (bs hd))) (z := 17) (by kernel_rfl) ?_
  refine till_take (i := 0) (v := (.pointer (some ⟨P, 1, none⟩))) rfl (by kernel_rfl) (fun _ _ _ h => h) (by kernel_rfl) ?_ SD ?_
  · (intro w hSw; obtain ⟨s1, s2, s3⟩ := hSw; go_simp)
  (try simp only [Act.put, List.setIfInBounds_toArray, List.set_cons_zero, List.set_cons_succ])
  refine till_take (i := 1) (v := (.slice (some ⟨gb, 0, none⟩) (L0.length + 1) kb)) rfl (by kernel_rfl) (fun _ _ _ h => h) (by kernel_rfl) ?_ SD ?_
  · (intro w hSw; obtain ⟨s1, s2, s3⟩ := hSw; go_simp)
  (try simp only [Act.put, List.setIfInBounds_toArray, List.set_cons_zero, List.set_cons_succ])
  refine till_take (i := 2) (v := (.int .i64 L0.length)) rfl (by kernel_rfl) (fun _ _ _ h => h) (by kernel_rfl) ?_ SD ?_
  · (intro w hSw; obtain ⟨s1, s2, s3⟩ := hSw; go_simp)
  (try simp only [Act.put, List.setIfInBounds_toArray, List.set_cons_zero, List.set_cons_succ])
  refine till_take (i := 3) (v := (.pointer (some ⟨P, 1, none⟩))) rfl (by kernel_rfl) (fun _ _ _ h => h) (by kernel_rfl) ?_ SD ?_
  · (intro w hSw; obtain ⟨s1, s2, s3⟩ := hSw; go_simp)
  (try simp only [Act.put, List.setIfInBounds_toArray, List.set_cons_zero, List.set_cons_succ])
  refine till_take (i := 4) (v := (.slice (some ⟨gb, 0, none⟩) (L0.length + 1) kb)) rfl (by kernel_rfl) (fun _ _ _ h => h) (by kernel_rfl) ?_ SD ?_
  · (intro w hSw; obtain ⟨s1, s2, s3⟩ := hSw; go_simp)
  (try simp only [Act.put, List.setIfInBounds_toArray, List.set_cons_zero, List.set_cons_succ])
  refine till_take (i := 5) (v := (.int .i64 L0.length)) rfl (by kernel_rfl) (fun _ _ _ h => h) (by kernel_rfl) ?_ SD ?_
  · (intro w hSw; obtain ⟨s1, s2, s3⟩ := hSw; go_simp)
  (try simp only [Act.put, List.setIfInBounds_toArray, List.set_cons_zero, List.set_cons_succ])
  refine till_take (i := 6) (v := (.pointer (some ⟨gb, L0.length, none⟩))) rfl (by kernel_rfl) (fun _ _ _ h => h) (by kernel_rfl) ?_ SD ?_
  · (intro w hSw; obtain ⟨s1, s2, s3⟩ := hSw; go_simp; try (intro h; exact absurd h (by omega)))
  (try simp only [Act.put, List.setIfInBounds_toArray, List.set_cons_zero, List.set_cons_succ])
  refine till_take (i := 7) (v := (.slice am M.length km)) rfl (by kernel_rfl) (fun _ _ _ h => h) (by kernel_rfl) ?_ SD ?_
  · (intro w hSw; obtain ⟨s1, s2, s3⟩ := hSw; go_simp)
  (try simp only [Act.put, List.setIfInBounds_toArray, List.set_cons_zero, List.set_cons_succ])
  refine till_take (i := 8) (v := (.slice (some ⟨WB, 0, none⟩) ws.length ws.length)) rfl (by kernel_rfl) (fun _ _ _ h => h) (by kernel_rfl) ?_ SD ?_
  · (intro w hSw; obtain ⟨s1, s2, s3⟩ := hSw; go_simp)
  (try simp only [Act.put, List.setIfInBounds_toArray, List.set_cons_zero, List.set_cons_succ])
  refine till_take (i := 9) (v := (.pointer (some ⟨WB, 0, none⟩))) rfl (by kernel_rfl) (fun _ _ _ h => h) (by kernel_rfl) ?_ SD ?_
  · (intro w hSw; obtain ⟨s1, s2, s3⟩ := hSw; go_simp; try (intro h; exact absurd h (by omega)))
  (try simp only [Act.put, List.setIfInBounds_toArray, List.set_cons_zero, List.set_cons_succ])
  refine till_take (i := 10) (v := (.string (bs hd))) rfl (by kernel_rfl) (fun _ _ _ h => h) (by kernel_rfl) ?_ SD ?_
  · (intro w hSw; obtain ⟨s1, s2, s3⟩ := hSw; go_simp)
  (try simp only [Act.put, List.setIfInBounds_toArray, List.set_cons_zero, List.set_cons_succ])
  refine till_take (i := 11) (v := (.slice (some ⟨WB, 0, none⟩) ws.length ws.length)) rfl (by kernel_rfl) (fun _ _ _ h => h) (by kernel_rfl) ?_ SD ?_
  · (intro w hSw; obtain ⟨s1, s2, s3⟩ := hSw; go_simp)
  (try simp only [Act.put, List.setIfInBounds_toArray, List.set_cons_zero, List.set_cons_succ])
  refine till_take (i := 12) (v := tv) rfl (by kernel_rfl) (fun _ _ _ h => h) (by kernel_rfl) ?_ SD ?_
  · intro w hSw
    clear hSw SD HPG HM HLT d0 HG HS hQ HTS HGd HWL
    have HX := HTV.out
    clear HTV
    cases HX with
    | inl hx =>
      have h := hx.1
      have e := hx.2
      clear hx
      rw [e]
      go_simp
    | inr hx =>
      have h := hx.1
      have e := hx.2
      clear hx
      rw [e]
      go_simp
      rw [if_pos (show (1 : Int) ≤ (ws.length : Int) by omega), if_neg (show ¬ ws.length = 1 by omega)]
  (try simp only [Act.put, List.setIfInBounds_toArray, List.set_cons_zero, List.set_cons_succ])
  refine till_step (i := 13) rfl (by kernel_rfl) (fun K hK => ?_)
  go_simp
  go_at_call 50
  refine (actGuess_any hd tv ws.tail _ HTS.out HGd.out (by simp; omega) (fun x hx => by have := HWL.out x (List.mem_of_mem_tail hx); omega) (by have h1 := inter_len 1000000 ws.tail (fun x hx => HWL.out x (List.mem_of_mem_tail hx)); have h2 : ws.tail.length * (1000000 + 1) ≤ 1000001 * 1000001 := Nat.mul_le_mul (by simp; omega) (Nat.le_refl _); omega)).mono ?_
  rintro e w7 ⟨dv, kv, rfl, hod, hok, hb7⟩
  rw [← HA.out] at hod hok ⊢
  obtain ⟨ad, kd, rfl, _, _⟩ := own_shape hod
  obtain ⟨ak, kk, rfl, _, _⟩ := own_shape hok
  have hb57 : Below w5.heap.size w5 w7 := hbd.trans hb7
  have hz7 : w5.heap.size ≤ w7.heap.size := hb57.size
  have S7 : w7.cell? ⟨P, 1, none⟩ = some (.slice (some ⟨gb, 0, none⟩) (L0.length + 1) kb) ∧ w7.cell? ⟨gb, L0.length, none⟩ = some (.slice am M.length km) ∧ w7.cell? ⟨WB, 0, none⟩ = some (.string (bs hd)) := ⟨by rw [hb7.cell (p := ⟨P, 1, none⟩) hPl]; exact SD.1, by rw [hb7.cell (p := ⟨gb, L0.length, none⟩) hgbl.2]; exact SD.2.1, by rw [hb7.cell (p := ⟨WB, 0, none⟩) hWB]; exact SD.2.2⟩
  have HOD : Hid (OwnDe w5.heap.size w7 (.slice ad a.ds.length kd) a.ds) := own_base hod (by simp)
  have HOK : Hid (OwnInt w5.heap.size w7 (.slice ak a.ks.length kk) a.ks) := own_base hok (by simp)
  clear hod hok
  refine hK.out _ _ (fun _ => S7) ?_
  (try simp only [Act.put, List.setIfInBounds_toArray, List.set_cons_zero, List.set_cons_succ])
  clear hK
  refine till_step (i := 14) rfl (by kernel_rfl) (fun K hK => ?_)
  go_simp
  obtain ⟨W, hW⟩ : ∃ W, W = w7.alloc (.cells #[.int .i64 a.k, .slice ad a.ds.length kd, .slice ak a.ks.length kk, .int .i64 a.r] 44) := ⟨_, rfl⟩
  have hbW : Below w5.heap.size w5 W := by rw [hW]; exact hb57.alloc hz7 _
  have SW : W.cell? ⟨P, 1, none⟩ = some (.slice (some ⟨gb, 0, none⟩) (L0.length + 1) kb) ∧ W.cell? ⟨gb, L0.length, none⟩ = some (.slice am M.length km) ∧ W.cell? ⟨WB, 0, none⟩ = some (.string (bs hd)) := by
    rw [hW]
    have h7 := ((Below.refl w7.heap.size w7).alloc (Nat.le_refl _) (.cells #[.int .i64 a.k, .slice ad a.ds.length kd, .slice ak a.ks.length kk, .int .i64 a.r] 44))
    exact ⟨by rw [h7.cell (p := ⟨P, 1, none⟩) (by simp; omega)]; exact S7.1, by rw [h7.cell (p := ⟨gb, L0.length, none⟩) (by simp; omega)]; exact S7.2.1, by rw [h7.cell (p := ⟨WB, 0, none⟩) (by simp; omega)]; exact S7.2.2⟩
  have hzW : w5.heap.size ≤ W.heap.size := hbW.size
  have HPW := (show Hid (PG _ _ _ _ _ _ _ _) from HPG.out.next hbW)
  have HMW : Hid (W.ownsRow B 44 4 (.slice am M.length km) M.length (acCells M)) := own_heap HM.out.1 fun g hg => hbW.block g (HM.out.1.lt g hg).2
  have HMI : Hid (∀ x, x ∈ M → OwnDe B W x.2.1 x.1.ds ∧ OwnInt B W x.2.2 x.1.ks) := fun x hx => ⟨own_heap (HM.out.2 x hx).1 fun g hg => hbW.block g ((HM.out.2 x hx).1.lt g hg).2, own_heap (HM.out.2 x hx).2 fun g hg => hbW.block g ((HM.out.2 x hx).2.lt g hg).2⟩
  have HDW : Hid (OwnDe w5.heap.size W (.slice ad a.ds.length kd) a.ds) := by rw [hW]; exact World.ownsRow.alloc HOD.out _
  have HKW : Hid (OwnInt w5.heap.size W (.slice ak a.ks.length kk) a.ks) := by rw [hW]; exact World.ownsRow.alloc HOK.out _
  have HNW : Hid (∀ j u, [Value.int .i64 a.k, .slice ad a.ds.length kd, .slice ak a.ks.length kk, .int .i64 a.r][j]? = some u → W.cell? ((⟨w7.heap.size, 0, none⟩ : Addr).add j) = some u) := by
    intro j u hj
    rw [hW]
    rcases j with _ | _ | _ | _ | j <;> simp at hj <;> subst hj <;> simp [Addr.add]
  rw [← hW]
  refine hK.out _ _ (fun _ => SW) ?_
  (try simp only [Act.put, List.setIfInBounds_toArray, List.set_cons_zero, List.set_cons_succ])
  clear hK hW
  refine till_step (i := 15) rfl (by kernel_rfl) (fun K hK => ?_)
  refine step_append_lies _ (by rfl) _ _ 41 (by rfl) B 44 i1 (.agg #[.int .i64 0, .slice none 0 0, .slice none 0 0, .int .i64 0]) 4 64 Tryz.underlying41 hi1 hy0 hy1 hy2 rfl (by omega) _ M.length (acCells M) (by rfl) HMW.out ⟨w7.heap.size, 0, none⟩ 1 1 [.int .i64 a.k, .slice ad a.ds.length kd, .slice ak a.ks.length kk, .int .i64 a.r] (by rfl) rfl HNW.out (by intro u hu; simp at hu; rcases hu with rfl | rfl | rfl | rfl <;> rfl) (by omega) (by unfold maxLen; omega) (by omega) (by omega) _ (by rfl) ?_
  intro g4 cap4 w8 hown8 hgrow8 hat8 hlt8
  have HP8 := (show Hid (PG _ _ _ _ _ _ _ _) from HPG.out.addAct (a := a) HMW.out HMI.out hbW HDW.out HKW.out hown8 hgrow8 (hat8.elim (fun h => .inl h.symm) (fun h => .inr (by rw [h]; rfl))))
  have hge : ∀ g, (Value.slice am M.length km).ownBlock = some g → B ≤ g := fun g hg => (HMW.out.lt g hg).1
  have hPb : some P ≠ (Value.slice am M.length km).ownBlock := fun e => by have := hge P e.symm; have := HPG.out.lt; omega
  have hWb : some WB ≠ (Value.slice am M.length km).ownBlock := fun e => by have := HLT.out WB e.symm; omega
  obtain ⟨cg8, fg8⟩ : w8.cell? ⟨gb, L0.length, none⟩ = some (.slice am M.length km) ∧ w8.frozen? ⟨gb, L0.length, none⟩ = false := by
    have hr := own_tag HPW.out.row (TagKept.grown HMW.out hgrow8) (by decide)
    rw [show (L0 ++ [(M.map (·.1), Value.slice am M.length km)]).length = L0.length + 1 by simp] at hr
    have cg := hr.cellAt L0.length (by omega)
    rw [show ((L0 ++ [(M.map (·.1), Value.slice am M.length km)]).map (·.2))[L0.length]? = some (Value.slice am M.length km) by simp] at cg
    exact ⟨cg, hr.frozenAt L0.length⟩
  have S8 : w8.cell? ⟨P, 1, none⟩ = some (.slice (some ⟨gb, 0, none⟩) (L0.length + 1) kb) ∧ w8.cell? ⟨gb, L0.length, none⟩ = some (.slice am M.length km) ∧ w8.cell? ⟨WB, 0, none⟩ = some (.string (bs hd)) := ⟨(World.cell?_of_block (hgrow8.block P (by omega) hPb)).trans SW.1, cg8, (World.cell?_of_block (hgrow8.block WB (by omega) hWb)).trans SW.2.2⟩
  clear hown8 hgrow8 hat8
  refine hK.out _ _ (fun _ => S8) ?_
  (try simp only [Act.put, List.setIfInBounds_toArray, List.set_cons_zero, List.set_cons_succ])
  clear hK
  refine till_take (i := 16) (v := (.pointer (some ⟨gb, L0.length, none⟩))) rfl (by kernel_rfl) (fun _ _ _ h => h) (by kernel_rfl) ?_ S8 ?_
  · (intro w hSw; obtain ⟨s1, s2, s3⟩ := hSw; go_simp; try (intro h; exact absurd h (by omega)))
  (try simp only [Act.put, List.setIfInBounds_toArray, List.set_cons_zero, List.set_cons_succ])
  refine till_step (i := 17) rfl (by kernel_rfl) (fun K hK => ?_)
  go_simp
  refine hK.out _ _ (fun h => absurd rfl h) ?_
  refine till_done (by kernel_rfl) ?_ _
  (try simp only [Act.put, List.setIfInBounds_toArray, List.set_cons_zero, List.set_cons_succ])
  rw [HA.out] at HP8
  exact NoPanic.normal (hQ.out _ _ _ _ _ _ _ _ _ _ _ _ _ _ _ _ _ _ _ HP8.out)

end Go.Proofs.YtliakmgombpjpaaGreatDoor
