/-
  spec.ProgRead: the walk.
-/
import Derived.Test.YtliakmgombpjpaaGreatDoorU7
namespace Go.Proofs.YtliakmgombpjpaaGreatDoor
open Go.RowKit
set_option linter.unusedSimpArgs false
set_option linter.unusedVariables false
set_option maxRecDepth 20000

theorem Fr.ints {R B : Nat} {w w' : World} {v : Value} {xs : List Int} (hf : Fr R B w w') (h : IntsAt w v xs) (hlt : ∀ b o n c, v = .slice (some ⟨b, o, none⟩) n c → 0 < xs.length → b < B ∧ b ≠ R) : IntsAt w' v xs := by
  obtain ⟨a, cap, rfl, hm, hc⟩ := h
  refine ⟨a, cap, rfl, hm, fun i hi => ?_⟩
  obtain ⟨b, off, rfl, hb, c0⟩ := hc i hi
  obtain ⟨h1, h2⟩ := hlt b off _ _ rfl (by omega)
  exact ⟨b, off, rfl, Nat.lt_of_lt_of_le hb hf.size, by rw [hf.cell h1 h2]; exact c0⟩
theorem PQ.bodies {B P : Nat} {w0 w : World} {cv bv : Value} {cs : List Int} {L : List (List Ac × Value)} (h : PQ B P w0 w cv bv cs L) : BodiesAt w bv (L.map (·.1)) := by
  have : OwnBodies B w bv (L.map (·.1)) := ⟨L, rfl, h.row, h.acts⟩
  exact this.at
theorem liS_cells (ls : List (List UInt8)) : ∀ p : Pr, (ls.foldl liS p).cells = p.cells := by
  induction ls with
  | nil => intro p; rfl
  | cons x ls ih =>
    intro p
    rw [List.foldl_cons, ih]
    unfold liS
    split
    · rfl
    · split <;> rfl

set_option maxHeartbeats 4000000 in
theorem sProgRead_any (l : List UInt8) (w : World) (hl : l.length ≤ 1048576) :
    Calls Tryz.prog 12 #[.string (bs l)] w fun e w' => ∃ cv bv, e = .returned (.tuple #[.agg #[cv, bv], .bool (spR l).isSome]) ∧ IntsAt w' cv ((spR l).getD ⟨[], []⟩).cells ∧ BodiesAt w' bv ((spR l).getD ⟨[], []⟩).bodies ∧ Below w.heap.size w w' := by
  have hnil : Hid (∀ w' : World, IntsAt w' (.slice none 0 0) [] ∧ BodiesAt w' (.slice none 0 0) []) := fun w' => ⟨OwnInt.at (B := 0) (World.ownsRow_nil _ _ _ _), OwnBodies.at (B := 0) ⟨[], rfl, World.ownsRow_nil _ _ _ _, fun x hx => by cases hx⟩⟩
  obtain ⟨lines, hlines⟩ : ∃ x, x = splC 10 l := ⟨_, rfl⟩
  have hll := splC_len 10 l
  have hln : 0 < (splC 10 l).length := List.length_pos_iff.2 (splC_ne _ _)
  rw [← hlines] at hll hln
  obtain ⟨h0, hh0⟩ : ∃ x, x = nth [] lines 0 := ⟨_, rfl⟩
  have hhd : (splC 10 l).headD [] = h0 := by
    rw [← hlines, hh0]
    cases lines with
    | nil => simp at hln
    | cons x xs => rfl
  obtain ⟨first, hfirst⟩ : ∃ x, x = splC 32 h0 := ⟨_, rfl⟩
  have hfi : fiS l = first := by rw [hfirst]; unfold fiS; rw [hhd]
  have hfl := splC_len 32 h0
  have hfn : 0 < (splC 32 h0).length := List.length_pos_iff.2 (splC_ne _ _)
  rw [← hfirst] at hfl hfn
  have hh0l : h0.length ≤ l.length := hll.2 _ (by rw [hh0]; exact nth_mem [] lines 0 hln)
  obtain ⟨f0, hf0⟩ : ∃ x, x = nth [] first 0 := ⟨_, rfl⟩
  have hfhd : (fiS l).headD [] = f0 := by
    rw [hfi, hf0]
    cases first with
    | nil => simp at hfn
    | cons x xs => rfl
  have HLI := (show Hid (lines = _) from hlines)
  have HFI := (show Hid (first = _) from hfirst)
  have HH0 := (show Hid (h0 = _) from hh0)
  have HF0 := (show Hid (f0 = _) from hf0)
  have HFH := (show Hid (_ = f0) from hfhd)
  have HFS := (show Hid (fiS l = first) from hfi)
  have HLL : Hid (∀ x, x ∈ lines → x.length ≤ l.length) := hll.2
  have HFL : Hid (∀ x, x ∈ first → x.length ≤ h0.length) := hfl.2
  have hlm := hll.1
  have hfm := hfl.1
  have hln' : (0 : Int) < (lines.length : Int) := by omega
  have hfn' : (0 : Int) < (first.length : Int) := by omega
  clear hlines hll hh0 hhd hfirst hfi hfl hf0 hfhd
  obtain ⟨i2, hi2, hx0, hx1, hx2⟩ := info_parts Tryz.info_int
  obtain ⟨i3, hi3, hz0, hz1, hz2⟩ := info_parts Tryz.info_acts
  go_enter Tryz.func12, Tryz.ntmps12
  go_wp2_with fail
  refine (split10 l _ (by omega)).mono ?_
  rintro e w3 ⟨LB, LC, rfl, hs3, hg3, hg3', hlc1, hlc2, hb3⟩
  rw [← HLI.out] at hs3 hlc1 ⊢
  have hg3b : w.heap.size + 1 ≤ LB := by simpa using hg3
  have d0 := hs3.get 0 (by omega)
  rw [← HH0.out] at d0
  have HS3 := (show Hid (StrsAt _ _ _) from hs3)
  have HB3 : Hid (Below w.heap.size w w3) := below_after (Below.refl _ _) (Nat.le_refl _) hb3
  have HK3 : Hid (Blk w3 w.heap.size 2) := (Blk.new w #[.slice none 0 0, .slice none 0 0] 26).below hb3
  clear hs3 hb3 hg3
  go_wp2_with fail
  refine (split32g h0 _ (by omega)).mono ?_
  rintro e w4 ⟨FB, FC, rfl, hs4, hg4, hg4', hfc1, hfc2, hb4⟩
  rw [← HFI.out] at hs4 hfc1 ⊢
  have e0 := hs4.get 0 (by omega)
  rw [← HF0.out] at e0
  have HS4 := (show Hid (StrsAt _ _ _) from hs4)
  have HL4 := (show Hid (StrsAt _ _ _) from HS3.out.mono hb4)
  have HB4 : Hid (Below w.heap.size w w4) := below_then HB3.out HB3.out.size hb4
  have HK4 := (show Hid (Blk _ _ _) from HK3.out.below hb4)
  have hw4 := HB4.out.size
  have hw34 := hb4.size
  clear hs4 hb4 HS3 HB3 HK3 d0
  have hRl := HK4.out.1
  by_cases h6 : 600 < l.length
  · have h6' : decide ((600 : Int) < (l.length : Int)) = true := by simp; omega
    have HR : Hid (spR l = none) := by unfold Hid spR; rw [if_neg (fun h => by omega)]
    obtain ⟨⟨x0, y0⟩, z0⟩ := HK4.out.2 0 (by omega)
    obtain ⟨⟨x1, y1⟩, z1⟩ := HK4.out.2 1 (by omega)
    go_wp2_with fail
    obtain ⟨j1, j2⟩ := set2_in HK4.out (.slice none 0 0) (.slice none 0 0)
    refine bodyPost_ret (v := .tuple #[.agg #[.slice none 0 0, .slice none 0 0], .bool false]) (by simp [results, Tryz.results12, go_sem, j1, j2]) rfl ⟨_, _, by rw [HR.out]; rfl, by rw [HR.out]; exact (hnil.out _).1, by rw [HR.out]; exact (hnil.out _).2, (HB4.out.setCell (by simp) _).setCell (by simp) _⟩
  have h6' : decide ((600 : Int) < (l.length : Int)) = false := by simp; omega
  obtain ⟨F0, hF0⟩ : ∃ F0, F0 = bs f0 := ⟨_, rfl⟩
  rw [← hF0] at e0
  by_cases hc : f0 = CELLS
  case neg =>
    have HR : Hid (spR l = none) := by unfold Hid spR; rw [if_neg (fun h => hc (by rw [← HFH.out]; exact h.2.1))]
    have t1 : (F0.toList == [99, 101, 108, 108, 115]) = false := by rw [hF0, bs_lst]; simpa [CELLS] using hc
    obtain ⟨⟨x0, y0⟩, z0⟩ := HK4.out.2 0 (by omega)
    obtain ⟨⟨x1, y1⟩, z1⟩ := HK4.out.2 1 (by omega)
    clear hc hF0
    go_wp2_with fail
    obtain ⟨j1, j2⟩ := set2_in HK4.out (.slice none 0 0) (.slice none 0 0)
    refine bodyPost_ret (v := .tuple #[.agg #[.slice none 0 0, .slice none 0 0], .bool false]) (by simp [results, Tryz.results12, go_sem, j1, j2]) rfl ⟨_, _, by rw [HR.out]; rfl, by rw [HR.out]; exact (hnil.out _).1, by rw [HR.out]; exact (hnil.out _).2, (HB4.out.setCell (by simp) _).setCell (by simp) _⟩
  have t1 : (F0.toList == [99, 101, 108, 108, 115]) = true := by rw [hF0, bs_lst, hc]; rfl
  have HCE := (show Hid (f0 = CELLS) from hc)
  have HSP : Hid (spG l = lines.tail.dropLast.foldl liS ⟨first.tail.map (nuS 0), []⟩) := by rw [Hid, HLI.out, ← HFS.out]; rfl
  clear hc hF0
  go_wp2_with fail
  go_loopw [7] (fun q w' => ∃ (k : Nat) (cs : List Int) (cv : Value), 1 ≤ k ∧ k ≤ first.length ∧ q = .int .i64 k ∧ Hid (cs = (first.tail.take (k - 1)).map (nuS 0)) ∧ cs.length ≤ k ∧ PBox w' (w4.heap.size + 1) cv (.slice none 0 0) ∧ OwnInt w4.heap.size w' cv cs ∧ Below w4.heap.size w4 w') (fun q _ => first.length - (intOf q).toNat)
  case atStart =>
    refine ⟨1, [], _, by omega, by omega, rfl, by rw [Hid]; simp, by simp, ?_, World.ownsRow.alloc (World.ownsRow_made w4 #[] 0 (Nat.le_refl _) (by unfold maxLen; omega) (by simp)) _, ((Below.refl _ _).alloc (Nat.le_refl _) _).alloc (by simp) _⟩
    have := heap_alloc_new (w4.alloc (.cells #[] 3)) (.cells #[.slice (some ⟨w4.heap.size, 0, none⟩) 0 0, .slice none 0 0] 26)
    simpa [PBox] using this
  case round =>
    obtain ⟨k, cs, cv, hk1, hkl, rfl, HE, hcl, hP, hO, hb⟩ := hrel
    obtain ⟨ac, kc, rfl, _⟩ := own_shape hO
    have HP := (show Hid (PBox _ _ _ _) from hP)
    have HO := (show Hid (OwnInt _ _ _ _) from hO)
    have HB := (show Hid (Below _ _ _) from hb)
    have hsz := hb.size
    have hPl := hP.lt
    obtain ⟨p0, p1, g0, g1⟩ := hP.cells
    by_cases hlt : k < first.length
    · have hlt' : (k : Int) < (first.length : Int) := by omega
      have c0 := (HS4.out.mono hb).get k hlt
      have hFBr : FB < wr.heap.size := by omega
      have hXl := HFL.out _ (nth_mem [] first k hlt)
      have HX2 : Hid (cs ++ [nuS 0 (nth [] first k)] = (first.tail.take (k + 1 - 1)).map (nuS 0)) := by
        have h2 : k - 1 < first.tail.length := by simp; omega
        rw [Hid, HE.out, show k + 1 - 1 = (k - 1) + 1 by omega, take_nth [] first.tail (k - 1) h2, List.map_append]
        congr 2
        rw [nth_eq [] _ _ h2, nth_eq [] _ _ hlt]
        simp [show k - 1 + 1 = k by omega]
      generalize nth [] first k = X at c0 hXl HX2
      clear hP hO hb HE p1 g1
      go_wp2_with fail
      go_region_law (first | (refine step_append_lies _ (by rfl) _ _ 23 (by rfl) w4.heap.size 3 i2 (.int .i64 0) 1 8 Tryz.underlying23 hi2 hx0 hx1 hx2 rfl (by omega) _ _ _ (by rfl) (World.ownsRow.alloc HO2.out _) _ 1 1 [.int .i64 (nuS 0 X)] (by rfl) rfl (cell_one_new _ _ _) (by intro u hu; simp at hu; subst hu; rfl) (by omega) (by unfold maxLen; omega) (by omega) (by simp; omega) _ (by rfl) ?_; intro g cap2 w7 hown3 hgrow hat hlt3; have HTG : Hid (TagKept 3 _ w7) := TagKept.grown (World.ownsRow.alloc HO2.out _) hgrow; have HP3 : Hid (PBox w7 (w4.heap.size + 1) (.slice ac cs.length kc) (.slice none 0 0)) := PBox.tag (PBox.alloc HP2.out _) HTG.out (by decide); have HB3 : Hid (Below w4.heap.size w4 w7) := ((HB2.out.alloc hs2 _).grown hgrow (by simp; omega) (fun g hg => (HO2.out.lt g hg).1)); have HO3 : Hid (OwnInt w4.heap.size w7 (.slice (some ⟨g, 0, none⟩) (cs.length + 1) cap2) (cs ++ [nuS 0 X])) := (by unfold Hid OwnInt; rw [List.map_append, List.length_append]; exact hown3); have e31 := HP3.out.cells.1; have f31 := HP3.out.cells.2.2.1; clear hown3 hgrow hat) | (go_simp; go_at_call 31; refine (l1Num_b X _ (by omega)).mono ?_; rintro e w6 ⟨rfl, hb6⟩; have HO2 : Hid (OwnInt w4.heap.size w6 (.slice ac cs.length kc) cs) := own_newU (w := wr.drew) HO.out hb6; have HP2 : Hid (PBox w6 (w4.heap.size + 1) (.slice ac cs.length kc) (.slice none 0 0)) := PBox.heap (w := wr.drew) HP.out (hb6.block _ hPl); have HB2 : Hid (Below w4.heap.size w4 w6) := below_then (Below.drew HB.out) hsz hb6; have hs2 := HB2.out.size; have eP : w6.cell? ⟨w4.heap.size + 1, 0, none⟩ = some (.slice ac cs.length kc) := HP2.out.cells.1; have hP2l := HP2.out.lt; clear hb6))
      all_goals
        clear eP HP2 HO2 HB2 HP HO HB
        go_wp2_with fail
        go_roundw
        case rel => exact ⟨k + 1, cs ++ [nuS 0 X], _, by omega, by omega, by go_num, HX2, by simp; omega, HP3.out.set0 _, own_tag HO3.out (PBox.kept HP3.out) (by decide), HB3.out.setCell (by simp) _⟩
        case measure => simp [intOf]; omega
    · have hlt' : ¬ (k : Int) < (first.length : Int) := by omega
      have hke : k = first.length := by omega
      have HCS : Hid (cs = first.tail.map (nuS 0)) := by
        rw [Hid, HE.out, hke, show first.length - 1 = first.tail.length by simp, List.take_length]
      have HSP2 : Hid (spG l = lines.tail.dropLast.foldl liS ⟨cs, []⟩) := by rw [Hid, HSP.out, HCS.out]
      have HBW : Hid (Below w.heap.size w wr) := HB4.out.trans (hb.mono hw4)
      have HLr := (show Hid (StrsAt _ _ _) from HL4.out.mono hb)
      have HKr := (show Hid (Blk _ _ _) from HK4.out.below hb)
      have HOr := (show Hid (OwnInt _ _ _ _) from hO)
      have HPQ : Hid (PQ wr.heap.size (w4.heap.size + 1) wr wr (.slice ac cs.length kc) (.slice none 0 0) cs []) :=
        ⟨Fr.refl _ _ _, hPl, Nat.le_refl _, p0, p1, g0, g1, World.ownsRow_nil _ _ _ _, (fun x hx => by cases hx), List.Pairwise.nil⟩
      have HCB : Hid (∀ g, (Value.slice ac cs.length kc).ownBlock = some g → g < wr.heap.size ∧ g ≠ w4.heap.size + 1) := fun b hb' => by
        refine ⟨(hO.lt b hb').2, fun e2 => ?_⟩
        subst e2
        rcases hO.2 with ⟨e3, h3⟩ | ⟨g, cap, cur, e3, _, hg, _⟩
        · rw [e3] at hb'; cases hb'
        · rw [e3] at hb'
          injection hb' with e6
          have e7 : g = w4.heap.size + 1 := e6
          subst e7
          have := HP.out
          unfold PBox at this
          rw [hg] at this
          injection this with this
          injection this with _ this
          revert this; decide
      have hLBr : LB < wr.heap.size := by omega
      have hLP : LB ≠ w4.heap.size + 1 := by omega
      have hRr : w.heap.size < wr.heap.size := by omega
      have hRP : w.heap.size ≠ w4.heap.size + 1 := by omega
      clear HP HO HB hP hO hb HE HSP HCS HL4 HK4 HB4 HS4 p0 p1 g0 g1 hke
      obtain ⟨B, hB⟩ : ∃ B, B = wr.heap.size := ⟨_, rfl⟩
      obtain ⟨wq, hwq⟩ : ∃ wq, wq = wr := ⟨_, rfl⟩
      rw [← hB] at HPQ HCB hLBr hRr
      have HWQ := (show Hid (wq = wr) from hwq)
      have HPQ0 : Hid (PQ B (w4.heap.size + 1) wq wr (.slice ac cs.length kc) (.slice none 0 0) cs []) := by rw [hwq]; exact HPQ.out
      rw [← hwq] at HLr HKr HOr HBW
      have hBq : B ≤ wq.heap.size := by rw [hwq, hB]; exact Nat.le_refl _
      have hBr : B ≤ wr.heap.size := by rw [hB]; exact Nat.le_refl _
      have hPB : w4.heap.size + 1 < B := HPQ.out.lt
      clear hwq hB HPQ
      go_wp2_with fail
      go_loopw [8] (fun q w' => ∃ (k : Nat) (L : List (List Ac × Value)) (bv : Value), 1 ≤ k ∧ k ≤ lines.length ∧ q = .int .i64 k ∧ Hid ((lines.tail.dropLast.take (k - 1)).foldl liS ⟨cs, []⟩ = ⟨cs, L.map (·.1)⟩) ∧ PQ B (w4.heap.size + 1) wq w' (.slice ac cs.length kc) bv cs L ∧ L.length ≤ k ∧ Hid (∀ x, x ∈ L → x.1.length ≤ k)) (fun q _ => lines.length - (intOf q).toNat)
      case atStart => exact ⟨1, [], _, by omega, by omega, rfl, by rw [Hid]; simp, HPQ0.out, by simp, fun x hx => by cases hx⟩
      clear HPQ0 HWQ
      case round =>
        obtain ⟨k, L, bv, hk1, hkl, rfl, HF, hpg, hLk, HLA⟩ := hrel
        have HPQ := (show Hid (PQ _ _ _ _ _ _ _ _) from hpg)
        have hszr : B ≤ wr.heap.size := hpg.size
        obtain ⟨p0, p1, g0, g1⟩ : wr.cell? ⟨w4.heap.size + 1, 0, none⟩ = some (.slice ac cs.length kc) ∧ wr.cell? ⟨w4.heap.size + 1, 1, none⟩ = some bv ∧ wr.frozen? ⟨w4.heap.size + 1, 0, none⟩ = false ∧ wr.frozen? ⟨w4.heap.size + 1, 1, none⟩ = false := ⟨hpg.c0, hpg.c1, hpg.f0, hpg.f1⟩
        obtain ⟨ab, kb, rfl, hkb, _⟩ := own_shape hpg.row
        have HBr : Hid (Below w.heap.size w wr) := HBW.out.trans ((hpg.fr.mono (by omega)).below (by omega))
        have hPr : w4.heap.size + 1 < wr.heap.size := by omega
        by_cases hlt : k + 1 < lines.length
        · have hlt' : (k : Int) + 1 < (lines.length : Int) := by omega
          have hkn' : (k : Int) < (lines.length : Int) := by omega
          have c0 := (hpg.fr.strs HLr.out hLBr hLP).get k (by omega)
          have hlen := HLL.out _ (nth_mem [] lines k (by omega))
          have HTK : Hid ((lines.tail.dropLast.take (k + 1 - 1)).foldl liS ⟨cs, []⟩ = liS ⟨cs, L.map (·.1)⟩ (nth [] lines k)) := by
            rw [Hid, fold_take lines liS _ k hk1 hlt, HF.out]
          generalize nth [] lines k = line at c0 hlen HTK
          have HLT : Hid (∀ x, x ∈ L → x.2.ownBlock ≠ some wr.heap.size) := fun x hx e => by
            obtain ⟨_, _, hr, _⟩ := hpg.acts x hx
            have := (hr.lt _ e).2
            omega
          have hLBw : LB < wr.heap.size := by omega
          clear hpg HF
          obtain ⟨S, hS⟩ : ∃ S, S = bs line := ⟨_, rfl⟩
          by_cases h2 : line = BW
          · have t2 : (S.toList == [98, 111, 100, 121]) = true := by rw [hS, bs_lst, h2]; rfl
            have HLI2 : Hid (liS ⟨cs, L.map (·.1)⟩ line = ⟨cs, (L ++ [(([] : List Ac), Value.slice (some ⟨wr.heap.size, 0, none⟩) 0 0)]).map (·.1)⟩) := by
              unfold Hid liS
              rw [if_pos h2]
              simp
            rw [← hS] at c0
            clear h2 hS
            have HPA : Hid (PQ B (w4.heap.size + 1) wq ((wr.alloc (.cells #[] 44)).alloc (.cells #[.slice (some ⟨wr.heap.size, 0, none⟩) 0 0] 41)) (.slice ac cs.length kc) (.slice ab L.length kb) cs L) := HPQ.out.next (((Below.refl _ _).alloc (Nat.le_refl _) _).alloc (by simp) _)
            have HEM : Hid (((wr.alloc (.cells #[] 44)).alloc (.cells #[.slice (some ⟨wr.heap.size, 0, none⟩) 0 0] 41)).heap[wr.heap.size]? = some (.cells #[] 44 (0, 0))) := by
              rw [Hid, Below.heap_alloc _ _ _ (by simp)]
              exact heap_alloc_new wr _
            go_wp2_with (at_builtin; refine wpList_append_own _ rfl _ _ 24 rfl B 41 i3 (.slice none 0 0) 1 24 Tryz.underlying24 hi3 hz0 hz1 hz2 rfl (by decide) _ _ _ rfl HPA.out.row ⟨wr.heap.size + 1, 0, none⟩ 1 1 [.slice (some ⟨wr.heap.size, 0, none⟩) 0 0] rfl rfl (fun j u hj => by match j, hj with | 0, hj => simp at hj; subst hj; simp [Addr.add, go_sem]) ?a2 ?a3 ?a4 ?a5 ?_)
            case a2 => first | rfl | (intro u hu; simp at hu; subst hu; rfl)
            case a3 => unfold maxLen; omega
            case a4 => omega
            case a5 => first | omega | (simp; omega)
            intro v8 w8 hown8 hgrow8 _
            obtain ⟨a8, k8, rfl, _, _⟩ := own_shape hown8
            have HPG8 := (show Hid (PQ _ _ _ _ _ _ _ _) from HPA.out.addBodyE HEM.out hszr HLT.out hown8 hgrow8)
            obtain ⟨p8, q8⟩ : w8.cell? ⟨w4.heap.size + 1, 1, none⟩ = some (.slice ab L.length kb) ∧ w8.frozen? ⟨w4.heap.size + 1, 1, none⟩ = false := by
              have hP : w4.heap.size + 1 < ((wr.alloc (.cells #[] 44)).alloc (.cells #[.slice (some ⟨wr.heap.size, 0, none⟩) 0 0] 41)).heap.size := by simp; omega
              have hPb : some (w4.heap.size + 1) ≠ (Value.slice ab L.length kb).ownBlock := fun e => by have := (HPA.out.row.lt _ e.symm).1; omega
              exact ⟨(World.cell?_of_block (hgrow8.block _ hP hPb)).trans HPA.out.c1, (World.frozen?_of_block (hgrow8.block _ hP hPb)).trans HPA.out.f1⟩
            clear hown8 hgrow8 HPA HPQ p0 p1 g0 g1 HEM HLT
            go_wp2_with fail
            go_roundw
            case rel => exact ⟨k + 1, _, _, by omega, by omega, by go_num, (by rw [Hid, HTK.out, HLI2.out]), HPG8.out, by simp; omega, fun x hx => by
              rcases List.mem_append.1 hx with h | h
              · have := HLA.out x h; omega
              · simp at h; subst h; simp⟩
            case measure => simp [intOf]; omega
          · have t2 : (S.toList == [98, 111, 100, 121]) = false := by rw [hS, bs_lst]; simpa [BW] using h2
            by_cases hL : L = []
            · have HLI2 : Hid (liS ⟨cs, L.map (·.1)⟩ line = ⟨cs, L.map (·.1)⟩) := by
                unfold Hid liS
                rw [if_neg h2, if_pos (by simp [hL])]
              have hL0 : ¬ (0 : Int) < (L.length : Int) := by rw [hL]; simp
              rw [← hS] at c0
              clear hL h2 hS
              go_wp2_with fail
              go_roundw
              case rel => exact ⟨k + 1, L, _, by omega, by omega, by go_num, (by rw [Hid, HTK.out, HLI2.out]), HPQ.out, by omega, fun x hx => by have := HLA.out x hx; omega⟩
              case measure => simp [intOf]; omega
            · obtain ⟨L0, x0, rfl⟩ : ∃ L0 x0, L = L0 ++ [x0] := ⟨L.dropLast, L.getLast hL, (List.dropLast_concat_getLast hL).symm⟩
              obtain ⟨A0, av⟩ := x0
              have hA : OwnActs B wr av A0 := HPQ.out.acts (A0, av) (by simp)
              obtain ⟨M, rfl, hM, hMi⟩ := hA
              obtain ⟨am, km, rfl, hkm, _⟩ := own_shape hM
              have hMk : M.length ≤ k := by have := HLA.out _ (List.mem_append.2 (.inr (List.mem_singleton.2 rfl))); simpa using this
              have HM := (show Hid (_ ∧ _) from And.intro hM hMi)
              have HLI2 : Hid (liS ⟨cs, (L0 ++ [(M.map (·.1), Value.slice am M.length km)]).map (·.1)⟩ line = ⟨cs, L0.map (·.1) ++ [M.map (·.1) ++ [acS (splC 32 line)]]⟩) := by
                unfold Hid liS
                rw [if_neg h2, if_neg (by simp)]
                simp [lastG]
              obtain ⟨gb, hgb⟩ : ∃ gb, ab = some ⟨gb, 0, none⟩ := by
                obtain ⟨g, cap, e, _⟩ := own_cell HPQ.out.row 0 (by simp)
                injection e with e1
                exact ⟨g, e1⟩
              subst hgb
              have hLL : (L0 ++ [(M.map (·.1), Value.slice am M.length km)]).length = L0.length + 1 := by simp
              rw [hLL] at p1 hkb hLk
              have HPG6 : Hid (PQ B (w4.heap.size + 1) wq wr (.slice ac cs.length kc) (.slice (some ⟨gb, 0, none⟩) (L0.length + 1) kb) cs (L0 ++ [(M.map (·.1), Value.slice am M.length km)])) := by have := HPQ.out; rw [hLL] at this; exact this
              have t2' : ((bs line).toList == [98, 111, 100, 121]) = false := by rw [← hS]; exact t2
              clear HPQ hM hMi hL hLL HLT hS t2 h2
              go_wp2_with fail
              refine read_reg17 B (w4.heap.size + 1) LB LC k wq wr (.slice ac cs.length kc) cs gb kb L0 M am km lines line HPG6 HM c0 hLBr hLP (by omega) (by omega) ⟨hlc1, hlc2⟩ (by omega) (by omega) (by omega) _ _ _ _ _ _ _ _ _ _ _ _ _ _ _ _ _ _ _ _ _ _ _ _ _ _ _ _ _ _ _ _ _ _ _ _ _ _ _ _ _ _ _ _ _ _ _ _ _ _ _ _ _ _ _ _ _ _ _ _ _ _ _ _ _ _ _ _ _ _ _ _ _ _ _ _ _ _ _ _ _ _ _ _ _ _ _ _ _ _ _ ?_
              intro v69 v70 v71 v72 v73 v74 v75 v76 v77 v78 v79 v80 v81 v82 v83 v84 v85 v86 v87 V av hV
              have HV := (show Hid (PQ _ _ _ _ _ _ _ _) from hV)
              clear hV HPG6 HM
              go_wp2_with fail
              go_roundw
              case rel => exact ⟨k + 1, _, _, by omega, by omega, by go_num, (by rw [Hid, HTK.out, HLI2.out]; simp), HV.out, by simp; omega, fun x hx => by
                rcases List.mem_append.1 hx with h | h
                · have := HLA.out x (List.mem_append.2 (.inl h)); omega
                · simp at h; subst h; simp; omega⟩
              case measure => simp [intOf]; omega
        · have hlt' : ¬ (k : Int) + 1 < (lines.length : Int) := by omega
          have HE : Hid (spG l = ⟨cs, L.map (·.1)⟩) := by
            rw [Hid, HSP2.out, ← HF.out, List.take_of_length_le (by simp; omega)]
          have HKw : Hid (Blk wr w.heap.size 2) := ⟨by omega, fun j hj => by rw [hpg.fr.cell (by omega) (by omega), hpg.fr.frozen (by omega) (by omega)]; exact HKr.out.2 j hj⟩
          have HOw : Hid (OwnInt w4.heap.size wr (.slice ac cs.length kc) cs) := own_heap HOr.out fun g hg => hpg.fr.block g (HCB.out g hg).1 (HCB.out g hg).2
          have HBw : Hid (OwnBodies B wr (.slice ab L.length kb) (L.map (·.1))) := ⟨L, rfl, hpg.row, hpg.acts⟩
          clear hpg HF HLA HPQ HOr HKr HLr
          go_wp2_with fail
          refine (sProgText_any ⟨cs, L.map (·.1)⟩ _ _ _ HOw.out.at HBw.out.at).mono ?_
          rintro e w9 ⟨rfl, hb9⟩
          rw [← HE.out]
          have HK9 := (show Hid (Blk _ _ _) from HKw.out.below hb9)
          have HO9 : Hid (OwnInt w4.heap.size w9 (.slice ac cs.length kc) cs) := own_newU HOw.out hb9
          have HB9 : Hid (OwnBodies B w9 (.slice ab L.length kb) (L.map (·.1))) := HBw.out.new hb9
          have HBL : Hid (Below w.heap.size w w9) := below_then HBr.out HBr.out.size hb9
          rw [← hb9.cell (p := ⟨w4.heap.size + 1, 0, none⟩) hPr] at p0
          rw [← hb9.cell (p := ⟨w4.heap.size + 1, 1, none⟩) hPr] at p1
          obtain ⟨⟨x0, y0⟩, z0⟩ := HK9.out.2 0 (by omega)
          obtain ⟨⟨x1, y1⟩, z1⟩ := HK9.out.2 1 (by omega)
          clear hb9 HKw HOw HBw g0 g1
          by_cases ht : txT (spG l) = l
          · have HR : Hid (spR l = some (spG l)) := by unfold Hid spR; rw [if_pos ⟨by omega, by rw [HFH.out]; exact HCE.out, ht⟩]
            have t3 : ((bs (txT (spG l))).toList == (bs l).toList) = true := by rw [ht]; simp
            clear ht
            go_wp2_with fail
            obtain ⟨j1, j2⟩ := set2_in HK9.out (.slice ac cs.length kc) (.slice ab L.length kb)
            refine bodyPost_ret (v := .tuple #[.agg #[.slice ac cs.length kc, .slice ab L.length kb], .bool true]) (by simp [results, Tryz.results12, go_sem, j1, j2]) rfl ⟨_, _, by rw [HR.out]; rfl, ?_, ?_, (HBL.out.setCell (by simp) _).setCell (by simp) _⟩
            · rw [HR.out, Option.getD_some, HE.out]
              exact OwnInt.at (B := w4.heap.size) (own_lowU (own_lowU HO9.out (by omega)) (by omega))
            · rw [HR.out, Option.getD_some, HE.out]
              exact ((HB9.out.setLow (a := ⟨w.heap.size, 0, none⟩) hRr _).setLow (a := ⟨w.heap.size, 1, none⟩) hRr _).at
          · have HR : Hid (spR l = none) := by unfold Hid spR; rw [if_neg (fun h => ht h.2.2)]
            have t3 : ((bs (txT (spG l))).toList == (bs l).toList) = false := by
              rw [bs_lst, bs_lst]; simpa using ht
            clear ht
            go_wp2_with fail
            obtain ⟨j1, j2⟩ := set2_in HK9.out (.slice none 0 0) (.slice none 0 0)
            refine bodyPost_ret (v := .tuple #[.agg #[.slice none 0 0, .slice none 0 0], .bool false]) (by simp [results, Tryz.results12, go_sem, j1, j2]) rfl ⟨_, _, by rw [HR.out]; rfl, by rw [HR.out]; exact (hnil.out _).1, by rw [HR.out]; exact (hnil.out _).2, (HBL.out.setCell (by simp) _).setCell (by simp) _⟩

end Go.Proofs.YtliakmgombpjpaaGreatDoor
