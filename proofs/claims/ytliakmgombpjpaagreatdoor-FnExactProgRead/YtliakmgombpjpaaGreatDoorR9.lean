/-
  progGuess: the only program whose text a text can be: the walk.
-/
import Derived.Test.YtliakmgombpjpaaGreatDoorR8
namespace Go.Proofs.YtliakmgombpjpaaGreatDoor
open Go.RowKit
set_option linter.unusedSimpArgs false
set_option linter.unusedVariables false
set_option maxRecDepth 20000

/-- inner rows apart, and rows of acts apart -/
def PGx (B : Nat) (w : World) (cv : Value) (L : List (List Ac × Value)) : Prop := Inn B w cv L ∧ L.Pairwise (fun x y => x.2.ownBlock = none ∨ x.2.ownBlock ≠ y.2.ownBlock)
set_option maxHeartbeats 4000000 in
theorem progGuess_any (l : List UInt8) (w : World) (hG : Gl w) (hl : l.length ≤ 1000000) :
    Calls Tryz.prog 24 #[.string (bs l)] w fun e w' => ∃ (cv bv : Value) (L : List (List Ac × Value)), e = .returned (.agg #[cv, bv]) ∧ OwnInt w.heap.size w' cv (prG l).cells ∧ (prG l).bodies = L.map (·.1) ∧ w'.ownsRow w.heap.size 41 1 bv L.length (L.map (·.2)) ∧ (∀ x, x ∈ L → OwnActs w.heap.size w' x.2 x.1) ∧ Below w.heap.size w w' ∧ PGx w.heap.size w' cv L := by
  have ht := trim_le l [10]
  obtain ⟨lines, hlines⟩ : ∃ x, x = splC 10 (Lib.trimSuffix l [10]) := ⟨_, rfl⟩
  have hll := splC_len 10 (Lib.trimSuffix l [10])
  rw [← hlines] at hll
  have HLen : Hid (∀ x, x ∈ lines → x.length ≤ 1000000) := fun x hx => by have := hll.2 x hx; omega
  have hlm : lines.length ≤ 1000001 := by have := hll.1; omega
  have HPR : Hid (prG l = lines.foldl liG ⟨[], []⟩) := by rw [hlines]; rfl
  have HLI := (show Hid (lines = _) from hlines)
  have HG := (show Hid (Gl _) from hG)
  clear hll hlines hG
  obtain ⟨i3, hi3, hz0, hz1, hz2⟩ := info_parts Tryz.info_acts
  go_enter Tryz.func24, Tryz.ntmps24
  go_wp2_with fail
  refine (trim_l l 10 _ (by omega)).mono ?_
  rintro e w' ⟨rfl, hw⟩
  have hw := hw.symm
  subst hw
  go_wp2_with fail
  refine (split_l (Lib.trimSuffix l [10]) 10 _ (HG.out.mono (((Below.refl _ _).alloc (Nat.le_refl _) _).alloc (by simp) _)) (by omega)).mono ?_
  rintro e w3 ⟨rfl, hs3, hb3⟩
  rw [← HLI.out] at hs3 ⊢
  have hz3 : w.heap.size + 2 < w3.heap.size := by
    have h1 := hb3.size
    simp at h1
    obtain ⟨a, cap, e, _, hc⟩ := hs3
    injection e with e1
    subst e1
    have hne : 0 < lines.length := by
      rw [HLI.out]
      exact List.length_pos_iff.2 (splC_ne _ _)
    obtain ⟨b, off, e2, hb, _⟩ := hc 0 hne
    injection e2 with e3
    injection e3 with e4
    rw [← e4] at hb
    simp at hb
    omega
  have HS3 : Hid (StrsAt w3 (.slice (some ⟨w.heap.size + 1 + 1, 0, none⟩) lines.length lines.length) lines) := by
    have := hs3
    simp only [World.size_alloc] at this
    exact this
  have HB3 : Hid (Below w.heap.size w w3) := below_after2 (Below.refl _ _) (Nat.le_refl _) hb3
  have HPG : Hid (PG w3.heap.size (w.heap.size + 1) w3 w3 (.slice none 0 0) (.slice none 0 0) [] []) := by
    refine ⟨Fr.refl _ _ _, by omega, Nat.le_refl _, ?_, ?_, ?_, ?_, World.ownsRow_nil _ _ _ _, World.ownsRow_nil _ _ _ _, (fun x hx => by cases hx), List.Pairwise.nil, ⟨[], rfl, (fun x hx => by cases hx), (fun x hx => by cases hx), List.Pairwise.nil, (fun x hx => by cases hx)⟩⟩
    · rw [hb3.cell (p := ⟨w.heap.size + 1, 0, none⟩) (by simp)]; simp [go_sem]
    · rw [hb3.cell (p := ⟨w.heap.size + 1, 1, none⟩) (by simp)]; simp [go_sem]
    · rw [hb3.frozen (p := ⟨w.heap.size + 1, 0, none⟩) (by simp)]; simp [go_sem]
    · rw [hb3.frozen (p := ⟨w.heap.size + 1, 1, none⟩) (by simp)]; simp [go_sem]
  have HBK : Hid (Blk w3 w.heap.size 2) := by
    refine ⟨by omega, fun j hj => ?_⟩
    rw [hb3.cell (p := ⟨w.heap.size, j, none⟩) (by simp; omega), hb3.frozen (p := ⟨w.heap.size, j, none⟩) (by simp; omega)]
    match j, hj with
    | 0, _ => exact ⟨⟨.slice none 0 0, by simp [go_sem]⟩, by simp [go_sem]⟩
    | 1, _ => exact ⟨⟨.slice none 0 0, by simp [go_sem]⟩, by simp [go_sem]⟩
  clear hb3 hs3
  go_wp2_with fail
  go_loopw [12] (fun q w' => ∃ (k : Nat) (cs : List Int) (L : List (List Ac × Value)) (cv bv : Value), k ≤ lines.length ∧ q = .int .i64 k ∧ (lines.take k).foldl liG ⟨[], []⟩ = ⟨cs, L.map (·.1)⟩ ∧ PG w3.heap.size (w.heap.size + 1) w3 w' cv bv cs L ∧ L.length ≤ k ∧ (∀ x, x ∈ L → x.1.length ≤ k)) (fun q _ => lines.length - (intOf q).toNat)
  case atStart => exact ⟨0, [], [], _, _, Nat.zero_le _, rfl, by simp, HPG.out, by simp, fun x hx => by cases hx⟩
  clear HPG
  case round =>
    obtain ⟨k, cs, L, cv, bv, hk, rfl, hfold, hpg, hLk, hLa⟩ := hrel
    have HF := (show Hid (_ = Pr.mk _ _) from hfold)
    have HPG := (show Hid (PG _ _ _ _ _ _ _ _) from hpg)
    have HLA := (show Hid (∀ x, x ∈ L → _) from hLa)
    have hszr := hpg.size
    have HBr : Hid (Below w.heap.size w wr) := HB3.out.trans ((hpg.fr.mono (by omega)).below (by omega))
    have HGr := (show Hid (Gl _) from HG.out.mono HBr.out)
    clear hfold hpg hLa
    by_cases hlt : k < lines.length
    · have hlt' : (k : Int) < (lines.length : Int) := by omega
      obtain ⟨ax, cx, ex, _, hcx⟩ := HPG.out.fr.strs HS3.out (by omega) (by omega)
      obtain ⟨bx, ox, ex2, hbx, c0⟩ := hcx k hlt
      injection ex with ex3 ex3b ex3c
      rw [← ex3] at ex2
      clear ex3b ex3c
      injection ex2 with ex4
      injection ex4 with ex5 ex6
      subst ex5 ex6
      have hlen := HLen.out _ (nth_mem [] lines k hlt)
      obtain ⟨line, hline⟩ : ∃ x, x = nth [] lines k := ⟨_, rfl⟩
      have HTK : Hid ((lines.take (k + 1)).foldl liG ⟨[], []⟩ = liG ⟨cs, L.map (·.1)⟩ line) := by
        rw [Hid, take_nth [] lines k hlt, List.foldl_append, HF.out, hline]; rfl
      rw [← hline] at c0 hlen
      rw [Nat.zero_add] at c0
      clear hcx hline ex3 HF
      go_wp2_with fail
      refine (split_l line 32 _ HGr.out (by omega)).mono ?_
      rintro e w5 ⟨rfl, hs5, hb5⟩
      have HPG5 := (show Hid (PG _ _ _ _ _ _ _ _) from HPG.out.next hb5)
      have HLT : Hid (∀ x, x ∈ L → ∀ g, x.2.ownBlock = some g → g < wr.heap.size) := fun x hx g hg => by
        obtain ⟨_, _, hr, _⟩ := HPG.out.acts x hx
        exact (hr.lt g hg).2
      have HG5 := (show Hid (Gl _) from HGr.out.mono hb5)
      have hwl := splC_len 32 line
      obtain ⟨ws, hws⟩ : ∃ x, x = splC 32 line := ⟨_, rfl⟩
      have hne : ws ≠ [] := by rw [hws]; exact splC_ne _ _
      rw [← hws] at hs5 hwl ⊢
      have HWS := (show Hid (ws = _) from hws)
      have HS5 := (show Hid (StrsAt _ _ _) from hs5)
      have hw1 : 0 < ws.length := List.length_pos_iff.2 hne
      have hw1' : (0 : Int) < (ws.length : Int) := by omega
      have hwlen : ws.length ≤ 1000001 := by have := hwl.1; omega
      have HWL : Hid (∀ x, x ∈ ws → x.length ≤ 1000000) := fun x hx => by have := hwl.2 x hx; omega
      obtain ⟨ay, cy, ey, _, hcy⟩ := hs5
      obtain ⟨by0, oy, ey2, hby, d0⟩ := hcy 0 hw1
      injection ey with ey3 ey3b ey3c
      rw [← ey3] at ey2
      clear ey3b ey3c
      injection ey2 with ey4
      injection ey4 with ey5 ey6
      subst ey5 ey6
      obtain ⟨hd, hhd⟩ : ∃ x, x = nth [] ws 0 := ⟨_, rfl⟩
      rw [← hhd] at d0
      rw [Nat.zero_add] at d0
      have HHD : Hid (ws.headD [] = hd) := by
        rw [Hid, hhd]
        cases ws with
        | nil => exact absurd rfl hne
        | cons x xs => rfl
      clear hb5 HPG HGr c0 hcy hws hwl hne ey3 hhd
      obtain ⟨p0, p1, q0, q1⟩ : w5.cell? ⟨w.heap.size + 1, 0, none⟩ = some cv ∧ w5.cell? ⟨w.heap.size + 1, 1, none⟩ = some bv ∧ w5.frozen? ⟨w.heap.size + 1, 0, none⟩ = false ∧ w5.frozen? ⟨w.heap.size + 1, 1, none⟩ = false := ⟨HPG5.out.c0, HPG5.out.c1, HPG5.out.f0, HPG5.out.f1⟩
      obtain ⟨ab, kb, rfl, hkb, _⟩ := own_shape HPG5.out.row
      obtain ⟨ac, kc, rfl, hkc, _⟩ := own_shape HPG5.out.cells
      by_cases h1 : hd = CELLS
      · have t1 : ((bs hd).toList == [99, 101, 108, 108, 115]) = true := by rw [bs_eq, h1]; rfl
        have HH := (show Hid (hd = CELLS) from h1)
        clear h1
        have HT0 : Hid (ws.length = 1 → StrsAt w5 (.slice (some ⟨wr.heap.size, 0, none⟩) 0 0) ws.tail) := fun h => StrsAt.tail0 _ 1 0 h (by omega) (by omega)
        have HT1 : Hid (1 < ws.length → StrsAt w5 (.slice (some ⟨wr.heap.size, 1, none⟩) (ws.length - 1) (ws.length - 1)) ws.tail) := fun h => HS5.out.tail h
        obtain ⟨c7, hc7⟩ : ∃ x, x = ws.tail.map nuG := ⟨_, rfl⟩
        have HC7 := (show Hid (_ = _) from hc7)
        have HLI2 : Hid (liG ⟨cs, L.map (·.1)⟩ line = ⟨c7, L.map (·.1)⟩) := by
          unfold Hid liG
          rw [← HWS.out, HHD.out, if_pos HH.out, hc7]
        clear hc7
        go_wp2_with fail
        all_goals refine (numsGuess_any _ ws.tail _ (by first | exact HT0.out (by omega) | exact HT1.out (by omega)) HG5.out (by simp; omega) (fun x hx => by have := HWL.out x (List.mem_of_mem_tail hx); omega)).mono ?_
        all_goals rintro e w7 ⟨v7, rfl, ho7, hb7⟩
        all_goals rw [← HC7.out] at ho7
        all_goals obtain ⟨a7, k7, rfl, _, _⟩ := own_shape ho7
        all_goals have HPG7 := (show Hid (PG _ _ _ _ _ _ _ _) from HPG5.out.setCells hb7 ho7)
        all_goals rw [← hb7.cell (p := ⟨w.heap.size + 1, 0, none⟩) (by simp; omega)] at p0
        all_goals rw [← hb7.cell (p := ⟨w.heap.size + 1, 1, none⟩) (by simp; omega)] at p1
        all_goals rw [← hb7.frozen (p := ⟨w.heap.size + 1, 0, none⟩) (by simp; omega)] at q0
        all_goals clear ho7 hb7 HPG5
        all_goals go_wp2_with fail
        all_goals go_roundw
        case rel => exact ⟨k + 1, _, L, _, _, by omega, by go_num, by rw [HTK.out, HLI2.out], HPG7.out, by omega, fun x hx => by have := HLA.out x hx; omega⟩
        case measure => simp [intOf]; omega
        case rel => exact ⟨k + 1, _, L, _, _, by omega, by go_num, by rw [HTK.out, HLI2.out], HPG7.out, by omega, fun x hx => by have := HLA.out x hx; omega⟩
        case measure => simp [intOf]; omega
      · have t1 : ((bs hd).toList == [99, 101, 108, 108, 115]) = false := by rw [bs_eq]; exact decide_eq_false h1
        have HN1 := (show Hid (¬ hd = CELLS) from h1)
        clear h1
        by_cases h2 : hd = BW
        · have t2 : ((bs hd).toList == [98, 111, 100, 121]) = true := by rw [bs_eq, h2]; rfl
          have HLI2 : Hid (liG ⟨cs, L.map (·.1)⟩ line = ⟨cs, (L ++ [(([] : List Ac), Value.slice none 0 0)]).map (·.1)⟩) := by
            unfold Hid liG
            rw [← HWS.out, HHD.out, if_neg HN1.out, if_pos h2]
            simp
          clear h2 HN1
          have HPA : Hid (PG w3.heap.size (w.heap.size + 1) w3 (w5.alloc (.cells #[.slice none 0 0] 41)) (.slice ac cs.length kc) (.slice ab L.length kb) cs L) := HPG5.out.next ((Below.refl _ _).alloc (Nat.le_refl _) _)
          have hs5 := HPG5.out.size
          go_wp2_with (at_builtin; refine wpList_append_own _ rfl _ _ 24 rfl w3.heap.size 41 i3 (.slice none 0 0) 1 24 Tryz.underlying24 hi3 hz0 hz1 hz2 rfl (by decide) _ _ _ rfl HPA.out.row ⟨w5.heap.size, 0, none⟩ 1 1 [.slice none 0 0] rfl rfl ?a1 ?a2 ?a3 ?a4 ?a5 ?_)
          case a1 =>
            intro j u hj
            match j, hj with
            | 0, hj => simp at hj; subst hj; simp [Addr.add]
          case a2 => intro u hu; simp at hu; subst hu; rfl
          case a3 => unfold maxLen; omega
          case a4 => omega
          case a5 => simp; omega
          intro v8 w8 hown8 hgrow8 _
          obtain ⟨a8, k8, rfl, _, _⟩ := own_shape hown8
          have HPG8 := (show Hid (PG _ _ _ _ _ _ _ _) from HPA.out.addBody hown8 hgrow8)
          obtain ⟨p8, q8⟩ : w8.cell? ⟨w.heap.size + 1, 1, none⟩ = some (.slice ab L.length kb) ∧ w8.frozen? ⟨w.heap.size + 1, 1, none⟩ = false := by
            have hP : w.heap.size + 1 < (w5.alloc (.cells #[.slice none 0 0] 41)).heap.size := by simp; omega
            have hPb : some (w.heap.size + 1) ≠ (Value.slice ab L.length kb).ownBlock := fun e => by have := (HPA.out.row.lt _ e.symm).1; omega
            exact ⟨(World.cell?_of_block (hgrow8.block _ hP hPb)).trans HPA.out.c1, (World.frozen?_of_block (hgrow8.block _ hP hPb)).trans HPA.out.f1⟩
          clear hown8 hgrow8 HPA HPG5 p0 p1 q0 q1
          go_wp2_with fail
          go_roundw
          case rel => exact ⟨k + 1, _, _, _, _, by omega, by go_num, by rw [HTK.out, HLI2.out], HPG8.out, by simp; omega, fun x hx => by
            rcases List.mem_append.1 hx with h | h
            · have := HLA.out x h; omega
            · simp at h; subst h; simp⟩
          case measure => simp [intOf]; omega
        · have t2 : ((bs hd).toList == [98, 111, 100, 121]) = false := by rw [bs_eq]; exact decide_eq_false h2
          have HN2 := (show Hid (¬ hd = BW) from h2)
          clear h2
          by_cases hL : L = []
          · have HLI2 : Hid (liG ⟨cs, L.map (·.1)⟩ line = ⟨cs, L.map (·.1)⟩) := by
              unfold Hid liG
              rw [← HWS.out, HHD.out, if_neg HN1.out, if_neg HN2.out, if_pos (by simp [hL])]
            have hL0 : ¬ (0 : Int) ≤ (L.length : Int) - 1 := by rw [hL]; simp
            clear hL
            go_wp2_with fail
            go_roundw
            case rel => exact ⟨k + 1, _, L, _, _, by omega, by go_num, by rw [HTK.out, HLI2.out], HPG5.out, by omega, fun x hx => by have := HLA.out x hx; omega⟩
            case measure => simp [intOf]; omega
          · obtain ⟨L0, x0, rfl⟩ : ∃ L0 x0, L = L0 ++ [x0] := ⟨L.dropLast, L.getLast hL, (List.dropLast_concat_getLast hL).symm⟩
            obtain ⟨A0, av⟩ := x0
            have hA : OwnActs w3.heap.size w5 av A0 := HPG5.out.acts (A0, av) (by simp)
            obtain ⟨M, rfl, hM, hMi⟩ := hA
            obtain ⟨am, km, rfl, hkm, _⟩ := own_shape hM
            have hMk : M.length ≤ k := by have := HLA.out _ (List.mem_append.2 (.inr (List.mem_singleton.2 rfl))); simpa using this
            have HLT0 : Hid (∀ g, (Value.slice am M.length km).ownBlock = some g → g < wr.heap.size) := HLT.out _ (List.mem_append.2 (.inr (List.mem_singleton.2 rfl)))
            have HM := (show Hid (_ ∧ _) from And.intro hM hMi)
            obtain ⟨a, ha⟩ : ∃ a, a = acG hd ws.tail := ⟨_, rfl⟩
            have HA := (show Hid (_ = _) from ha)
            have HLI2 : Hid (liG ⟨cs, (L0 ++ [(M.map (·.1), Value.slice am M.length km)]).map (·.1)⟩ line = ⟨cs, L0.map (·.1) ++ [M.map (·.1) ++ [a]]⟩) := by
              unfold Hid liG
              rw [← HWS.out, HHD.out, if_neg HN1.out, if_neg HN2.out, if_neg (by simp), ha]
              simp [lastG]
            obtain ⟨gb, hgb⟩ : ∃ gb, ab = some ⟨gb, 0, none⟩ := by
              obtain ⟨g, cap, e, _⟩ := own_cell HPG5.out.row 0 (by simp)
              injection e with e1
              exact ⟨g, e1⟩
            subst hgb
            have hLL : (L0 ++ [(M.map (·.1), Value.slice am M.length km)]).length = L0.length + 1 := by simp
            rw [hLL] at p1 hkb hLk
            have HPG6 : Hid (PG w3.heap.size (w.heap.size + 1) w3 w5 (.slice ac cs.length kc) (.slice (some ⟨gb, 0, none⟩) (L0.length + 1) kb) cs (L0 ++ [(M.map (·.1), Value.slice am M.length km)])) := by have := HPG5.out; rw [hLL] at this; exact this
            have hgbl := HPG6.out.row.lt gb rfl
            clear HPG5 hM hMi ha hL hLL HLT HN1 HN2
            obtain ⟨tv, htv⟩ : ∃ tv, (ws.length = 1 ∧ tv = Value.slice (some ⟨wr.heap.size, 0, none⟩) 0 0) ∨ (1 < ws.length ∧ tv = Value.slice (some ⟨wr.heap.size, 1, none⟩) (ws.length - 1) (ws.length - 1)) := by
              by_cases h : ws.length = 1
              · exact ⟨_, .inl ⟨h, rfl⟩⟩
              · exact ⟨_, .inr ⟨by omega, rfl⟩⟩
            have HTV := (show Hid (_ ∨ _) from htv)
            have HTS : Hid (StrsAt w5 tv ws.tail) := by
              rcases htv with ⟨h, rfl⟩ | ⟨h, rfl⟩
              · exact StrsAt.tail0 _ 1 0 h (by omega) (by omega)
              · exact HS5.out.tail h
            clear htv
            have hs5 := HPG6.out.size
            go_wp2_with fail
            refine guess_reg12 w3.heap.size (w.heap.size + 1) wr.heap.size w3 w5 (.slice ac cs.length kc) cs gb kb L0 M am km ws hd HPG6 HM HLT0 d0 hby HG5 HS5 hw1 hwlen HWL (by omega) (by omega) _ _ _ _ _ _ _ _ _ _ _ _ _ _ _ _ _ _ _ _ _ _ _ _ _ _ _ _ _ _ _ _ _ _ _ _ _ _ _ _ _ _ _ _ _ _ _ _ _ _ _ _ _ _ _ _ _ _ _ _ _ ?_
            intro v44 v45 v46 v47 v48 v49 v50 v51 v52 v53 v54 v55 v56 v57 v58 v59 v60 V av hV
            have HV := (show Hid (PG _ _ _ _ _ _ _ _) from hV)
            clear hV HPG6 HM HLT0
            go_wp2_with fail
            go_roundw
            case rel => exact ⟨k + 1, _, _, _, _, by omega, by go_num, by rw [HTK.out, HLI2.out, HA.out]; simp, HV.out, by simp; omega, fun x hx => by
              rcases List.mem_append.1 hx with h | h
              · have := HLA.out x (List.mem_append.2 (.inl h)); omega
              · simp at h; subst h; simp; omega⟩
            case measure => simp [intOf]; omega
    · have hlt' : ¬ (k : Int) < (lines.length : Int) := by omega
      have he : k = lines.length := by omega
      have HE : Hid (prG l = ⟨cs, L.map (·.1)⟩) := by rw [Hid, HPR.out, ← HF.out, he, List.take_length]
      have HBW : Hid (Blk wr w.heap.size 2) := ⟨by omega, fun j hj => by rw [HPG.out.fr.cell (by omega) (by omega), HPG.out.fr.frozen (by omega) (by omega)]; exact HBK.out.2 j hj⟩
      obtain ⟨p0, p1⟩ : wr.cell? ⟨w.heap.size + 1, 0, none⟩ = some cv ∧ wr.cell? ⟨w.heap.size + 1, 1, none⟩ = some bv := ⟨HPG.out.c0, HPG.out.c1⟩
      obtain ⟨ab, kb, rfl, hkb, _⟩ := own_shape HPG.out.row
      obtain ⟨ac, kc, rfl, hkc, _⟩ := own_shape HPG.out.cells
      obtain ⟨⟨v0, f0⟩, g0⟩ := HBW.out.2 0 (by omega)
      obtain ⟨⟨v1, f1⟩, g1⟩ := HBW.out.2 1 (by omega)
      clear he HF
      go_wp2_with fail
      have i1 : ((wr.setCell ⟨w.heap.size, 0, none⟩ (.slice ac cs.length kc)).setCell ⟨w.heap.size, 1, none⟩ (.slice ab L.length kb)).cell? ⟨w.heap.size, 0, none⟩ = some (.slice ac cs.length kc) := by
        rw [cell_set_other _ _ _ _ _ (by intro e; injection e; omega)]
        exact cell_set_same HBW.out 0 (by omega) _
      have i2 : ((wr.setCell ⟨w.heap.size, 0, none⟩ (.slice ac cs.length kc)).setCell ⟨w.heap.size, 1, none⟩ (.slice ab L.length kb)).cell? ⟨w.heap.size, 1, none⟩ = some (.slice ab L.length kb) := cell_set_same (HBW.out.set 0 _) 1 (by omega) _
      have hz3' : w.heap.size < w3.heap.size := by omega
      refine bodyPost_ret (v := .agg #[.slice ac cs.length kc, .slice ab L.length kb]) (by simp [results, Tryz.results24, go_sem, i1, i2]) rfl ⟨_, _, rfl, ?_, L, ?_, ?_, ?_, ?_, ?_⟩
      · rw [HE.out]; exact own_base (ownsRow_setCell_below (ownsRow_setCell_below HPG.out.cells hz3' _) hz3' _) (by omega)
      · rw [HE.out]
      · exact own_base (ownsRow_setCell_below (ownsRow_setCell_below HPG.out.row hz3' _) hz3' _) (by omega)
      · intro x y hx; exact (((HPG.out.acts (x, y) hx).setLow hz3' _).setLow hz3' _).base (by omega)
      · exact (HBr.out.setCell (by simp) _).setCell (by simp) _
      · exact ⟨HPG.out.inner.keep fun e s v n xs _ h => own_base (ownsRow_setCell_below (ownsRow_setCell_below h hz3' _) hz3' _) (by omega), HPG.out.apart⟩

end Go.Proofs.YtliakmgombpjpaaGreatDoor
