/-
  Drawing changes: numbers, cells with registers and deeds.
-/
import Derived.Test.YthllcbbjibfklaaC2
namespace Go.Proofs.Ythllcbbjibfklaa
open Go.RowKit
set_option linter.unusedSimpArgs false
set_option linter.unusedVariables false

set_option maxHeartbeats 1000000 in
theorem l71Nums_any (B R p : Nat) (s : Nat) (w : World) (h : RdAt B w R p) (hp : p ≤ 800000) (hs : s ≤ 3) :
    Calls Try.prog 32 #[.pointer (some ⟨R, 0, none⟩), .int .i64 (s : Int)] w fun e w' => ∃ (v : Value) (xs : List Int) (p' : Nat), e = .returned v ∧ OwnInt w.heap.size w' v xs ∧ xs.length ≤ 4 ∧ p ≤ p' ∧ p' ≤ p + 4 ∧ RdAt B w' R p' ∧ Fr R w.heap.size w w' := by
  have hlt := h.lt
  have hle := h.le
  obtain ⟨i0, hi, hz0, hz1, hz2⟩ := info_parts Try.info_int
  have HR0 : Hid (∀ o, RdAt B (w.alloc o) R p) := fun o => h.below ((Below.refl _ _).alloc hle _)
  have HF0 : Hid (∀ o, Fr R w.heap.size w (w.alloc o)) := fun o => (Fr.refl _ _ _).alloc (Nat.le_refl _) _
  have HO0 : Hid (OwnInt w.heap.size (w.alloc (.cells #[] 3)) (.slice (some ⟨w.heap.size, 0, none⟩) 0 0) []) := World.ownsRow_made w #[] 0 (Nat.le_refl _) (by unfold maxLen; omega) (by simp)
  clear h
  go_enter Try.func32, Try.ntmps32
  go_wp2_with fail
  go_loopw [5, 6] (fun o q w' => ∃ (k : Nat) (xs : List Int), q = .int .i64 k ∧ k ≤ s ∧ xs.length = k ∧ OwnInt w.heap.size w' o xs ∧ RdAt B w' R (p + k) ∧ Fr R w.heap.size w w') (fun _ q _ => s - (intOf q).toNat)
  case atStart => exact ⟨0, [], rfl, Nat.zero_le _, rfl, HO0.out, HR0.out _, HF0.out _⟩
  clear HR0 HF0 HO0
  case round =>
    obtain ⟨k, xs, rfl, hk, hl, hown, hR, hF⟩ := hrel
    have HOW := (show Hid (OwnInt _ _ _ _) from hown)
    have HFR := (show Hid (Fr _ _ _ _) from hF)
    have HL := (show Hid (xs.length = k) from hl)
    have hsz := hF.size
    clear hown hF hl
    by_cases hk0 : k < s
    · have hk' : (k : Int) < (s : Int) := by omega
      have HR1 : Hid (∀ o, RdAt B (wr.alloc o) R (p + k)) := fun o => hR.below ((Below.refl _ _).alloc hR.le _)
      have HF1 : Hid (∀ o, Fr R w.heap.size w (wr.alloc o)) := fun o => HFR.out.alloc hsz _
      have HO1 : Hid (∀ o, OwnInt w.heap.size (wr.alloc o) u5 xs) := fun o => HOW.out.alloc o
      clear hR HOW HFR
      go_wp2_with fail
      refine (pick_any B R (p + k) _ _ (HR1.out _) (by omega) (by omega) (by omega)).mono ?_
      rintro e w2 ⟨q2, rfl, a0, a1, hR2, hF2⟩
      obtain ⟨m, rfl⟩ := Int.eq_ofNat_of_zero_le a0
      have hm5 : m < 5 := by omega
      obtain ⟨x, hx⟩ : ∃ x, w2.cell? ⟨wr.heap.size, m, none⟩ = some (.int .i64 x) := by
        rw [hF2.cell (by simp) (by have := HR1.out (.cells #[] 3) |>.lt; omega)]
        match m, hm5 with
        | 0, _ => exact ⟨_, by simp; rfl⟩
        | 1, _ => exact ⟨_, by simp; rfl⟩
        | 2, _ => exact ⟨_, by simp; rfl⟩
        | 3, _ => exact ⟨_, by simp; rfl⟩
        | 4, _ => exact ⟨_, by simp; rfl⟩
      have HO2 : Hid (OwnInt w.heap.size w2 u5 xs) := own_fr (HO1.out _) hF2 (by omega)
      have HF2 : Hid (Fr R w.heap.size w w2) := (HF1.out _).trans (hF2.mono (HF1.out _).size)
      have HR2 := (show Hid (RdAt _ _ _ _) from hR2)
      have hz2' : wr.heap.size < w2.heap.size := by have := hF2.size; simp at this; omega
      clear hF2 hR2 HR1 HF1 HO1
      go_wp2_with (at_builtin; refine wpList_append_own _ rfl _ _ 23 rfl w.heap.size 3 i0 (.int .i64 0) 1 8 Try.underlying23 hi hz0 hz1 hz2 rfl (by decide) _ _ _ rfl (HO2.out.alloc _) ⟨w2.heap.size, 0, none⟩ 1 1 [.int .i64 x] rfl rfl ?a1 ?a2 ?a3 ?a4 ?a5 ?_)
      case a1 =>
        intro j u hj
        match j, hj with
        | 0, hj => simp at hj; subst hj; simp [Addr.add]
      case a2 => intro u hu; simp at hu; subst hu; rfl
      case a3 => have := HL.out; unfold maxLen; omega
      case a4 => have := HL.out; omega
      case a5 => have := HF2.out.size; simp; omega
      intro v' w4 hown' hgrow _
      have HO4 : Hid (OwnInt w.heap.size w4 v' (xs ++ [x])) := by
        unfold Hid OwnInt; rw [List.map_append, List.length_append]; exact hown'
      have hge : ∀ g, u5.ownBlock = some g → w.heap.size ≤ g := fun g hg => (HO2.out.lt g hg).1
      have HF4 : Hid (Fr R w.heap.size w w4) := (HF2.out.alloc HF2.out.size _).grown hgrow (by have := HF2.out.size; simp; omega) hge
      have HR4 : Hid (RdAt B w4 R (p + k + 1)) := HR2.out.below (((Below.refl _ _).alloc HR2.out.le _).grown hgrow (by have := HR2.out.le; simp; omega) (fun g hg => Nat.le_trans hle (hge g hg)))
      clear hown' hgrow HO2 HF2 HR2 hge hx
      go_wp2_with fail
      go_roundw
      case rel => exact ⟨k + 1, xs ++ [x], by go_num, by omega, by have := HL.out; simp; omega, HO4.out, HR4.out, HF4.out⟩
      case measure => simp [intOf]; omega
    · have hk' : ¬ (k : Int) < (s : Int) := by omega
      go_wp2_with fail
      refine (pick_any B R (p + k) _ _ hR (by omega) (by omega) (by omega)).mono ?_
      rintro e w2 ⟨q2, rfl, a0, a1, hR2, hF2⟩
      have HO2 : Hid (OwnInt w.heap.size w2 u5 xs) := own_fr HOW.out hF2 (by omega)
      have HF2 : Hid (Fr R w.heap.size w w2) := HFR.out.trans (hF2.mono hsz)
      have HR2 := (show Hid (RdAt _ _ _ _) from hR2)
      clear hF2 hR2 hR HOW HFR
      by_cases hq : q2 = 0
      · subst hq
        go_wp2_with (at_builtin; refine wpList_append_own _ rfl _ _ 23 rfl w.heap.size 3 i0 (.int .i64 0) 1 8 Try.underlying23 hi hz0 hz1 hz2 rfl (by decide) _ _ _ rfl (HO2.out.alloc _) ⟨w2.heap.size, 0, none⟩ 1 1 [.int .i64 100] rfl rfl ?b1 ?b2 ?b3 ?b4 ?b5 ?_)
        case b1 =>
          intro j u hj
          match j, hj with
          | 0, hj => simp at hj; subst hj; simp [Addr.add]
        case b2 => intro u hu; simp at hu; subst hu; rfl
        case b3 => have := HL.out; unfold maxLen; omega
        case b4 => have := HL.out; omega
        case b5 => have := HF2.out.size; simp; omega
        intro v' w4 hown' hgrow _
        have HO4 : Hid (OwnInt w.heap.size w4 v' (xs ++ [100])) := by
          unfold Hid OwnInt; rw [List.map_append, List.length_append]; exact hown'
        have hge : ∀ g, u5.ownBlock = some g → w.heap.size ≤ g := fun g hg => (HO2.out.lt g hg).1
        have HF4 : Hid (Fr R w.heap.size w w4) := (HF2.out.alloc HF2.out.size _).grown hgrow (by have := HF2.out.size; simp; omega) hge
        have HR4 : Hid (RdAt B w4 R (p + k + 1)) := HR2.out.below (((Below.refl _ _).alloc HR2.out.le _).grown hgrow (by have := HR2.out.le; simp; omega) (fun g hg => Nat.le_trans hle (hge g hg)))
        clear hown' hgrow HO2 HF2 HR2 hge
        go_wp2_with fail
        go_ret
        exact ⟨_, _, p + k + 1, rfl, HO4.out, by have := HL.out; simp; omega, by omega, by omega, HR4.out, HF4.out⟩
      · have gq : (q2 == 0) = false := by simp [hq]
        go_wp2_with fail
        go_ret
        exact ⟨_, _, p + k + 1, rfl, HO2.out, by have := HL.out; omega, by omega, by omega, HR2.out, HF2.out⟩

theorem own_below {C : Nat} {w w' : World} {B : Nat} {e : TypeId} {size : Nat} {v : Value} {n : Nat} {xs : List Value} (h : w.ownsRow B e size v n xs) (hb : Below C w w') (hC : w.heap.size ≤ C) : w'.ownsRow B e size v n xs :=
  own_heap h fun g hg => hb.block g (Nat.lt_of_lt_of_le (h.lt g hg).2 hC)

set_option maxHeartbeats 2000000 in
theorem drawChangeDo_any (a : Option Addr) (n cap : Nat) (w : World) (h : Bytes w a n) (hc : n ≤ cap) (hn : cap ≤ 9223372036854775807) :
    Calls Try.prog 9 #[.slice a n cap] w fun e w' => ∃ (cv rv dv : Value) (c r : List Int) (ds : List De), e = .returned (.tuple #[cv, rv, dv]) ∧ OwnInt w.heap.size w' cv c ∧ OwnInt w.heap.size w' rv r ∧ OwnDe w.heap.size w' dv ds ∧ ds.length ≤ 6 ∧ Below w.heap.size w w' := by
  obtain ⟨i0, hi, hz0, hz1, hz2⟩ := info_parts Try.info_deed
  have HBy := (show Hid (Bytes _ _ _) from h)
  clear h
  go_enter Try.func9, Try.ntmps9
  go_wp2_with fail
  refine (l6Open_any a n cap _ HBy.out hc hn).mono ?_
  rintro e w1 ⟨rfl, hR1, hb1⟩
  have HF1 : Hid (Fr w.heap.size w.heap.size w w1) := Fr.of_below hb1
  clear hb1 HBy
  go_wp2_with fail
  refine (pick_any (w.heap.size + 1) w.heap.size 0 _ _ hR1 (by omega) (by omega) (by omega)).mono ?_
  rintro e w2 ⟨q2, rfl, a0, a1, hR2, hF2⟩
  obtain ⟨m, rfl⟩ := Int.eq_ofNat_of_zero_le a0
  have HF2 : Hid (Fr w.heap.size w.heap.size w w2) := HF1.out.trans (hF2.mono HF1.out.size)
  clear hF2 hR1 HF1
  go_wp2_with fail
  refine (l71Deeds_any (w.heap.size + 1) w.heap.size _ (1 + (m : Int)) _ hR2 (by omega) (by omega) (by omega)).mono ?_
  rintro e w3 ⟨dv, ds, p3, rfl, hd3, hl3, hp3, hp3', hR3, hF3⟩
  have hB2 := hR2.le
  have HF3 : Hid (Fr w.heap.size w.heap.size w w3) := HF2.out.trans (hF3.mono HF2.out.size)
  have HD3 : Hid (OwnDe (w.heap.size + 1) w3 dv ds) := own_base hd3 hB2
  clear hF3 hR2 HF2 hd3
  obtain ⟨ad, cd, rfl, _⟩ := own_shape HD3.out
  go_wp2_with fail
  refine (pick_any (w.heap.size + 1) w.heap.size p3 _ _ hR3 (by omega) (by omega) (by omega)).mono ?_
  rintro e w4 ⟨q4, rfl, b0, b1, hR4, hF4⟩
  have HF4 : Hid (Fr w.heap.size w.heap.size w w4) := HF3.out.trans (hF4.mono HF3.out.size)
  have HD4 : Hid (OwnDe (w.heap.size + 1) w4 (.slice ad ds.length cd) ds) := own_fr HD3.out hF4 (by omega)
  clear hF4 hR3 HF3 HD3
  have key : ∀ (w5 : World) (dv : Value) (ds : List De), ds.length ≤ 6 → RdAt (w.heap.size + 1) w5 w.heap.size (p3 + 1) → Fr w.heap.size w.heap.size w w5 → OwnDe (w.heap.size + 1) w5 dv ds → True := fun _ _ _ _ _ _ _ => trivial
  clear key
  by_cases hq : q4 = 0
  · subst hq
    have HR4 := (show Hid (RdAt _ _ _ _) from hR4)
    clear hR4
    go_wp2_with (at_builtin; refine wpList_append_own _ rfl _ _ 24 rfl (w.heap.size + 1) 35 i0 (.agg #[.int .i64 0, .int .i64 0, .int .i64 0]) 3 24 Try.underlying24 hi hz0 hz1 hz2 rfl (by decide) _ _ _ rfl (World.ownsRow.alloc HD4.out _) ⟨w4.heap.size, 0, none⟩ 1 1 [.int .i64 9, .int .i64 0, .int .i64 0] rfl rfl ?a1 ?a2 ?a3 ?a4 ?a5 ?_)
    case a1 =>
      intro j u hj
      match j, hj with
      | 0, hj => simp at hj; subst hj; simp [Addr.add]
      | 1, hj => simp at hj; subst hj; simp [Addr.add]
      | 2, hj => simp at hj; subst hj; simp [Addr.add]
    case a2 => intro u hu; simp at hu; rcases hu with rfl | rfl | rfl <;> rfl
    case a3 => unfold maxLen; omega
    case a4 => omega
    case a5 => have := HR4.out.le; simp; omega
    intro v' w5 hown' hgrow _
    have HD5 : Hid (OwnDe (w.heap.size + 1) w5 v' (ds ++ [⟨9, 0, 0⟩])) := by
      unfold Hid OwnDe; rw [deCells_snoc, List.length_append]; exact hown'
    have hge : ∀ g, (Value.slice ad ds.length cd).ownBlock = some g → w.heap.size + 1 ≤ g := fun g hg => (HD4.out.lt g hg).1
    have HF5 : Hid (Fr w.heap.size w.heap.size w w5) := (HF4.out.alloc HF4.out.size _).grown hgrow (by have := HF4.out.size; simp; omega) (fun g hg => by have := hge g hg; omega)
    have hR5 : RdAt (w.heap.size + 1) w5 w.heap.size (p3 + 1) := HR4.out.below (((Below.refl _ _).alloc HR4.out.le _).grown hgrow (by have := HR4.out.le; simp; omega) hge)
    clear hown' hgrow HD4 HF4 HR4 hge
    obtain ⟨av, cv, rfl, _⟩ := own_shape HD5.out
    go_wp2_with fail
    refine (l71Nums_any (w.heap.size + 1) w.heap.size (p3 + 1) (1 + m) _ (by exact hR5) (by omega) (by omega)).mono ?_
    rintro e w6 ⟨x6, xs6, p6, rfl, ho6, hl6, hp6, hp6', hR6, hF6⟩
    have HF6 : Hid (Fr w.heap.size w.heap.size w w6) := HF5.out.trans (hF6.mono HF5.out.size)
    have HD6 : Hid (OwnDe (w.heap.size + 1) w6 _ (ds ++ [⟨9, 0, 0⟩])) := own_fr HD5.out hF6 (by omega)
    have HO6 : Hid (OwnInt (w.heap.size + 1) w6 x6 xs6) := own_base ho6 hR5.le
    clear hF6 hR5 ho6 HF5 HD5
    obtain ⟨a6, c6, rfl, _⟩ := own_shape HO6.out
    go_wp2_with fail
    refine (l71Nums_any (w.heap.size + 1) w.heap.size p6 3 _ (by exact hR6) (by omega) (by omega)).mono ?_
    rintro e w7 ⟨x7, xs7, p7, rfl, ho7, hl7, hp7, hp7', hR7, hF7⟩
    have HF7 : Hid (Fr w.heap.size w.heap.size w w7) := HF6.out.trans (hF7.mono HF6.out.size)
    have HD7 : Hid (OwnDe w.heap.size w7 _ (ds ++ [⟨9, 0, 0⟩])) := own_base (own_fr HD6.out hF7 (by omega)) (by omega)
    have HO7 : Hid (OwnInt w.heap.size w7 _ xs6) := own_base (own_fr HO6.out hF7 (by omega)) (by omega)
    have HP7 : Hid (OwnInt w.heap.size w7 x7 xs7) := own_base ho7 HF6.out.size
    clear hF7 hR6 ho7 HF6 HD6 HO6 hR7
    obtain ⟨a7, c7, rfl, _⟩ := own_shape HP7.out
    go_wp2_with fail
    exact bodyPost_ret (v := .tuple #[_, _, _]) (by simp [results, Try.results9, go_sem]) rfl ⟨_, _, _, _, _, _, rfl, HO7.out, HP7.out, HD7.out, by simp; omega, HF7.out.below (Nat.le_refl _)⟩
  · have gq : (q4 == 0) = false := by simp [hq]
    go_wp2_with fail
    refine (l71Nums_any (w.heap.size + 1) w.heap.size (p3 + 1) (1 + m) _ (by exact hR4) (by omega) (by omega)).mono ?_
    rintro e w6 ⟨x6, xs6, p6, rfl, ho6, hl6, hp6, hp6', hR6, hF6⟩
    have HF6 : Hid (Fr w.heap.size w.heap.size w w6) := HF4.out.trans (hF6.mono HF4.out.size)
    have HD6 : Hid (OwnDe (w.heap.size + 1) w6 _ ds) := own_fr HD4.out hF6 (by omega)
    have HO6 : Hid (OwnInt (w.heap.size + 1) w6 x6 xs6) := own_base ho6 hR4.le
    clear hF6 hR4 ho6 HF4 HD4
    obtain ⟨a6, c6, rfl, _⟩ := own_shape HO6.out
    go_wp2_with fail
    refine (l71Nums_any (w.heap.size + 1) w.heap.size p6 3 _ (by exact hR6) (by omega) (by omega)).mono ?_
    rintro e w7 ⟨x7, xs7, p7, rfl, ho7, hl7, hp7, hp7', hR7, hF7⟩
    have HF7 : Hid (Fr w.heap.size w.heap.size w w7) := HF6.out.trans (hF7.mono HF6.out.size)
    have HD7 : Hid (OwnDe w.heap.size w7 _ ds) := own_base (own_fr HD6.out hF7 (by omega)) (by omega)
    have HO7 : Hid (OwnInt w.heap.size w7 _ xs6) := own_base (own_fr HO6.out hF7 (by omega)) (by omega)
    have HP7 : Hid (OwnInt w.heap.size w7 x7 xs7) := own_base ho7 HF6.out.size
    clear hF7 hR6 ho7 HF6 HD6 HO6 hR7
    obtain ⟨a7, c7, rfl, _⟩ := own_shape HP7.out
    go_wp2_with fail
    exact bodyPost_ret (v := .tuple #[_, _, _]) (by simp [results, Try.results9, go_sem]) rfl ⟨_, _, _, _, _, _, rfl, HO7.out, HP7.out, HD7.out, by omega, HF7.out.below (Nat.le_refl _)⟩

end Go.Proofs.Ythllcbbjibfklaa
