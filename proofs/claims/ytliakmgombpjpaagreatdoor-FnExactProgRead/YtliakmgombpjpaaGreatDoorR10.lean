/-
  impl.ProgRead: a text's program, if it is one's.
-/
import Derived.Test.YtliakmgombpjpaaGreatDoorR9
namespace Go.Proofs.YtliakmgombpjpaaGreatDoor
open Go.RowKit
set_option linter.unusedSimpArgs false
set_option linter.unusedVariables false
set_option maxRecDepth 20000

def rdG (l : List UInt8) : Option Pr := if l.length ≤ 600 ∧ okB (prG l) = true ∧ txT (prG l) = l then some (prG l) else none

theorem set2_in {w : World} {g : Nat} (h : Blk w g 2) (a b : Value) : ((w.setCell ⟨g, 0, none⟩ a).setCell ⟨g, 1, none⟩ b).cell? ⟨g, 0, none⟩ = some a ∧ ((w.setCell ⟨g, 0, none⟩ a).setCell ⟨g, 1, none⟩ b).cell? ⟨g, 1, none⟩ = some b := by
  refine ⟨?_, cell_set_same (h.set 0 _) 1 (by omega) _⟩
  rw [cell_set_other _ _ _ _ _ (by intro e; injection e; omega)]
  exact cell_set_same h 0 (by omega) _
theorem OwnBodies.setLow {B : Nat} {w : World} {v : Value} {bd : List (List Ac)} (h : OwnBodies B w v bd) {a : Addr} (ha : a.block < B) (u : Value) : OwnBodies B (w.setCell a u) v bd := by
  obtain ⟨L, e, hr, hi⟩ := h
  exact ⟨L, e, ownsRow_setCell_below hr ha u, fun x hx => (hi x hx).setLow ha u⟩
theorem OwnBodies.new {B : Nat} {w w' : World} {v : Value} {bd : List (List Ac)} (h : OwnBodies B w v bd) (hb : Below w.heap.size w w') : OwnBodies B w' v bd := by
  obtain ⟨L, e, hr, hi⟩ := h
  exact ⟨L, e, own_heap hr fun g hg => hb.block g (hr.lt g hg).2, fun x hx => (hi x hx).new hb⟩
theorem OwnBodies.base8 {B B' : Nat} {w : World} {v : Value} {bd : List (List Ac)} (h : OwnBodies B w v bd) (hB : B' ≤ B) : OwnBodies B' w v bd := by
  obtain ⟨L, e, hr, hi⟩ := h
  exact ⟨L, e, own_base hr hB, fun x hx => (hi x hx).base hB⟩
/-- bodies of one's own, no two rows in one block -/
def OwnP (B : Nat) (w : World) (cv bv : Value) (bd : List (List Ac)) : Prop := ∃ L : List (List Ac × Value), bd = L.map (·.1) ∧ w.ownsRow B 41 1 bv L.length (L.map (·.2)) ∧ PGx B w cv L
theorem OwnP.setLow {B : Nat} {w : World} {cv v : Value} {bd : List (List Ac)} (h : OwnP B w cv v bd) {a : Addr} (ha : a.block < B) (u : Value) : OwnP B (w.setCell a u) cv v bd := by
  obtain ⟨L, e, hr, hi, ha'⟩ := h
  exact ⟨L, e, ownsRow_setCell_below hr ha u, hi.keep fun e s v n xs _ h => ownsRow_setCell_below h ha u, ha'⟩
theorem OwnP.new {B : Nat} {w w' : World} {cv v : Value} {bd : List (List Ac)} (h : OwnP B w cv v bd) (hb : Below w.heap.size w w') : OwnP B w' cv v bd := by
  obtain ⟨L, e, hr, hi, ha'⟩ := h
  exact ⟨L, e, own_heap hr fun g hg => hb.block g (hr.lt g hg).2, hi.keep fun e s v n xs _ h => own_heap h fun g hg => hb.block g (h.lt g hg).2, ha'⟩
theorem OwnP.base8 {B B' : Nat} {w : World} {cv v : Value} {bd : List (List Ac)} (h : OwnP B w cv v bd) (hB : B' ≤ B) : OwnP B' w cv v bd := by
  obtain ⟨L, e, hr, hi, ha'⟩ := h
  exact ⟨L, e, own_base hr hB, hi.keep fun e s v n xs _ h => own_base h hB, ha'⟩
theorem OwnP.none (B : Nat) (w : World) : OwnP B w (.slice none 0 0) (.slice none 0 0) [] := ⟨[], rfl, World.ownsRow_nil _ _ _ _, ⟨[], rfl, (fun x hx => by cases hx), (fun x hx => by cases hx), List.Pairwise.nil, (fun x hx => by cases hx)⟩, List.Pairwise.nil⟩

set_option maxHeartbeats 4000000 in
theorem progRead_own (l : List UInt8) (w : World) (hG : Gl w) (hl : l.length ≤ 1000000000) :
    Calls Tryz.prog 9 #[.string (bs l)] w fun e w' => ∃ cv bv, e = .returned (.tuple #[.agg #[cv, bv], .bool (rdG l).isSome]) ∧ OwnInt w.heap.size w' cv ((rdG l).getD ⟨[], []⟩).cells ∧ OwnBodies w.heap.size w' bv ((rdG l).getD ⟨[], []⟩).bodies ∧ Below w.heap.size w w' ∧ OwnP w.heap.size w' cv bv ((rdG l).getD ⟨[], []⟩).bodies := by
  have hbn : Hid (∀ w', OwnBodies w.heap.size w' (.slice none 0 0) []) := fun w' => ⟨[], rfl, World.ownsRow_nil _ _ _ _, fun x hx => by cases hx⟩
  have HG := (show Hid (Gl _) from hG)
  clear hG
  go_enter Tryz.func9, Tryz.ntmps9
  by_cases h6 : 600 < l.length
  · have h6' : (600 : Int) < (l.length : Int) := by omega
    have HR : Hid (rdG l = none) := by unfold Hid rdG; rw [if_neg (fun h => by omega)]
    go_wp2_with fail
    refine bodyPost_ret (v := .tuple #[.agg #[.slice none 0 0, .slice none 0 0], .bool false]) (by simp [results, Tryz.results9, go_sem]) rfl ⟨_, _, by rw [HR.out]; rfl, by rw [HR.out]; exact World.ownsRow_nil _ _ _ _, by rw [HR.out]; exact hbn.out _, (Below.refl _ _).alloc (Nat.le_refl _) _, by rw [HR.out]; exact OwnP.none _ _⟩
  · have h6' : ¬ (600 : Int) < (l.length : Int) := by omega
    go_wp2_with fail
    refine (progGuess_any l _ (HG.out.mono ((Below.refl _ _).alloc (Nat.le_refl _) _)) (by omega)).mono ?_
    rintro e w2 ⟨cv, bv, L, rfl, hc2, he2, hr2, ha2, hb2, hx2⟩
    have HX2 : Hid (OwnP (w.heap.size + 1) w2 cv bv (prG l).bodies) := by
      refine ⟨L, he2, ?_, ?_⟩
      · have := hr2; simp at this; exact this
      · have := hx2; simp at this; exact this
    clear hx2
    have HB2 : Hid (Below w.heap.size w w2) := below_after (Below.refl _ _) (Nat.le_refl _) hb2
    have hz2 : w.heap.size < w2.heap.size := by have := hb2.size; simp at this; omega
    have HK2 : Hid (Blk w2 w.heap.size 2) := (Blk.new w #[.slice none 0 0, .slice none 0 0] 26).below hb2
    have HC2 : Hid (OwnInt (w.heap.size + 1) w2 cv (prG l).cells) := by have := hc2; simp at this; exact this
    have HO2 : Hid (OwnBodies (w.heap.size + 1) w2 bv (prG l).bodies) := by
      refine ⟨L, he2, ?_, ?_⟩
      · have := hr2; simp at this; exact this
      · intro x hx; have := ha2 x hx; simp at this; exact this
    obtain ⟨ac, kc, rfl, hkc, _⟩ := own_shape HC2.out
    obtain ⟨ab, kb, e3, hkb, _⟩ := own_shape hr2
    subst e3
    clear hc2 he2 hr2 ha2 hb2
    go_wp2_with fail
    refine (progOk_any (prG l) _ _ _ (HC2.out.at.mono (by repeat (first | exact Below.refl _ _ | refine Below.alloc ?_ (by simp; try omega) _ | refine Below.drew ?_ | refine Below.setCell ?_ (by simp; try omega) _))) (HO2.out.at.mono (by repeat (first | exact Below.refl _ _ | refine Below.alloc ?_ (by simp; try omega) _ | refine Below.drew ?_ | refine Below.setCell ?_ (by simp; try omega) _)))).mono ?_
    rintro e w4 ⟨rfl, hb4⟩
    have hz4 : w2.heap.size + 1 ≤ w4.heap.size := by have := hb4.size; simp at this; omega
    have p0 : w4.cell? ⟨w2.heap.size, 0, none⟩ = some (.slice ac (prG l).cells.length kc) := by rw [hb4.cell (p := ⟨w2.heap.size, 0, none⟩) (by simp)]; simp [go_sem]
    have p1 : w4.cell? ⟨w2.heap.size, 1, none⟩ = some (.slice ab L.length kb) := by rw [hb4.cell (p := ⟨w2.heap.size, 1, none⟩) (by simp)]; simp [go_sem]
    have HB4 : Hid (Below w2.heap.size w2 w4) := below_after (Below.refl _ _) (Nat.le_refl _) hb4
    clear hb4
    have HK4 := (show Hid (Blk _ _ _) from HK2.out.below HB4.out)
    have HBB : Hid (Below w.heap.size w w4) := HB2.out.trans (HB4.out.mono (by omega))
    obtain ⟨⟨x0, f0⟩, g0⟩ := HK4.out.2 0 (by omega)
    obtain ⟨⟨x1, f1⟩, g1⟩ := HK4.out.2 1 (by omega)
    by_cases hok : okB (prG l) = true
    · clear f0 f1 g0 g1 x0 x1
      go_wp2_with fail
      refine (progText_any (prG l) _ _ _ ((HC2.out.at).mono HB4.out) ((HO2.out.at).mono HB4.out)).mono ?_
      rintro e w6 ⟨rfl, hb6⟩
      have HK6 := (show Hid (Blk _ _ _) from HK4.out.below hb6)
      have hb26 : Below w2.heap.size w2 w6 := HB4.out.trans (hb6.mono (by omega))
      have HB6 : Hid (Below w.heap.size w w6) := HB2.out.trans (hb26.mono (by omega))
      have HC6 : Hid (OwnInt (w.heap.size + 1) w6 (.slice ac (prG l).cells.length kc) (prG l).cells) := own_heap HC2.out fun g hg => hb26.block g (HC2.out.lt g hg).2
      have HX6 := (show Hid (OwnP _ _ _ _ _) from HX2.out.new hb26)
      have HO6 : Hid (OwnBodies (w.heap.size + 1) w6 (.slice ab L.length kb) (prG l).bodies) := HO2.out.new hb26
      rw [← hb6.cell (p := ⟨w2.heap.size, 0, none⟩) (by simp; omega)] at p0
      rw [← hb6.cell (p := ⟨w2.heap.size, 1, none⟩) (by simp; omega)] at p1
      obtain ⟨⟨x0, f0⟩, g0⟩ := HK6.out.2 0 (by omega)
      obtain ⟨⟨x1, f1⟩, g1⟩ := HK6.out.2 1 (by omega)
      clear hb6 hb26
      have HOK := (show Hid (_ = true) from hok)
      clear hok
      by_cases ht : txT (prG l) = l
      · have HR : Hid (rdG l = some (prG l)) := by unfold Hid rdG; rw [if_pos ⟨by omega, HOK.out, ht⟩]
        have t1 : ((bs (txT (prG l))).toList == (bs l).toList) = true := by rw [ht]; simp
        clear ht
        go_wp2_with fail
        obtain ⟨i1, i2⟩ := set2_in HK6.out (.slice ac (prG l).cells.length kc) (.slice ab L.length kb)
        have hw1 : w.heap.size < w.heap.size + 1 := by omega
        refine bodyPost_ret (v := .tuple #[.agg #[.slice ac (prG l).cells.length kc, .slice ab L.length kb], .bool true]) (by simp [results, Tryz.results9, go_sem, i1, i2]) rfl ⟨_, _, by rw [HR.out]; rfl, by rw [HR.out]; exact own_base (ownsRow_setCell_below (ownsRow_setCell_below HC6.out hw1 _) hw1 _) (by omega), by rw [HR.out]; exact ((HO6.out.setLow hw1 _).setLow hw1 _).base8 (by omega), (HB6.out.setCell (by simp) _).setCell (by simp) _, by rw [HR.out]; exact ((HX6.out.setLow hw1 _).setLow hw1 _).base8 (by omega)⟩
      · have HR : Hid (rdG l = none) := by unfold Hid rdG; rw [if_neg (fun h => ht h.2.2)]
        have t1 : ((bs (txT (prG l))).toList == (bs l).toList) = false := by
          rw [show (bs l).toList = l by rw [ByteArray.toList_eq, bs_data], bs_eq]
          exact decide_eq_false ht
        clear ht
        go_wp2_with fail
        obtain ⟨i1, i2⟩ := set2_in HK6.out (.slice none 0 0) (.slice none 0 0)
        refine bodyPost_ret (v := .tuple #[.agg #[.slice none 0 0, .slice none 0 0], .bool false]) (by simp [results, Tryz.results9, go_sem, i1, i2]) rfl ⟨_, _, by rw [HR.out]; rfl, by rw [HR.out]; exact World.ownsRow_nil _ _ _ _, by rw [HR.out]; exact hbn.out _, (HB6.out.setCell (by simp) _).setCell (by simp) _, by rw [HR.out]; exact OwnP.none _ _⟩
    · have hok' : okB (prG l) = false := by simpa using hok
      have HR : Hid (rdG l = none) := by unfold Hid rdG; rw [if_neg (fun h => hok h.2.1)]
      clear hok
      go_wp2_with fail
      obtain ⟨i1, i2⟩ := set2_in HK4.out (.slice none 0 0) (.slice none 0 0)
      refine bodyPost_ret (v := .tuple #[.agg #[.slice none 0 0, .slice none 0 0], .bool false]) (by simp [results, Tryz.results9, go_sem, i1, i2]) rfl ⟨_, _, by rw [HR.out]; rfl, by rw [HR.out]; exact World.ownsRow_nil _ _ _ _, by rw [HR.out]; exact hbn.out _, (HBB.out.setCell (by simp) _).setCell (by simp) _, by rw [HR.out]; exact OwnP.none _ _⟩

theorem progRead_any (l : List UInt8) (w : World) (hG : Gl w) (hl : l.length ≤ 1000000000) :
    Calls Tryz.prog 9 #[.string (bs l)] w fun e w' => ∃ cv bv, e = .returned (.tuple #[.agg #[cv, bv], .bool (rdG l).isSome]) ∧ OwnInt w.heap.size w' cv ((rdG l).getD ⟨[], []⟩).cells ∧ OwnBodies w.heap.size w' bv ((rdG l).getD ⟨[], []⟩).bodies ∧ Below w.heap.size w w' := by
  refine (progRead_own l w hG hl).mono ?_
  rintro e w' ⟨cv, bv, h1, h2, h3, h4, _⟩
  exact ⟨cv, bv, h1, h2, h3, h4⟩

end Go.Proofs.YtliakmgombpjpaaGreatDoor
