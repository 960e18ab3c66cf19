/-
  OneRun, of the model.
-/
import Derived.Test.YtpehlekjfnkhoaaDoorI6
import Derived.Test.YtpehlekjfnkhoaaDoorD7
import Derived.Deep.RegionLaw
namespace Go.Proofs.YtpehlekjfnkhoaaDoor
open Go.RowKit
set_option linter.unusedSimpArgs false
set_option linter.unusedVariables false
set_option maxRecDepth 20000

set_option maxHeartbeats 1000000 in
theorem sOneRun_any (p : Pr) (cv bv : Value) (w : World) (hc : IntsAt w cv p.cells) (hB : BodiesAt w bv p.bodies) :
    Calls Tryd.prog 6 #[.agg #[cv, bv]] w fun e w' => ∃ x, e = .returned (.tuple #[x, .bool (oneX p).2.1, .bool (oneX p).2.2]) ∧ OwnInt w.heap.size w' x (oneX p).1 ∧ Below w.heap.size w w' := by
  obtain ⟨ac, cc, rfl, hmc⟩ := hc.shape
  obtain ⟨ab, cb, rfl, hmb⟩ := hB.shape
  have HC := (show Hid (IntsAt _ _ _) from hc)
  have HB := (show Hid (BodiesAt _ _ _) from hB)
  clear hc hB
  cases h1 : okB p
  · have HX : Hid (oneX p = ([], false, false)) := by simp [Hid, oneX, h1]
    have H1 := (show Hid (_ = _) from h1)
    clear h1
    go_enter Tryd.func6, Tryd.ntmps6
    go_wp2_with fail
    refine (sProgOk_any p _ _ _ (HC.out.mono ((Below.refl _ _).alloc (Nat.le_refl _) _)) (HB.out.mono ((Below.refl _ _).alloc (Nat.le_refl _) _))).mono ?_
    rw [H1.out]
    rintro e w1 ⟨rfl, hb1⟩
    have HB1 : Hid (Below w.heap.size w w1) := below_after (Below.refl _ _) (Nat.le_refl _) hb1
    clear hb1
    go_wp2_with fail
    refine bodyPost_ret (v := .tuple #[.slice (some ⟨w1.heap.size, 0, none⟩) 0 0, .bool false, .bool false]) (by simp [results, Tryd.results6, go_sem]) rfl ⟨_, by rw [HX.out], by rw [HX.out]; exact World.ownsRow_made _ #[] 0 HB1.out.size (by unfold maxLen; omega) (by simp), HB1.out.alloc HB1.out.size _⟩
  have hfo : foB p = true := by simp [okB] at h1; exact h1.1
  obtain ⟨hform, hlen⟩ := foB_form hfo
  have hcs : p.cells.length ≤ 3 := by
    have : csB p.cells = true := by simp [foB] at hfo; exact hfo.1.1
    simp [csB] at this; omega
  have HFO := (show Hid (Form p) from hform)
  have H1 := (show Hid (_ = _) from h1)
  clear h1 hfo hform
  obtain ⟨i0, hi, hz0, hz1, hz2⟩ := info_parts Tryd.info_int
  go_enter Tryd.func6, Tryd.ntmps6
  go_wp2_with fail
  refine (sProgOk_any p _ _ _ (HC.out.mono ((Below.refl _ _).alloc (Nat.le_refl _) _)) (HB.out.mono ((Below.refl _ _).alloc (Nat.le_refl _) _))).mono ?_
  rw [H1.out]
  rintro e w1 ⟨rfl, hb1⟩
  have HB1 : Hid (Below w.heap.size w w1) := below_after (Below.refl _ _) (Nat.le_refl _) hb1
  have e0 : w1.cell? ⟨w.heap.size, 0, none⟩ = some (.slice ac p.cells.length cc) := by rw [hb1.cell (p := ⟨w.heap.size, 0, none⟩) (by simp)]; simp [go_sem]
  have e1 : w1.cell? ⟨w.heap.size, 1, none⟩ = some (.slice ab p.bodies.length cb) := by rw [hb1.cell (p := ⟨w.heap.size, 1, none⟩) (by simp)]; simp [go_sem]
  have z1 : w.heap.size < w1.heap.size := by have := hb1.size; simp at this; omega
  clear hb1
  have HSR : Hid (p.cells.length = 0 ∨ ∃ ad, ac = some ad ∧ ∀ j u, (p.cells.map (Value.int .i64))[j]? = some u → ((w1.alloc (.cells #[] 3)).drew).cell? (ad.add j) = some u) := ints_from (HC.out.mono ((HB1.out.alloc HB1.out.size _).drew))
  have HRW : Hid (((w1.alloc (.cells #[] 3)).drew).ownsRow w1.heap.size 3 1 (.slice (some ⟨w1.heap.size, 0, none⟩) 0 0) 0 []) := World.ownsRow_made _ #[] 0 (Nat.le_refl _) (by unfold maxLen; omega) (by simp)
  go_wp2_with fail
  go_region_law (first | (refine step_append_src (by rfl) _ _ 23 (by rfl) w1.heap.size 3 i0 (.int .i64 0) 1 8 Tryd.underlying23 hi hz0 hz1 hz2 rfl (by decide) _ 0 [] (by rfl) HRW.out ac p.cells.length cc (p.cells.map (Value.int .i64)) (by rfl) (by simp) HSR.out (ints_one p.cells) (by unfold maxLen; omega) (by omega) (by simp) ?_; intro v2 w2 hown2 hgrow2; have HO2 : Hid (OwnInt w1.heap.size w2 v2 p.cells) := (by have h := hown2; simp only [Nat.zero_add, List.nil_append] at h; exact h); have HB2 : Hid (Below w1.heap.size w1 w2) := (((Below.refl w1.heap.size w1).alloc (Nat.le_refl _) _).drew).grown hgrow2 (by simp) (fun g hg => (HRW.out.lt g hg).1); obtain ⟨a2, c2, hv2, hc2a, hc2b⟩ := own_shape HO2.out; subst hv2; have z0 : w2.cell? ⟨w.heap.size, 0, none⟩ = some (.slice ac p.cells.length cc) := (HB2.out.cell (p := ⟨w.heap.size, 0, none⟩) z1).trans e0; have z01 : w2.cell? ⟨w.heap.size, 1, none⟩ = some (.slice ab p.bodies.length cb) := (HB2.out.cell (p := ⟨w.heap.size, 1, none⟩) z1).trans e1; have hs2 := HB2.out.size; have hs3 : w.heap.size < w2.heap.size := (by omega); clear hown2 hgrow2))
  all_goals
    have HS2 : Hid (SkAt w1.heap.size w2.heap.size (w2.alloc (.cells #[.slice ac p.cells.length cc, .slice ab p.bodies.length cb, .slice a2 p.cells.length c2, .bool false] 51)) (.slice ac p.cells.length cc) (.slice ab p.bodies.length cb) (.slice a2 p.cells.length c2) p.cells false) :=
      ⟨hs2, by simp, by simp [go_sem], by simp [go_sem], by simp [go_sem], by simp [go_sem], OwnInt.alloc HO2.out _, fun e => by have := (HO2.out.lt _ e).2; omega, fun o => by simp [go_sem]⟩
    have HBX : Hid (Below w1.heap.size w1 (w2.alloc (.cells #[.slice ac p.cells.length cc, .slice ab p.bodies.length cb, .slice a2 p.cells.length c2, .bool false] 51))) := HB2.out.alloc hs2 _
    clear e0 e1 HSR HRW z0 z01
    go_wp2_with fail
    refine (sBody_fuel p _ _ w1 HFO.out (HB.out.mono HB1.out) w2.heap.size 4 0 _ p.cells _ HS2.out HBX.out (by omega) (by have := HFO.out.1; omega)).mono ?_
    rintro e w3 ⟨x3, rfl, hw3, hf3⟩
    obtain ⟨o, C, hO⟩ : ∃ o C, bodyD p.bodies 4 0 p.cells = (o, C) := ⟨_, _, rfl⟩
    rw [hO] at hw3 ⊢
    dsimp only at hw3 ⊢
    have HB3 : Hid (Below w1.heap.size w1 w3) := HBX.out.trans (hf3.below (fun k hk => by rw [hk]; exact hs2) HBX.out.size)
    have HBw3 : Hid (Below w.heap.size w w3) := HB1.out.trans (HB3.out.mono HB1.out.size)
    have HO3 : Hid (OwnInt w.heap.size w3 x3 C) := own_base hw3.own HB1.out.size
    have c2' := hw3.c2
    have c3' := hw3.c3
    have hlX := hw3.lt
    clear hw3 hf3 HBX HS2
    obtain ⟨ax, kx, rfl, _⟩ := own_shape HO3.out
    by_cases o0 : o = 0
    · subst o0
      have HX : Hid (oneX p = (C, false, true)) := by simp [Hid, oneX, H1.out, hO]
      have hd1 : (!decide ((0 : Nat) = 1)) = true := rfl
      have hd2 : (!decide ((0 : Nat) = 0 ∨ (0 : Nat) = 1)) = false := rfl
      rw [hd2] at c3'
      rw [hd1]
      clear hO hd1 hd2
      go_wp2_with fail
      refine bodyPost_ret (v := .tuple #[.slice ax C.length kx, .bool false, .bool true]) (by simp [results, Tryd.results6, go_sem]) rfl ⟨_, by rw [HX.out], by rw [HX.out]; exact HO3.out, HBw3.out⟩
    by_cases o1 : o = 1
    · subst o1
      have HX : Hid (oneX p = (C, true, true)) := by simp [Hid, oneX, H1.out, hO]
      have hd1 : (!decide ((1 : Nat) = 1)) = false := rfl
      have hd2 : (!decide ((1 : Nat) = 0 ∨ (1 : Nat) = 1)) = false := rfl
      rw [hd2] at c3'
      rw [hd1]
      clear hO hd1 hd2
      go_wp2_with fail
      refine bodyPost_ret (v := .tuple #[.slice ax C.length kx, .bool true, .bool true]) (by simp [results, Tryd.results6, go_sem]) rfl ⟨_, by rw [HX.out], by rw [HX.out]; exact HO3.out, HBw3.out⟩
    · have HX : Hid (oneX p = ([], false, false)) := by simp [Hid, oneX, H1.out, hO, o0, o1]
      have hd1 : (!decide (o = 1)) = true := by simp [o1]
      have hd2 : (!decide (o = 0 ∨ o = 1)) = true := by simp [o0, o1]
      rw [hd2] at c3'
      rw [hd1]
      clear hO hd1 hd2 o0 o1
      go_wp2_with fail
      refine bodyPost_ret (v := .tuple #[.slice (some ⟨w3.heap.size, 0, none⟩) 0 0, .bool false, .bool false]) (by simp [results, Tryd.results6, go_sem]) rfl ⟨_, by rw [HX.out], by rw [HX.out]; exact World.ownsRow_made _ #[] 0 HBw3.out.size (by unfold maxLen; omega) (by simp), HBw3.out.alloc HBw3.out.size _⟩

end Go.Proofs.YtpehlekjfnkhoaaDoor
