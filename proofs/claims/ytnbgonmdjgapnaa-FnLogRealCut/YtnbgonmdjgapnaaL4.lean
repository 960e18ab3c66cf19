/-
  A run, a rest of the model that is none.
-/
import Derived.Test.YtnbgonmdjgapnaaJ29
namespace Go.Proofs.Ytnbgonmdjgapnaa
open Go.RowKit
set_option linter.unusedSimpArgs false
set_option linter.unusedVariables false
set_option maxRecDepth 20000

theorem SyAt.shapes {w : World} {cv tv lv : Value} {s : Sy} (h : SyAt w cv tv lv s) : ∃ a1 c1 a2 c2 a3 c3, cv = .slice a1 s.cells.length c1 ∧ tv = .slice a2 s.tasks.length c2 ∧ lv = .slice a3 s.log.length c3 := by
  obtain ⟨a1, c1, e1, _⟩ := ces_src h.1
  obtain ⟨a2, c2, e2, _⟩ := h.2.1.cap
  obtain ⟨a3, c3, e3, _⟩ := h.2.2.cap
  exact ⟨a1, c1, a2, c2, a3, c3, e1, e2, e3⟩
set_option maxHeartbeats 8000000 in
theorem sysRest_no (p : Pr) (s : Sy) (m : Int) (pc pb cv tv lv : Value) (w : World) (hP : PrAt w pc pb p) (h : SyAt w cv tv lv s) (hsm : SmSy s) (hsp : SmallP p) (hno : mSoB p s = false ∨ inB m 0 2000 = false) :
    Calls Try.prog 139 #[.agg #[pc, pb], .agg #[cv, tv, .int .i64 s.clock, lv], .int .i64 m] w fun r w' => r = .returned (.tuple #[.agg #[.slice none 0 0, .slice none 0 0, .int .i64 0, .slice none 0 0], .bool false]) ∧ Below w.heap.size w w' := by
  obtain ⟨pa, pca, rfl, _⟩ := hP.1.shape
  obtain ⟨pba, pbc, rfl, _⟩ := hP.2.shape
  obtain ⟨aa, ca, ta, tc, la, lc, rfl, rfl, rfl⟩ := h.shapes
  have HP := (show Hid (PrAt _ _ _ _) from hP)
  have HS := (show Hid (SyAt _ _ _ _ _) from h)
  have HX := (show Hid (SmSy _) from hsm)
  have HSP := (show Hid (SmallP _) from hsp)
  clear hP h hsm hsp
  have HY : Hid (∃ V, V = (((w.alloc (.cells #[.slice pa p.cells.length pca, .slice pba p.bodies.length pbc] 26)).alloc (.cells #[.slice aa s.cells.length ca, .slice ta s.tasks.length tc, .int .i64 s.clock, .slice la s.log.length lc] 32)).alloc (.cells #[.slice none 0 0, .slice none 0 0, .int .i64 0, .slice none 0 0] 32)) ∧ PBox V w.heap.size (.slice pa p.cells.length pca) (.slice pba p.bodies.length pbc) ∧ V.heap[w.heap.size + 1]? = some (.cells #[.slice aa s.cells.length ca, .slice ta s.tasks.length tc, .int .i64 s.clock, .slice la s.log.length lc] 32 (0, 0)) ∧ V.heap[w.heap.size + 2]? = some (.cells #[.slice none 0 0, .slice none 0 0, .int .i64 0, .slice none 0 0] 32 (0, 0)) ∧ V.heap.size = w.heap.size + 3 ∧ Below w.heap.size w V) := by
    refine ⟨_, rfl, PBox.alloc (PBox.alloc (heap_alloc_new w _) _) _, ?_, ?_, by simp, (((Below.refl _ _).alloc (Nat.le_refl _) _).alloc (by simp) _).alloc (by simp; omega) _⟩
    · rw [Below.heap_alloc _ _ _ (by simp)]
      simpa using heap_alloc_new (w.alloc (.cells #[.slice pa p.cells.length pca, .slice pba p.bodies.length pbc] 26)) (.cells #[.slice aa s.cells.length ca, .slice ta s.tasks.length tc, .int .i64 s.clock, .slice la s.log.length lc] 32)
    · simpa using heap_alloc_new ((w.alloc (.cells #[.slice pa p.cells.length pca, .slice pba p.bodies.length pbc] 26)).alloc (.cells #[.slice aa s.cells.length ca, .slice ta s.tasks.length tc, .int .i64 s.clock, .slice la s.log.length lc] 32)) (.cells #[.slice none 0 0, .slice none 0 0, .int .i64 0, .slice none 0 0] 32)
  go_enter Try.func139, Try.ntmps139
  go_wp2_with fail
  obtain ⟨V, hV, hVP, hVY, hVZ, hVs, hVb⟩ := HY.out
  rw [← hV]
  clear hV HY
  have hVg : w.heap.size + 2 < V.heap.size := by omega
  clear hVs
  revert hVP hVY hVZ hVg
  generalize hYe : w.heap.size + 1 = Y
  generalize hZe : Y + 1 = Z
  have e2 : w.heap.size + 2 = Z := by omega
  rw [e2]
  have hwY : w.heap.size < Y := by omega
  have hYZ : Y < Z := by omega
  clear e2 hYe hZe
  intro hVP hVY hVZ hVg
  have HVP := (show Hid (PBox _ _ _ _) from hVP)
  have HVY := (show Hid (_ = _) from hVY)
  have HVZ := (show Hid (_ = _) from hVZ)
  have HVB := (show Hid (Below _ _ _) from hVb)
  have hsw := hVb.size
  clear hVP hVY hVZ hVb
  refine (sSysOk_any p pa pba pca pbc s aa ta la ca tc lc V (HP.out.mono HVB.out) (HS.out.mono HVB.out) HX.out HSP.out).mono ?_
  rintro e w1 ⟨rfl, hb1⟩
  have hs1 := hb1.size
  have HVZ1 : Hid (w1.heap[Z]? = _) := (hb1.block Z (by omega)).trans HVZ.out
  have HBw1 : Hid (Below w.heap.size w w1) := HVB.out.trans (hb1.mono hsw)
  clear hb1 HVY HVZ HVB
  cases hm : mSoB p s
  · clear hm hno
    obtain ⟨⟨z0, z1, z2, z3⟩, ⟨f0, f1, f2, f3⟩, hZl⟩ := box4c HVZ1.out
    go_wp2_with fail
    (try simp only [Exit.inBlock, Exit.then])
    obtain ⟨⟨r0, r1, r2, r3⟩, _, _⟩ := box4c (box4 (b0 := .slice none 0 0) (b1 := .slice none 0 0) (b2 := .int .i64 0) (b3 := .slice none 0 0) HVZ1.out).1
    refine bodyPost_ret (v := .tuple #[.agg #[.slice none 0 0, .slice none 0 0, .int .i64 0, .slice none 0 0], .bool false]) ?_ rfl ⟨rfl, (((HBw1.out.setCell (by simp; omega) _).setCell (by simp; omega) _).setCell (by simp; omega) _).setCell (by simp; omega) _⟩
    rw [results_cell_tmp rfl]
    go_simp
  · have hn : inB m 0 2000 = false := by
      rcases hno with h | h
      · rw [h] at hm; cases hm
      · exact h
    have HN := (show Hid (_ = _) from hn)
    clear hm hno hn
    go_wp2_with fail
    refine (l6In_any m 0 2000 _).mono ?_
    rw [HN.out]
    rintro e w1' ⟨rfl, hw1⟩
    have hw1 := hw1.symm
    subst hw1
    obtain ⟨⟨z0, z1, z2, z3⟩, ⟨f0, f1, f2, f3⟩, hZl⟩ := box4c HVZ1.out
    go_wp2_with fail
    (try simp only [Exit.inBlock, Exit.then])
    obtain ⟨⟨r0, r1, r2, r3⟩, _, _⟩ := box4c (box4 (b0 := .slice none 0 0) (b1 := .slice none 0 0) (b2 := .int .i64 0) (b3 := .slice none 0 0) HVZ1.out).1
    refine bodyPost_ret (v := .tuple #[.agg #[.slice none 0 0, .slice none 0 0, .int .i64 0, .slice none 0 0], .bool false]) ?_ rfl ⟨rfl, (((HBw1.out.setCell (by simp; omega) _).setCell (by simp; omega) _).setCell (by simp; omega) _).setCell (by simp; omega) _⟩
    rw [results_cell_tmp rfl]
    go_simp

end Go.Proofs.Ytnbgonmdjgapnaa
