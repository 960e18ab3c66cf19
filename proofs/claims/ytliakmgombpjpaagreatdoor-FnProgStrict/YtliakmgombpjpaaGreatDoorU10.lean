/-
  The walk of FnProgStrict.
-/
import Derived.Test.YtliakmgombpjpaaGreatDoorU9
import Derived.Test.YtliakmgombpjpaaGreatDoorO2
namespace Go.Proofs.YtliakmgombpjpaaGreatDoor
open Go.RowKit
set_option linter.unusedSimpArgs false
set_option linter.unusedVariables false
set_option maxRecDepth 20000

theorem sProgRead_is {l : List UInt8} {q : Option Pr} (hq : rdG l = q) (w : World) (hl : l.length ≤ 1048576) :
    Calls Tryz.prog 12 #[.string (bs l)] w fun e w' => ∃ ac kc ab kb, e = .returned (.tuple #[.agg #[.slice ac (q.getD ⟨[], []⟩).cells.length kc, .slice ab (q.getD ⟨[], []⟩).bodies.length kb], .bool q.isSome]) ∧ IntsAt w' (.slice ac (q.getD ⟨[], []⟩).cells.length kc) (q.getD ⟨[], []⟩).cells ∧ BodiesAt w' (.slice ab (q.getD ⟨[], []⟩).bodies.length kb) (q.getD ⟨[], []⟩).bodies ∧ Below w.heap.size w w' := by
  have := sProgRead_any l w hl
  rw [spR_rdG, hq] at this
  refine this.mono ?_
  rintro e w' ⟨cv, bv, rfl, hc, hb, hw⟩
  obtain ⟨ac, kc, rfl, _⟩ := hc.shape
  obtain ⟨ab, kb, rfl, _⟩ := hb.shape
  exact ⟨ac, kc, ab, kb, rfl, hc, hb, hw⟩
theorem progRead_at {l : List UInt8} {q : Option Pr} (hq : rdG l = q) (w : World) (hG : Gl w) (hl : l.length ≤ 1048576) :
    Calls Tryz.prog 9 #[.string (bs l)] w fun e w' => ∃ ac kc ab kb, e = .returned (.tuple #[.agg #[.slice ac (q.getD ⟨[], []⟩).cells.length kc, .slice ab (q.getD ⟨[], []⟩).bodies.length kb], .bool q.isSome]) ∧ IntsAt w' (.slice ac (q.getD ⟨[], []⟩).cells.length kc) (q.getD ⟨[], []⟩).cells ∧ BodiesAt w' (.slice ab (q.getD ⟨[], []⟩).bodies.length kb) (q.getD ⟨[], []⟩).bodies ∧ Below w.heap.size w w' := by
  have := progRead_any l w hG (by omega)
  rw [hq] at this
  refine this.mono ?_
  rintro e w' ⟨cv, bv, rfl, hc, hb, hw⟩
  have hB := hb.at
  obtain ⟨ac, kc, rfl, _⟩ := own_shape hc
  obtain ⟨ab, kb, rfl, _⟩ := hB.shape
  exact ⟨ac, kc, ab, kb, rfl, hc.at, hB, hw⟩
theorem lqProg_sameS (p : Pr) (cv bv cv' bv' : Value) (w : World) (hc : IntsAt w cv p.cells) (hB : BodiesAt w bv p.bodies) (hc' : IntsAt w cv' p.cells) (hB' : BodiesAt w bv' p.bodies) :
    Calls Tryz.prog 10 #[.agg #[cv, bv], .agg #[cv', bv']] w fun r w' => r = .returned (.bool true) ∧ Below w.heap.size w w' := by
  have := lqProg_any p p cv bv cv' bv' w hc hB hc' hB'
  rw [isT_yes rfl] at this
  exact this

set_option maxHeartbeats 4000000 in
theorem fnProgStrict_walk (a : Option Addr) (n cap : Nat) (w : World) (hG : Gl w) (h : Bytes w a n) (hc : n ≤ cap) (hn : cap ≤ 9223372036854775807) :
    Calls Tryz.prog 4 #[.slice a n cap] w fun e w' => e = .returned (.bool true) ∧ Below w.heap.size w w' := by
  by_cases hbig : 1048576 < n
  · have hb' : (1048576 : Int) < (n : Int) := by omega
    clear h hG
    go_enter Tryz.func4, Tryz.ntmps4
    go_wp2_with fail
    go_ret
    exact ⟨rfl, Below.refl _ _⟩
  have hb' : ¬ (1048576 : Int) < (n : Int) := by omega
  have HY := (show Hid (Bytes _ _ _) from h)
  have HG := (show Hid (Gl _) from hG)
  clear h hG
  go_enter Tryz.func4, Tryz.ntmps4
  go_wp2_with fail
  refine (drawProgRead_any a n cap w HY.out hc hn).mono ?_
  rintro e w1 ⟨S, rfl, hS, hb1⟩
  obtain ⟨l, hl⟩ : ∃ l, l = S.data.toList := ⟨_, rfl⟩
  have hSl : bs l = S := by rw [hl]; exact ba_list S
  subst hSl
  rw [bs_size] at hS
  clear hl HY
  obtain ⟨q, hq⟩ : ∃ q, rdG l = q := ⟨_, rfl⟩
  have HQ := (show Hid (rdG l = q) from hq)
  have HB1 := (show Hid (Below _ _ _) from hb1)
  clear hq hb1
  go_wp2_with fail
  refine (sProgRead_is HQ.out _ (by omega)).mono ?_
  rintro e w2 ⟨ac, kc, ab, kb, rfl, hI, hB, hb2⟩
  obtain ⟨pr, hpr⟩ : ∃ pr, pr = q.getD ⟨[], []⟩ := ⟨_, rfl⟩
  rw [← hpr] at hI hB ⊢
  have HPR := (show Hid (pr = _) from hpr)
  have HB2 : Hid (Below w.heap.size w w2) := below_then HB1.out HB1.out.size hb2
  have HS : Hid (PBox (w2.alloc (.cells #[.slice ac pr.cells.length kc, .slice ab pr.bodies.length kb] 26)) w2.heap.size (.slice ac pr.cells.length kc) (.slice ab pr.bodies.length kb) ∧ IntsAt (w2.alloc (.cells #[.slice ac pr.cells.length kc, .slice ab pr.bodies.length kb] 26)) (.slice ac pr.cells.length kc) pr.cells ∧ BodiesAt (w2.alloc (.cells #[.slice ac pr.cells.length kc, .slice ab pr.bodies.length kb] 26)) (.slice ab pr.bodies.length kb) pr.bodies ∧ Below w.heap.size w (w2.alloc (.cells #[.slice ac pr.cells.length kc, .slice ab pr.bodies.length kb] 26))) :=
    ⟨heap_alloc_new w2 _, hI.mono ((Below.refl _ _).alloc (Nat.le_refl _) _), hB.mono ((Below.refl _ _).alloc (Nat.le_refl _) _), HB2.out.alloc HB2.out.size _⟩
  clear hpr hI hB hb2 HB1 HB2
  go_wp2_with fail
  generalize w2.alloc (.cells #[.slice ac pr.cells.length kc, .slice ab pr.bodies.length kb] 26) = V at HS ⊢
  generalize w2.heap.size = P1 at HS ⊢
  have HGV : Hid (Gl V) := HG.out.mono HS.out.2.2.2
  refine (progRead_at HQ.out V HGV.out (by omega)).mono ?_
  rintro e w3 ⟨ac2, kc2, ab2, kb2, rfl, hI2, hB2, hb3⟩
  rw [← HPR.out] at hI2 hB2 ⊢
  have r0 : w3.cell? ⟨P1, 0, none⟩ = some (.slice ac pr.cells.length kc) := (hb3.cell (p := ⟨P1, 0, none⟩) HS.out.1.lt).trans HS.out.1.cells.1
  have r1 : w3.cell? ⟨P1, 1, none⟩ = some (.slice ab pr.bodies.length kb) := (hb3.cell (p := ⟨P1, 1, none⟩) HS.out.1.lt).trans HS.out.1.cells.2.1
  have hP1w : P1 < w3.heap.size := Nat.lt_of_lt_of_le HS.out.1.lt hb3.size
  have HI := (show Hid (IntsAt _ _ _) from HS.out.2.1.mono hb3)
  have HB := (show Hid (BodiesAt _ _ _) from HS.out.2.2.1.mono hb3)
  have HI2 := (show Hid (IntsAt _ _ _) from hI2)
  have HB2 := (show Hid (BodiesAt _ _ _) from hB2)
  have HL3 : Hid (Below w.heap.size w w3) := below_then HS.out.2.2.2 HS.out.2.2.2.size hb3
  clear hI2 hB2 hb3 HS HGV
  have bel : ∀ o : Obj, Below w3.heap.size w3 (w3.alloc o) := fun o => (Below.refl _ _).alloc (Nat.le_refl _) _
  have BEL := (show Hid (∀ o : Obj, _) from bel)
  clear bel
  cases q with
  | none =>
    obtain rfl : pr = ⟨[], []⟩ := HPR.out
    go_wp2_with fail
    refine (lqProg_sameS ⟨[], []⟩ _ _ _ _ _ (HI2.out.mono (BEL.out _)) (HB2.out.mono (BEL.out _)) (HI.out.mono (BEL.out _)) (HB.out.mono (BEL.out _))).mono ?_
    rintro e w5 ⟨rfl, hb5⟩
    have p1 : w5.cell? ⟨w3.heap.size, 1, none⟩ = some (.slice ab2 ([] : List (List Ac)).length kb2) := by rw [hb5.cell (p := ⟨w3.heap.size, 1, none⟩) (by simp)]; simp [go_sem]
    have hz5 : w3.heap.size < w5.heap.size := by have := hb5.size; simp at this; omega
    have HL5 : Hid (Below w.heap.size w w5) := below_after HL3.out HL3.out.size hb5
    clear hb5
    go_wp2_with fail
    go_ret
    exact ⟨rfl, HL5.out⟩
  | some p =>
    obtain rfl : pr = p := HPR.out
    obtain ⟨hok, htx⟩ := rdG_some.1 HQ.out
    have HOK := (show Hid (okB pr = true) from hok)
    have HTX : Hid (l = txT pr) := by rw [Hid, txT_ok hok]; exact htx
    clear hok htx
    go_wp2_with fail
    refine (lqProg_sameS pr _ _ _ _ _ (HI2.out.mono (BEL.out _)) (HB2.out.mono (BEL.out _)) (HI.out.mono (BEL.out _)) (HB.out.mono (BEL.out _))).mono ?_
    rintro e w5 ⟨rfl, hb5⟩
    have p0 : w5.cell? ⟨w3.heap.size, 0, none⟩ = some (.slice ac2 pr.cells.length kc2) := by rw [hb5.cell (p := ⟨w3.heap.size, 0, none⟩) (by simp)]; simp [go_sem]
    have p1 : w5.cell? ⟨w3.heap.size, 1, none⟩ = some (.slice ab2 pr.bodies.length kb2) := by rw [hb5.cell (p := ⟨w3.heap.size, 1, none⟩) (by simp)]; simp [go_sem]
    have hz5 : w3.heap.size < w5.heap.size := by have := hb5.size; simp at this; omega
    have HB35 : Hid (Below w3.heap.size w3 w5) := below_after (Below.refl _ _) (Nat.le_refl _) hb5
    have HL5 : Hid (Below w.heap.size w w5) := below_after HL3.out HL3.out.size hb5
    clear hb5 r0 r1
    go_wp2_with fail
    refine (progOk_any pr _ _ _ (HI2.out.mono HB35.out) (HB2.out.mono HB35.out)).mono ?_
    rintro e w6 ⟨rfl, hb6⟩
    rw [HOK.out]
    rw [← hb6.cell (p := ⟨w3.heap.size, 0, none⟩) hz5] at p0
    rw [← hb6.cell (p := ⟨w3.heap.size, 1, none⟩) hz5] at p1
    have HB36 : Hid (Below w3.heap.size w3 w6) := below_then HB35.out HB35.out.size hb6
    have HL6 : Hid (Below w.heap.size w w6) := below_then HL5.out HL5.out.size hb6
    clear hb6 HB35 HL5
    go_wp2_with fail
    refine (progText_any pr _ _ _ (HI2.out.mono HB36.out) (HB2.out.mono HB36.out)).mono ?_
    rintro e w7 ⟨rfl, hb7⟩
    have HL7 : Hid (Below w.heap.size w w7) := below_then HL6.out HL6.out.size hb7
    have t1 : ((bs (txT pr)).toList == (bs l).toList) = true := by rw [← HTX.out]; simp
    clear hb7 p0 p1
    go_wp2_with fail
    go_ret
    exact ⟨rfl, HL7.out⟩

end Go.Proofs.YtliakmgombpjpaaGreatDoor
