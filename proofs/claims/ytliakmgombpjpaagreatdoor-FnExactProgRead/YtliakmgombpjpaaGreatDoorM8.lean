/-
  The walk of FnExactProgRead.
-/
import Derived.Test.YtliakmgombpjpaaGreatDoorD6
import Derived.Test.YtliakmgombpjpaaGreatDoorM7
import Derived.Test.YtliakmgombpjpaaGreatDoorX5
namespace Go.Proofs.YtliakmgombpjpaaGreatDoor
open Go.RowKit
set_option linter.unusedSimpArgs false
set_option linter.unusedVariables false
set_option maxRecDepth 20000

theorem progRead_sh {l : List UInt8} {q : Option Pr} (hq : rdG l = q) (w : World) (hG : Gl w) (hl : l.length ≤ 1048576) :
    Calls Tryz.prog 9 #[.string (bs l)] w fun e w' => ∃ ac kc ab kb M, e = .returned (.tuple #[.agg #[.slice ac (q.getD ⟨[], []⟩).cells.length kc, .slice ab (q.getD ⟨[], []⟩).bodies.length kb], .bool q.isSome]) ∧ IntsAt w' (.slice ac (q.getD ⟨[], []⟩).cells.length kc) (q.getD ⟨[], []⟩).cells ∧ BodiesAt w' (.slice ab (q.getD ⟨[], []⟩).bodies.length kb) (q.getD ⟨[], []⟩).bodies ∧
      RowSh 1 w' (.slice ac (q.getD ⟨[], []⟩).cells.length kc) ∧ BodiesSh w' (.slice ab (q.getD ⟨[], []⟩).bodies.length kb) M ∧ (mtP (.slice ac (q.getD ⟨[], []⟩).cells.length kc) M).Nodup ∧ (mtP (.slice ac (q.getD ⟨[], []⟩).cells.length kc) M).length ≤ 1000 ∧ (∀ a, a ∈ mtP (.slice ac (q.getD ⟨[], []⟩).cells.length kc) M → ICell w' a ∧ w.heap.size ≤ a.block ∧ a.block < w'.heap.size) ∧ Below w.heap.size w w' := by
  have := progRead_own l w hG (by omega)
  have hsm := rdG_small l
  rw [hq] at this hsm
  refine this.mono ?_
  rintro e w' ⟨cv, bv, rfl, hc, hb, hw, hP⟩
  obtain ⟨M, h1, h2, h3, h4, h5⟩ := hP.sh hc hsm
  have hB := hb.at
  obtain ⟨ac, kc, rfl, _⟩ := own_shape hc
  obtain ⟨ab, kb, rfl, _⟩ := hB.shape
  exact ⟨ac, kc, ab, kb, M, rfl, hc.at, hB, h1, h2, h3, h4, h5, hw⟩

set_option maxHeartbeats 4000000 in
theorem exactProgRead_walk (S : ByteArray) (w : World) (hG : Gl w)
    (hSP : ∀ (l : List UInt8) (q : Option Pr), rdG l = q → ∀ w : World, l.length ≤ 1048576 → Calls Tryz.prog 12 #[.string (bs l)] w fun e w' => ∃ ac kc ab kb, e = .returned (.tuple #[.agg #[.slice ac (q.getD ⟨[], []⟩).cells.length kc, .slice ab (q.getD ⟨[], []⟩).bodies.length kb], .bool q.isSome]) ∧ IntsAt w' (.slice ac (q.getD ⟨[], []⟩).cells.length kc) (q.getD ⟨[], []⟩).cells ∧ BodiesAt w' (.slice ab (q.getD ⟨[], []⟩).bodies.length kb) (q.getD ⟨[], []⟩).bodies ∧ Below w.heap.size w w') :
    Calls Tryz.prog 5 #[.string S] w fun e w' => e = .returned (.bool true) ∧ Below w.heap.size w w' := by
  obtain ⟨l, hl⟩ : ∃ l, l = S.data.toList := ⟨_, rfl⟩
  have hSl : bs l = S := by rw [hl]; exact ba_list S
  subst hSl
  clear hl
  have hsz : (bs l).size = l.length := bs_size l
  by_cases hbig : 1048576 < l.length
  · have hb' : (1048576 : Int) < (l.length : Int) := by omega
    clear hG hSP
    go_enter Tryz.func5, Tryz.ntmps5
    go_wp2_with fail
    go_ret
    exact ⟨rfl, Below.refl _ _⟩
  have hb' : ¬ (1048576 : Int) < (l.length : Int) := by omega
  have HSP := (show Hid (∀ (l : List UInt8), _) from hSP)
  clear hSP
  have HG := (show Hid (Gl _) from hG)
  clear hG
  obtain ⟨q, hq⟩ : ∃ q, rdG l = q := ⟨_, rfl⟩
  have HQ := (show Hid (rdG l = q) from hq)
  clear hq
  go_enter Tryz.func5, Tryz.ntmps5
  go_wp2_with fail
  refine (HSP.out l q HQ.out _ (by omega)).mono ?_
  rintro e w2 ⟨ac, kc, ab, kb, rfl, hI, hB, hb2⟩
  obtain ⟨pr, hpr⟩ : ∃ pr, pr = q.getD ⟨[], []⟩ := ⟨_, rfl⟩
  rw [← hpr] at hI hB ⊢
  have HPR := (show Hid (pr = _) from hpr)
  have HB2 : Hid (Below w.heap.size w w2) := hb2
  have HS : Hid (PBox (w2.alloc (.cells #[.slice ac pr.cells.length kc, .slice ab pr.bodies.length kb] 26)) w2.heap.size (.slice ac pr.cells.length kc) (.slice ab pr.bodies.length kb) ∧ IntsAt (w2.alloc (.cells #[.slice ac pr.cells.length kc, .slice ab pr.bodies.length kb] 26)) (.slice ac pr.cells.length kc) pr.cells ∧ BodiesAt (w2.alloc (.cells #[.slice ac pr.cells.length kc, .slice ab pr.bodies.length kb] 26)) (.slice ab pr.bodies.length kb) pr.bodies ∧ Below w.heap.size w (w2.alloc (.cells #[.slice ac pr.cells.length kc, .slice ab pr.bodies.length kb] 26))) :=
    ⟨heap_alloc_new w2 _, hI.mono ((Below.refl _ _).alloc (Nat.le_refl _) _), hB.mono ((Below.refl _ _).alloc (Nat.le_refl _) _), HB2.out.alloc HB2.out.size _⟩
  clear hpr hI hB hb2 HB2
  go_wp2_with fail
  generalize w2.alloc (.cells #[.slice ac pr.cells.length kc, .slice ab pr.bodies.length kb] 26) = V at HS ⊢
  generalize w2.heap.size = P1 at HS ⊢
  have HGV : Hid (Gl V) := HG.out.mono HS.out.2.2.2
  refine (progRead_sh HQ.out V HGV.out (by omega)).mono ?_
  rintro e w3 ⟨ac2, kc2, ab2, kb2, M, rfl, hI2, hB2, hsh, hbs, hnd, hln, hIC, hb3⟩
  rw [← HPR.out] at hI2 hB2 hsh hbs hnd hln hIC ⊢
  have r0 : w3.cell? ⟨P1, 0, none⟩ = some (.slice ac pr.cells.length kc) := (hb3.cell (p := ⟨P1, 0, none⟩) HS.out.1.lt).trans HS.out.1.cells.1
  have r1 : w3.cell? ⟨P1, 1, none⟩ = some (.slice ab pr.bodies.length kb) := (hb3.cell (p := ⟨P1, 1, none⟩) HS.out.1.lt).trans HS.out.1.cells.2.1
  have hP1w : P1 < w3.heap.size := Nat.lt_of_lt_of_le HS.out.1.lt hb3.size
  have HI := (show Hid (IntsAt _ _ _) from HS.out.2.1.mono hb3)
  have HB := (show Hid (BodiesAt _ _ _) from HS.out.2.2.1.mono hb3)
  have HI2 := (show Hid (IntsAt _ _ _) from hI2)
  have HB2 := (show Hid (BodiesAt _ _ _) from hB2)
  have HL3 : Hid (Below w.heap.size w w3) := below_then HS.out.2.2.2 HS.out.2.2.2.size hb3
  have HV3 := (show Hid (Below V.heap.size V w3) from hb3)
  have HSh := (show Hid (RowSh _ _ _) from hsh)
  have HBs := (show Hid (BodiesSh _ _ _) from hbs)
  have HND := (show Hid (List.Nodup _) from hnd)
  have HIC := (show Hid (∀ a, a ∈ _ → _) from hIC)
  clear hI2 hB2 hb3 hsh hbs hnd hIC
  have BEL := (show Hid (∀ o : Obj, Below w3.heap.size w3 (w3.alloc o)) from fun o => (Below.refl _ _).alloc (Nat.le_refl _) _)
  go_wp2_with fail
  refine (eqProg_same pr _ _ _ _ _ (HI2.out.mono (BEL.out _)) (HB2.out.mono (BEL.out _)) (HI.out.mono (BEL.out _)) (HB.out.mono (BEL.out _))).mono ?_
  rintro e w5 ⟨rfl, hb5⟩
  have p0 : w5.cell? ⟨w3.heap.size, 0, none⟩ = some (.slice ac2 pr.cells.length kc2) := by rw [hb5.cell (p := ⟨w3.heap.size, 0, none⟩) (by simp)]; simp [go_sem]
  have p1 : w5.cell? ⟨w3.heap.size, 1, none⟩ = some (.slice ab2 pr.bodies.length kb2) := by rw [hb5.cell (p := ⟨w3.heap.size, 1, none⟩) (by simp)]; simp [go_sem]
  have hz5 : w3.heap.size < w5.heap.size := by have := hb5.size; simp at this; omega
  have HB35 : Hid (Below w3.heap.size w3 w5) := below_after (Below.refl _ _) (Nat.le_refl _) hb5
  clear hb5
  have hP15 : P1 < w5.heap.size := by omega
  rw [← HB35.out.cell (p := ⟨P1, _, none⟩) hP1w] at r0 r1
  have hbeq : (q.isSome == q.isSome) = true := by simp
  go_wp2_with fail
  have HI35 := (show Hid (IntSet w3 w5) from IntSet.below HB35.out)
  refine (markProg_tr _ _ M 1 _ (HSh.out.set HI35.out) (HBs.out.set HI35.out) (by omega) (by omega)).mono ?_
  rintro e w6 ⟨rfl, w6', hb6, ew6⟩
  have hIC6 : ∀ a, a ∈ mtP (.slice ac2 pr.cells.length kc2) M → ICell w6' a := fun a ha => (IntSet.below hb6).ints _ (HI35.out.ints _ (HIC.out a ha).1)
  have I56 : IntSet w5 w6 := (IntSet.below hb6).trans (by rw [ew6]; exact wrT_set hIC6 1)
  have HI36 := (show Hid (IntSet w3 w6) from HI35.out.trans I56)
  have HT6 : Hid (HeldT w6 (mtP (.slice ac2 pr.cells.length kc2) M) 1) := by rw [ew6]; exact wrT_held hIC6 HND.out 1
  have HV6 : Hid (Below V.heap.size V w6) := by
    have h5 := below_then HV3.out HV3.out.size HB35.out
    have h6 := below_then h5 h5.size hb6
    rw [ew6]
    exact h6.trans (wrT_below (fun a ha => (HIC.out a ha).2.1) 1)
  have HL6 : Hid (Below w.heap.size w w6) := HS.out.2.2.2.trans (HV6.out.mono HS.out.2.2.2.size)
  have HI6 := (show Hid (IntsAt _ _ _) from HS.out.2.1.mono HV6.out)
  have HB6 := (show Hid (BodiesAt _ _ _) from HS.out.2.2.1.mono HV6.out)
  have p0' := I56.rows _ _ _ _ p0
  have p1' := I56.rows _ _ _ _ p1
  have r0' := I56.rows _ _ _ _ r0
  have r1' := I56.rows _ _ _ _ r1
  have hz6 : w5.heap.size ≤ w6.heap.size := I56.size
  clear p0 p1 r0 r1 I56 hIC6 ew6 hb6 HI35 HB35 HV3 HV6 HI HB HI2 HB2 HL3 HGV BEL
  have HA6 : Hid (∀ a, a ∈ mtP (.slice ac2 pr.cells.length kc2) M → a.block < w6.heap.size) := fun a ha => Nat.lt_of_lt_of_le (HIC.out a ha).2.2 HI36.out.size
  clear HIC HND
  go_wp2_with fail
  refine (heldProg_tr _ _ M 1 _ (HSh.out.set HI36.out) (HBs.out.set HI36.out) HT6.out (by omega) (by omega)).mono ?_
  rintro e w7 ⟨rfl, hb7⟩
  have HB7 := (show Hid (Below _ _ _) from hb7)
  have HL7 : Hid (Below w.heap.size w w7) := below_then HL6.out HL6.out.size hb7
  have hz7 : w6.heap.size ≤ w7.heap.size := hb7.size
  rw [← hb7.cell (p := ⟨w3.heap.size, _, none⟩) (by simp; omega)] at p0' p1'
  rw [← hb7.cell (p := ⟨P1, _, none⟩) (by simp; omega)] at r0' r1'
  clear hb7
  have q1 : ¬ ((1 : Int) + ↑(mtP (.slice ac2 pr.cells.length kc2) M).length < 0) := by omega
  go_wp2_with fail
  refine (progRead_sh HQ.out w7 (HG.out.mono HL7.out) (by omega)).mono ?_
  rintro e w8 ⟨ac3, kc3, ab3, kb3, M3, rfl, hI3, hB3, _, _, _, _, _, hb8⟩
  rw [← HPR.out] at hI3 hB3 ⊢
  have HB68 : Hid (Below w6.heap.size w6 w8) := below_then HB7.out HB7.out.size hb8
  have HL8 : Hid (Below w.heap.size w w8) := below_then HL7.out HL7.out.size hb8
  have hz8 : w7.heap.size ≤ w8.heap.size := hb8.size
  rw [← hb8.cell (p := ⟨w3.heap.size, _, none⟩) (by simp; omega)] at p0' p1'
  rw [← hb8.cell (p := ⟨P1, _, none⟩) (by simp; omega)] at r0' r1'
  have HI3 := (show Hid (IntsAt _ _ _) from hI3)
  have HB3 := (show Hid (BodiesAt _ _ _) from hB3)
  have HI8 := (show Hid (IntsAt _ _ _) from HI6.out.mono HB68.out)
  have HB8 := (show Hid (BodiesAt _ _ _) from HB6.out.mono HB68.out)
  clear hI3 hB3 hb8 HB7 HL7 HI6 HB6 HL6
  have hP18 : P1 < w8.heap.size := by omega
  have hP38 : w3.heap.size < w8.heap.size := by omega
  have BEL := (show Hid (∀ o : Obj, Below w8.heap.size w8 (w8.alloc o)) from fun o => (Below.refl _ _).alloc (Nat.le_refl _) _)
  go_wp2_with fail
  refine (eqProg_same pr _ _ _ _ _ (HI3.out.mono (BEL.out _)) (HB3.out.mono (BEL.out _)) (HI8.out.mono (BEL.out _)) (HB8.out.mono (BEL.out _))).mono ?_
  rintro e w9 ⟨rfl, hb9⟩
  have HB89 : Hid (Below w8.heap.size w8 w9) := below_after (Below.refl _ _) (Nat.le_refl _) hb9
  have HB69 : Hid (Below w6.heap.size w6 w9) := below_then HB68.out HB68.out.size HB89.out
  have HL9 : Hid (Below w.heap.size w w9) := below_then HL8.out HL8.out.size HB89.out
  have HI39 := (show Hid (IntSet w3 w9) from HI36.out.trans (IntSet.below HB69.out))
  have HT9 := (show Hid (HeldT _ _ _) from HT6.out.below HA6.out HB69.out)
  rw [← HB89.out.cell (p := ⟨w3.heap.size, _, none⟩) (by simp; omega)] at p0' p1'
  have hz9 : w8.heap.size ≤ w9.heap.size := HB89.out.size
  clear hb9 r0' r1' HB89 HB69 HB68 HL8 HI36 HT6 HA6 HI3 HB3 HI8 HB8 BEL
  go_wp2_with fail
  refine (heldProg_tr _ _ M 1 _ (HSh.out.set HI39.out) (HBs.out.set HI39.out) HT9.out (by omega) (by omega)).mono ?_
  rintro e w10 ⟨rfl, hb10⟩
  have HL10 : Hid (Below w.heap.size w w10) := below_then HL9.out HL9.out.size hb10
  clear hb10
  go_wp2_with fail
  go_ret
  exact ⟨rfl, HL10.out⟩

end Go.Proofs.YtliakmgombpjpaaGreatDoor
