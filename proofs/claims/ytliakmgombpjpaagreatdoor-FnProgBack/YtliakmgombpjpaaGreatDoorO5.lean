/-
  The walk of FnProgBack.
-/
import Derived.Test.YtliakmgombpjpaaGreatDoorO3
import Derived.Test.YtliakmgombpjpaaGreatDoorO2
import Derived.Test.YtliakmgombpjpaaGreatDoorR10
import Derived.Test.YtliakmgombpjpaaGreatDoorQ4
namespace Go.Proofs.YtliakmgombpjpaaGreatDoor
open Go.RowKit
set_option linter.unusedSimpArgs false
set_option linter.unusedVariables false
set_option maxRecDepth 20000

theorem bs_list5 (l : List UInt8) : (bs l).toList = l := by
  simp [bs]
theorem prT_600 {p : Pr} (h : okB p = true) : (prT p).length ≤ 600 := by
  obtain ⟨h3, h4, _, hbo⟩ := ok_cells h
  have h1 := nuT_len p.cells
  have h2 : (bsT p.bodies).length ≤ p.bodies.length * 121 := flat_len p.bodies fun b hb => by
    obtain ⟨i, hi, rfl⟩ := mem_nth [] hb
    obtain ⟨k1, k2⟩ := boB_acts (hbo i hi)
    exact boT_len k1 (fun a ha => acB_len (k2 a ha))
  unfold prT
  simp only [List.length_append, List.length_cons, List.length_nil]
  omega
theorem rdG_prT {p : Pr} (h : okB p = true) : rdG (prT p) = some p := by
  unfold rdG
  have e := prG_prT h
  have ht : txT p = prT p := by unfold txT; rw [h]; exact (rfl : _ = _)
  rw [e, if_pos ⟨prT_600 h, h, ht⟩]
theorem progRead_is {p : Pr} (h : okB p = true) (w : World) (hG : Gl w) :
    Calls Tryz.prog 9 #[.string (bs (prT p))] w fun e w' => ∃ ac kc ab kb, e = .returned (.tuple #[.agg #[.slice ac p.cells.length kc, .slice ab p.bodies.length kb], .bool true]) ∧ IntsAt w' (.slice ac p.cells.length kc) p.cells ∧ BodiesAt w' (.slice ab p.bodies.length kb) p.bodies ∧ Below w.heap.size w w' := by
  have := progRead_any (prT p) w hG (by have := prT_600 h; omega)
  rw [rdG_prT h] at this
  refine this.mono ?_
  rintro e w' ⟨cv, bv, rfl, hc, hb, hw⟩
  dsimp only [Option.getD_some] at hc hb
  have hB := hb.at
  obtain ⟨ac, kc, rfl, _⟩ := own_shape hc
  obtain ⟨ab, kb, rfl, _⟩ := hB.shape
  exact ⟨ac, kc, ab, kb, rfl, hc.at, hB, hw⟩
theorem lqProg_same (p : Pr) (cv bv cv' bv' : Value) (w : World) (hc : IntsAt w cv p.cells) (hB : BodiesAt w bv p.bodies) (hc' : IntsAt w cv' p.cells) (hB' : BodiesAt w bv' p.bodies) :
    Calls Tryz.prog 10 #[.agg #[cv, bv], .agg #[cv', bv']] w fun r w' => r = .returned (.bool true) ∧ Below w.heap.size w w' := by
  have := lqProg_any p p cv bv cv' bv' w hc hB hc' hB'
  rw [isT_yes rfl] at this
  exact this

set_option maxHeartbeats 4000000 in
theorem fnProgBack_walk (a : Option Addr) (n cap : Nat) (w : World) (hG : Gl w) (h : Bytes w a n) (hc : n ≤ cap) (hn : cap ≤ 9223372036854775807) :
    Calls Tryz.prog 3 #[.slice a n cap] w fun e w' => e = .returned (.bool true) ∧ Below w.heap.size w w' := by
  by_cases hbig : 1048576 < n
  · have hb' : (1048576 : Int) < (n : Int) := by omega
    clear h hG
    go_enter Tryz.func3, Tryz.ntmps3
    go_wp2_with fail
    go_ret
    exact ⟨rfl, Below.refl _ _⟩
  have hb' : ¬ (1048576 : Int) < (n : Int) := by omega
  have HY := (show Hid (Bytes _ _ _) from h)
  have HG := (show Hid (Gl _) from hG)
  clear h hG
  go_enter Tryz.func3, Tryz.ntmps3
  go_wp2_with fail
  refine (drawProgText_any a n cap w HY.out hc hn).mono ?_
  rintro e w1 ⟨pr, cv, bv, rfl, hI, hB, hb1⟩
  obtain ⟨ac, cc, rfl, _⟩ := hI.shape
  obtain ⟨ab, cb, rfl, _⟩ := hB.shape
  have HS : Hid (PBox (w1.alloc (.cells #[.slice ac pr.cells.length cc, .slice ab pr.bodies.length cb] 26)) w1.heap.size (.slice ac pr.cells.length cc) (.slice ab pr.bodies.length cb) ∧ IntsAt (w1.alloc (.cells #[.slice ac pr.cells.length cc, .slice ab pr.bodies.length cb] 26)) (.slice ac pr.cells.length cc) pr.cells ∧ BodiesAt (w1.alloc (.cells #[.slice ac pr.cells.length cc, .slice ab pr.bodies.length cb] 26)) (.slice ab pr.bodies.length cb) pr.bodies ∧ Below w.heap.size w (w1.alloc (.cells #[.slice ac pr.cells.length cc, .slice ab pr.bodies.length cb] 26))) :=
    ⟨heap_alloc_new w1 _, hI.mono ((Below.refl _ _).alloc (Nat.le_refl _) _), hB.mono ((Below.refl _ _).alloc (Nat.le_refl _) _), hb1.alloc hb1.size _⟩
  clear hI hB hb1 HY
  go_wp2_with fail
  generalize w1.alloc (.cells #[.slice ac pr.cells.length cc, .slice ab pr.bodies.length cb] 26) = V at HS ⊢
  generalize w1.heap.size = P1 at HS ⊢
  have HI : Hid (IntsAt V (.slice ac pr.cells.length cc) pr.cells) := HS.out.2.1
  have HB : Hid (BodiesAt V (.slice ab pr.bodies.length cb) pr.bodies) := HS.out.2.2.1
  have HL : Hid (Below w.heap.size w V) := HS.out.2.2.2
  have HGV : Hid (Gl V) := HG.out.mono HL.out
  obtain ⟨p0, p1, _, _⟩ := HS.out.1.cells
  have hPl := HS.out.1.lt
  clear HS HG
  obtain ⟨A, hA⟩ : ∃ A, A = bs (txT pr) := ⟨_, rfl⟩
  have HA := (show Hid (A = _) from hA)
  clear hA
  have box : ∀ w', Below V.heap.size V w' → w'.cell? ⟨P1, 0, none⟩ = some (.slice ac pr.cells.length cc) ∧ w'.cell? ⟨P1, 1, none⟩ = some (.slice ab pr.bodies.length cb) := fun w' hb =>
    ⟨(hb.cell (p := ⟨P1, 0, none⟩) hPl).trans p0, (hb.cell (p := ⟨P1, 1, none⟩) hPl).trans p1⟩
  have BOX := (show Hid (∀ w', Below V.heap.size V w' → _) from box)
  clear box
  refine (progText_any pr _ _ _ HI.out HB.out).mono ?_
  rintro e w3 ⟨rfl, hb3⟩
  rw [← HA.out]
  obtain ⟨x0, x1⟩ := BOX.out w3 hb3
  have H3 := (show Hid (Below V.heap.size V w3) from hb3)
  clear hb3
  go_wp2_with fail
  refine (sProgText_any pr _ _ _ (HI.out.mono H3.out) (HB.out.mono H3.out)).mono ?_
  rintro e w4 ⟨rfl, hb4⟩
  rw [← HA.out]
  have H4 := (show Hid (Below V.heap.size V w4) from H3.out.trans (hb4.mono H3.out.size))
  obtain ⟨y0, y1⟩ := BOX.out w4 H4.out
  clear hb4 x0 x1 H3
  cases hop : okB pr
  · obtain rfl : A = ByteArray.mk #[] := by rw [HA.out]; unfold txT; rw [hop]; rfl
    clear hop
    go_wp2_with fail
    refine (sProgText_any pr _ _ _ (HI.out.mono H4.out) (HB.out.mono H4.out)).mono ?_
    rintro e w7 ⟨rfl, hb7⟩
    rw [← HA.out]
    have H7 := (show Hid (Below V.heap.size V w7) from H4.out.trans (hb7.mono H4.out.size))
    clear hb7 y0 y1 H4
    go_wp2_with fail
    go_ret
    exact ⟨rfl, HL.out.trans (H7.out.mono HL.out.size)⟩
  have HOP := (show Hid (okB pr = true) from hop)
  have HTA : Hid (txT pr = prT pr) := by unfold txT; rw [hop]; exact (rfl : _ = _)
  have hA2 : A.toList ≠ [] := by rw [HA.out, bs_list5, HTA.out]; exact prT_ne pr
  have hA1 : (A.toList == []) = false := by simp [hA2]
  clear hop
  go_wp2_with fail
  obtain rfl : A = bs (prT pr) := by rw [HA.out, HTA.out]
  refine (progRead_is HOP.out _ (HGV.out.mono H4.out)).mono ?_
  rintro e w5 ⟨a5, k5, b5, l5, rfl, hI5, hB5, hb5⟩
  have H5 := (show Hid (Below V.heap.size V w5) from H4.out.trans (hb5.mono H4.out.size))
  obtain ⟨x0, x1⟩ := BOX.out w5 H5.out
  have HI5 := (show Hid (IntsAt _ _ _) from hI5)
  have HB5 := (show Hid (BodiesAt _ _ _) from hB5)
  have hP5 : P1 < w5.heap.size := Nat.lt_of_lt_of_le hPl H5.out.size
  clear hb5 y0 y1 H4 hI5 hB5 hA1 hA2
  go_wp2_with fail
  refine (lqProg_same pr _ _ _ _ _ (HI5.out.mono (by repeat (first | exact Below.refl _ _ | refine Below.alloc ?_ (by simp; try omega) _ | refine Below.drew ?_ | refine Below.setCell ?_ (by simp; try omega) _))) (HB5.out.mono (by repeat (first | exact Below.refl _ _ | refine Below.alloc ?_ (by simp; try omega) _ | refine Below.drew ?_ | refine Below.setCell ?_ (by simp; try omega) _))) (IntsAt.mono (HI.out.mono H5.out) (by repeat (first | exact Below.refl _ _ | refine Below.alloc ?_ (by simp; try omega) _ | refine Below.drew ?_ | refine Below.setCell ?_ (by simp; try omega) _))) (BodiesAt.mono (HB.out.mono H5.out) (by repeat (first | exact Below.refl _ _ | refine Below.alloc ?_ (by simp; try omega) _ | refine Below.drew ?_ | refine Below.setCell ?_ (by simp; try omega) _)))).mono ?_
  rintro e w6 ⟨rfl, hb6⟩
  have H6 : Hid (Below V.heap.size V w6) := H5.out.trans ((below_after (Below.refl _ _) (Nat.le_refl _) hb6).mono H5.out.size)
  clear hb6
  go_wp2_with fail
  go_ret
  exact ⟨rfl, HL.out.trans (H6.out.mono HL.out.size)⟩

end Go.Proofs.YtliakmgombpjpaaGreatDoor
