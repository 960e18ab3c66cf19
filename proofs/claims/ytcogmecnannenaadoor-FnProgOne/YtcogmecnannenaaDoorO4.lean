import Derived.Test.YtcogmecnannenaaDoorO3
import Derived.Test.YtcogmecnannenaaDoorO2
import Derived.Test.YtcogmecnannenaaDoorP6
import Derived.Test.YtcogmecnannenaaDoorQ4
namespace Go.Proofs.YtcogmecnannenaaDoor
open Go.RowKit
set_option linter.unusedSimpArgs false
set_option linter.unusedVariables false
set_option maxRecDepth 20000

theorem bs_inj {a b : List UInt8} (h : bs a = bs b) : a = b := by
  have := congrArg (fun x : ByteArray => x.data.toList) h
  simpa [bs] using this

theorem bs_list (l : List UInt8) : (bs l).toList = l := by
  simp [bs]

theorem bytes_mono {w V : World} {a : Option Addr} {n : Nat} (h : Bytes w a n) (hb : Below w.heap.size w V) : Bytes V a n := fun i hi => by
  obtain ⟨b, off, u, e, h1, h2, h3, h4⟩ := h i hi
  exact ⟨b, off, u, e, Nat.lt_of_lt_of_le h1 hb.size, h2, h3, by rw [hb.cell (p := ⟨b, _, none⟩) h1]; exact h4⟩

set_option maxHeartbeats 4000000 in
theorem fnProgOne_walk (a a2 : Option Addr) (n n2 cap cap2 : Nat) (w : World) (h : Bytes w a n) (hc : n ≤ cap) (hn : cap ≤ 9223372036854775807) (h2 : Bytes w a2 n2) (hc2 : n2 ≤ cap2) (hn2 : cap2 ≤ 9223372036854775807) :
    Calls Tryd.prog 3 #[.slice a n cap, .slice a2 n2 cap2] w fun e w' => e = .returned (.bool true) ∧ Below w.heap.size w w' := by
  by_cases hbig : 1048576 < n
  · have hb' : (1048576 : Int) < (n : Int) := by omega
    clear h h2
    go_enter Tryd.func3, Tryd.ntmps3
    go_wp2_with fail
    go_ret
    exact ⟨rfl, Below.refl _ _⟩
  have hb' : ¬ (1048576 : Int) < (n : Int) := by omega
  by_cases hbig2 : 1048576 < n2
  · have hb2' : (1048576 : Int) < (n2 : Int) := by omega
    clear h h2
    go_enter Tryd.func3, Tryd.ntmps3
    go_wp2_with fail
    go_ret
    exact ⟨rfl, Below.refl _ _⟩
  have hb2' : ¬ (1048576 : Int) < (n2 : Int) := by omega
  have HY := (show Hid (Bytes _ _ _) from h)
  have HY2 := (show Hid (Bytes _ _ _) from h2)
  clear h h2
  go_enter Tryd.func3, Tryd.ntmps3
  go_wp2_with fail
  refine (drawProgText_any a n cap w HY.out hc hn).mono ?_
  rintro e w1 ⟨pr, cv, bv, rfl, hI, hB, hb1⟩
  obtain ⟨ac, cc, rfl, _⟩ := hI.shape
  obtain ⟨ab, cb, rfl, _⟩ := hB.shape
  have HS : Hid (PBox (w1.alloc (.cells #[.slice ac pr.cells.length cc, .slice ab pr.bodies.length cb] 26)) w1.heap.size (.slice ac pr.cells.length cc) (.slice ab pr.bodies.length cb) ∧ IntsAt (w1.alloc (.cells #[.slice ac pr.cells.length cc, .slice ab pr.bodies.length cb] 26)) (.slice ac pr.cells.length cc) pr.cells ∧ BodiesAt (w1.alloc (.cells #[.slice ac pr.cells.length cc, .slice ab pr.bodies.length cb] 26)) (.slice ab pr.bodies.length cb) pr.bodies ∧ Below w.heap.size w (w1.alloc (.cells #[.slice ac pr.cells.length cc, .slice ab pr.bodies.length cb] 26))) :=
    ⟨heap_alloc_new w1 _, hI.mono ((Below.refl _ _).alloc (Nat.le_refl _) _), hB.mono ((Below.refl _ _).alloc (Nat.le_refl _) _), hb1.alloc hb1.size _⟩
  clear hI hB hb1 HY
  go_wp2_with fail
  generalize w1.alloc (.cells #[.slice ac pr.cells.length cc, .slice ab pr.bodies.length cb] 26) = V1 at HS ⊢
  generalize w1.heap.size = P1 at HS ⊢
  have HYV : Hid (Bytes V1 a2 n2) := bytes_mono HY2.out HS.out.2.2.2
  refine (drawProgText_any a2 n2 cap2 V1 HYV.out hc2 hn2).mono ?_
  rintro e w2 ⟨qr, cv2, bv2, rfl, hI2, hB2, hb2⟩
  obtain ⟨ac2, cc2, rfl, _⟩ := hI2.shape
  obtain ⟨ab2, cb2, rfl, _⟩ := hB2.shape
  have HT : Hid (PBox (w2.alloc (.cells #[.slice ac2 qr.cells.length cc2, .slice ab2 qr.bodies.length cb2] 26)) w2.heap.size (.slice ac2 qr.cells.length cc2) (.slice ab2 qr.bodies.length cb2) ∧ IntsAt (w2.alloc (.cells #[.slice ac2 qr.cells.length cc2, .slice ab2 qr.bodies.length cb2] 26)) (.slice ac2 qr.cells.length cc2) qr.cells ∧ BodiesAt (w2.alloc (.cells #[.slice ac2 qr.cells.length cc2, .slice ab2 qr.bodies.length cb2] 26)) (.slice ab2 qr.bodies.length cb2) qr.bodies ∧ Below V1.heap.size V1 (w2.alloc (.cells #[.slice ac2 qr.cells.length cc2, .slice ab2 qr.bodies.length cb2] 26))) :=
    ⟨heap_alloc_new w2 _, hI2.mono ((Below.refl _ _).alloc (Nat.le_refl _) _), hB2.mono ((Below.refl _ _).alloc (Nat.le_refl _) _), hb2.alloc hb2.size _⟩
  have r0 : w2.cell? ⟨P1, 0, none⟩ = some (.slice ac pr.cells.length cc) := (hb2.cell (p := ⟨P1, 0, none⟩) HS.out.1.lt).trans HS.out.1.cells.1
  have r1 : w2.cell? ⟨P1, 1, none⟩ = some (.slice ab pr.bodies.length cb) := (hb2.cell (p := ⟨P1, 1, none⟩) HS.out.1.lt).trans HS.out.1.cells.2.1
  have hP1w : P1 < w2.heap.size := Nat.lt_of_lt_of_le HS.out.1.lt hb2.size
  clear hI2 hB2 hb2 HYV HY2
  go_wp2_with fail
  clear r0 r1 hP1w
  generalize w2.alloc (.cells #[.slice ac2 qr.cells.length cc2, .slice ab2 qr.bodies.length cb2] 26) = V at HT ⊢
  generalize w2.heap.size = P2 at HT ⊢
  have HP : Hid (PBox V P1 (.slice ac pr.cells.length cc) (.slice ab pr.bodies.length cb)) := HS.out.1.heap (HT.out.2.2.2.block _ HS.out.1.lt)
  have HI : Hid (IntsAt V (.slice ac pr.cells.length cc) pr.cells) := HS.out.2.1.mono HT.out.2.2.2
  have HB : Hid (BodiesAt V (.slice ab pr.bodies.length cb) pr.bodies) := HS.out.2.2.1.mono HT.out.2.2.2
  have HL : Hid (Below w.heap.size w V) := HS.out.2.2.2.trans (HT.out.2.2.2.mono HS.out.2.2.2.size)
  have HQ : Hid (PBox V P2 (.slice ac2 qr.cells.length cc2) (.slice ab2 qr.bodies.length cb2)) := HT.out.1
  have HI2 : Hid (IntsAt V (.slice ac2 qr.cells.length cc2) qr.cells) := HT.out.2.1
  have HB2 : Hid (BodiesAt V (.slice ab2 qr.bodies.length cb2) qr.bodies) := HT.out.2.2.1
  clear HS HT
  obtain ⟨p0, p1, _, _⟩ := HP.out.cells
  obtain ⟨q0, q1, _, _⟩ := HQ.out.cells
  have hPl := HP.out.lt
  have hQl := HQ.out.lt
  have hsz := HL.out.size
  obtain ⟨A, hA⟩ : ∃ A, A = bs (txT pr) := ⟨_, rfl⟩
  obtain ⟨B, hB⟩ : ∃ B, B = bs (txT qr) := ⟨_, rfl⟩
  have HA := (show Hid (A = _) from hA)
  have HB' := (show Hid (B = _) from hB)
  clear hA hB
  have box : ∀ w', Below V.heap.size V w' → w'.cell? ⟨P1, 0, none⟩ = some (.slice ac pr.cells.length cc) ∧ w'.cell? ⟨P1, 1, none⟩ = some (.slice ab pr.bodies.length cb) ∧ w'.cell? ⟨P2, 0, none⟩ = some (.slice ac2 qr.cells.length cc2) ∧ w'.cell? ⟨P2, 1, none⟩ = some (.slice ab2 qr.bodies.length cb2) := fun w' hb =>
    ⟨(hb.cell (p := ⟨P1, 0, none⟩) hPl).trans p0, (hb.cell (p := ⟨P1, 1, none⟩) hPl).trans p1, (hb.cell (p := ⟨P2, 0, none⟩) hQl).trans q0, (hb.cell (p := ⟨P2, 1, none⟩) hQl).trans q1⟩
  have BOX := (show Hid (∀ w', Below V.heap.size V w' → _) from box)
  clear box
  refine (progText_any pr _ _ _ HI.out HB.out).mono ?_
  rintro e w3 ⟨rfl, hb3⟩
  rw [← HA.out]
  obtain ⟨x0, x1, x2, x3⟩ := BOX.out w3 hb3
  have H3 := (show Hid (Below V.heap.size V w3) from hb3)
  clear hb3
  go_wp2_with fail
  refine (progText_any qr _ _ _ (HI2.out.mono H3.out) (HB2.out.mono H3.out)).mono ?_
  rintro e w4 ⟨rfl, hb4⟩
  rw [← HB'.out]
  have H4 := (show Hid (Below V.heap.size V w4) from H3.out.trans (hb4.mono H3.out.size))
  obtain ⟨y0, y1, y2, y3⟩ := BOX.out w4 H4.out
  clear hb4 x0 x1 x2 x3 H3
  go_wp2_with fail
  refine (sProgText_any pr _ _ _ (HI.out.mono H4.out) (HB.out.mono H4.out)).mono ?_
  rintro e w5 ⟨rfl, hb5⟩
  rw [← HA.out]
  have H5 := (show Hid (Below V.heap.size V w5) from H4.out.trans (hb5.mono H4.out.size))
  obtain ⟨x0, x1, x2, x3⟩ := BOX.out w5 H5.out
  clear hb5 y0 y1 y2 y3 H4
  go_wp2_with fail
  refine (sProgText_any qr _ _ _ (HI2.out.mono H5.out) (HB2.out.mono H5.out)).mono ?_
  rintro e w6 ⟨rfl, hb6⟩
  rw [← HB'.out]
  have H6 := (show Hid (Below V.heap.size V w6) from H5.out.trans (hb6.mono H5.out.size))
  obtain ⟨y0, y1, y2, y3⟩ := BOX.out w6 H6.out
  clear hb6 x0 x1 x2 x3 H5
  cases hop : okB pr
  · obtain rfl : A = ByteArray.mk #[] := by rw [HA.out]; unfold txT; rw [hop]; rfl
    clear hop
    go_wp2_with fail
    refine (sProgText_any pr _ _ _ (HI.out.mono H6.out) (HB.out.mono H6.out)).mono ?_
    rintro e w7 ⟨rfl, hb7⟩
    rw [← HA.out]
    have H7 := (show Hid (Below V.heap.size V w7) from H6.out.trans (hb7.mono H6.out.size))
    obtain ⟨x0, x1, x2, x3⟩ := BOX.out w7 H7.out
    clear hb7 y0 y1 y2 y3 H6
    go_wp2_with fail
    refine (sProgText_any qr _ _ _ (HI2.out.mono H7.out) (HB2.out.mono H7.out)).mono ?_
    rintro e w8 ⟨rfl, hb8⟩
    rw [← HB'.out]
    have H8 := (show Hid (Below V.heap.size V w8) from H7.out.trans (hb8.mono H7.out.size))
    clear hb8 x0 x1 x2 x3 H7
    go_wp2_with fail
    go_ret
    exact ⟨rfl, HL.out.trans (H8.out.mono HL.out.size)⟩
  have HOP := (show Hid (okB pr = true) from hop)
  have HTA : Hid (txT pr = prT pr) := by unfold txT; rw [hop]; exact (rfl : _ = _)
  have hA2 : A.toList ≠ [] := by rw [HA.out, bs_list, HTA.out]; exact prT_ne pr
  have hA1 : (A.toList == []) = false := by simp [hA2]
  clear hop
  cases hoq : okB qr
  · obtain rfl : B = ByteArray.mk #[] := by rw [HB'.out]; unfold txT; rw [hoq]; rfl
    clear hoq
    go_wp2_with fail
    refine (sProgText_any pr _ _ _ (HI.out.mono H6.out) (HB.out.mono H6.out)).mono ?_
    rintro e w7 ⟨rfl, hb7⟩
    rw [← HA.out]
    have H7 := (show Hid (Below V.heap.size V w7) from H6.out.trans (hb7.mono H6.out.size))
    obtain ⟨x0, x1, x2, x3⟩ := BOX.out w7 H7.out
    clear hb7 y0 y1 y2 y3 H6
    go_wp2_with fail
    refine (sProgText_any qr _ _ _ (HI2.out.mono H7.out) (HB2.out.mono H7.out)).mono ?_
    rintro e w8 ⟨rfl, hb8⟩
    rw [← HB'.out]
    have H8 := (show Hid (Below V.heap.size V w8) from H7.out.trans (hb8.mono H7.out.size))
    clear hb8 x0 x1 x2 x3 H7
    go_wp2_with fail
    go_ret
    exact ⟨rfl, HL.out.trans (H8.out.mono HL.out.size)⟩
  have HOQ := (show Hid (okB qr = true) from hoq)
  have HTB : Hid (txT qr = prT qr) := by unfold txT; rw [hoq]; exact (rfl : _ = _)
  have hB2 : B.toList ≠ [] := by rw [HB'.out, bs_list, HTB.out]; exact prT_ne qr
  have hB1 : (B.toList == []) = false := by simp [hB2]
  clear hoq
  by_cases heq : pr = qr
  · have HE : Hid (isT (pr = qr) = true) := isT_yes heq
    obtain rfl : A = B := by rw [HA.out, HB'.out, heq]
    clear heq
    go_wp2_with fail
    refine (lqProg_any pr qr _ _ _ _ _ (HI.out.mono H6.out) (HB.out.mono H6.out) (HI2.out.mono H6.out) (HB2.out.mono H6.out)).mono ?_
    rintro e w7 ⟨rfl, hb7⟩
    rw [HE.out]
    have H7 := (show Hid (Below V.heap.size V w7) from H6.out.trans (hb7.mono H6.out.size))
    clear hb7
    go_wp2_with fail
    go_ret
    exact ⟨rfl, HL.out.trans (H7.out.mono HL.out.size)⟩
  · have HE : Hid (isT (pr = qr) = false) := isT_no heq
    have hAB2 : A.toList ≠ B.toList := fun e => heq (by
      rw [HA.out, HB'.out, bs_list, bs_list, HTA.out, HTB.out] at e
      exact prT_inj HOP.out HOQ.out e)
    have hAB1 : (A.toList == B.toList) = false := by simp [hAB2]
    clear heq
    go_wp2_with fail
    refine (lqProg_any pr qr _ _ _ _ _ (HI.out.mono H6.out) (HB.out.mono H6.out) (HI2.out.mono H6.out) (HB2.out.mono H6.out)).mono ?_
    rintro e w7 ⟨rfl, hb7⟩
    rw [HE.out]
    have H7 := (show Hid (Below V.heap.size V w7) from H6.out.trans (hb7.mono H6.out.size))
    clear hb7
    go_wp2_with fail
    go_ret
    exact ⟨rfl, HL.out.trans (H7.out.mono HL.out.size)⟩

end Go.Proofs.YtcogmecnannenaaDoor
