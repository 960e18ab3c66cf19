import Derived.Test.YtcdldgppjmpbpaaD17
import Derived.Test.YtcdldgppjmpbpaaD23
namespace Go.Proofs.Ytcdldgppjmpbpaa
open Go.RowKit
set_option linter.unusedSimpArgs false
set_option linter.unusedVariables false

set_option maxHeartbeats 2000000 in
theorem fnProgMore_walk (a : Option Addr) (n cap : Nat) (w : World) (h : Bytes w a n) (hc : n ≤ cap) (hn : cap ≤ 9223372036854775807) :
    Calls Try.prog 4 #[.slice a n cap] w fun e w' => e = .returned (.bool true) ∧ Below w.heap.size w w' := by
  by_cases hbig : 1048576 < n
  · have hb' : (1048576 : Int) < (n : Int) := by omega
    clear h
    go_enter Try.func4, Try.ntmps4
    go_wp2_with fail
    go_ret
    exact ⟨rfl, Below.refl _ _⟩
  have hb' : ¬ (1048576 : Int) < (n : Int) := by omega
  have HY := (show Hid (Bytes _ _ _) from h)
  clear h
  go_enter Try.func4, Try.ntmps4
  go_wp2_with (go_at_call 11; refine (drawProgOk_any a n cap w HY.out hc hn).mono ?_; rintro e w1 ⟨pr, cv, bv, rfl, hI, hB, hl10, hb1⟩; have HI1 : Hid (IntsAt w1 cv pr.cells) := hI; have HB1 : Hid (BodiesAt w1 bv pr.bodies) := hB; have HL1 : Hid (Below w.heap.size w w1) := hb1; obtain ⟨ac, cc, hcv, _⟩ := hI.shape; obtain ⟨ab, cb, hbv, _⟩ := hB.shape; subst hcv hbv; clear hI hB hb1)
  have HS : Hid (PBox (w1.alloc (.cells #[.slice ac pr.cells.length cc, .slice ab pr.bodies.length cb] 26)) w1.heap.size (.slice ac pr.cells.length cc) (.slice ab pr.bodies.length cb) ∧ IntsAt (w1.alloc (.cells #[.slice ac pr.cells.length cc, .slice ab pr.bodies.length cb] 26)) (.slice ac pr.cells.length cc) pr.cells ∧ BodiesAt (w1.alloc (.cells #[.slice ac pr.cells.length cc, .slice ab pr.bodies.length cb] 26)) (.slice ab pr.bodies.length cb) pr.bodies ∧ Below w.heap.size w (w1.alloc (.cells #[.slice ac pr.cells.length cc, .slice ab pr.bodies.length cb] 26))) :=
    ⟨heap_alloc_new w1 _, HI1.out.mono ((Below.refl _ _).alloc (Nat.le_refl _) _), HB1.out.mono ((Below.refl _ _).alloc (Nat.le_refl _) _), HL1.out.alloc HL1.out.size _⟩
  clear HI1 HB1 HL1 HY
  generalize w1.alloc (.cells #[.slice ac pr.cells.length cc, .slice ab pr.bodies.length cb] 26) = V at HS ⊢
  generalize w1.heap.size = P at HS ⊢
  obtain ⟨hP, hI, hB, hL⟩ := HS.out
  have hPlt := hP.lt
  obtain ⟨e0, e1, _, _⟩ := hP.cells
  have HI := (show Hid (IntsAt _ _ _) from hI)
  have HB := (show Hid (BodiesAt _ _ _) from hB)
  have HL := (show Hid (Below _ _ _) from hL)
  have hsz := hL.size
  have HPX := (show Hid (PBox _ _ _ _) from hP)
  clear HS hP hI hB hL
  cases hok : okB pr
  · have HT := (show Hid (okB pr = false) from hok)
    clear hok
    refine (progOk_any pr _ _ _ HI.out HB.out).mono ?_
    rintro e w2 ⟨he, hb2⟩
    rw [HT.out] at he
    subst he
    have c20 : w2.cell? ⟨P, 0, none⟩ = some (.slice ac pr.cells.length cc) := (hb2.cell (p := ⟨P, 0, none⟩) hPlt).trans e0
    have c21 : w2.cell? ⟨P, 1, none⟩ = some (.slice ab pr.bodies.length cb) := (hb2.cell (p := ⟨P, 1, none⟩) hPlt).trans e1
    have H2 := (show Hid (Below _ _ _) from hb2)
    clear hb2
    go_wp2_with fail
    refine (sProgOk_any pr _ _ _ (HI.out.mono H2.out) (HB.out.mono H2.out)).mono ?_
    rintro e w3 ⟨he, hb3⟩
    rw [HT.out] at he
    subst he
    have H3 : Hid (Below V.heap.size V w3) := H2.out.trans (hb3.mono H2.out.size)
    have c30 : w3.cell? ⟨P, 0, none⟩ = some (.slice ac pr.cells.length cc) := (H3.out.cell (p := ⟨P, 0, none⟩) hPlt).trans e0
    have c31 : w3.cell? ⟨P, 1, none⟩ = some (.slice ab pr.bodies.length cb) := (H3.out.cell (p := ⟨P, 1, none⟩) hPlt).trans e1
    clear hb3
    go_wp2_with fail
    refine (sProgOk_any pr _ _ _ (HI.out.mono H3.out) (HB.out.mono H3.out)).mono ?_
    rintro e w4 ⟨he, hb4⟩
    rw [HT.out] at he
    subst he
    have H4 : Hid (Below w.heap.size w w4) := HL.out.trans ((H3.out.mono hsz).trans (hb4.mono (Nat.le_trans hsz H3.out.size)))
    clear hb4
    go_wp2_with fail
    go_ret
    exact ⟨rfl, H4.out⟩
  · obtain ⟨hform, hb1', htop⟩ := ok_form hok
    have HT := (show Hid (okB pr = true) from hok)
    have HF := (show Hid (Form pr) from hform)
    have hb4 := hform.1
    clear hok hform
    refine (progOk_any pr _ _ _ HI.out HB.out).mono ?_
    rintro e w2 ⟨he, hb2⟩
    rw [HT.out] at he
    subst he
    have c20 : w2.cell? ⟨P, 0, none⟩ = some (.slice ac pr.cells.length cc) := (hb2.cell (p := ⟨P, 0, none⟩) hPlt).trans e0
    have c21 : w2.cell? ⟨P, 1, none⟩ = some (.slice ab pr.bodies.length cb) := (hb2.cell (p := ⟨P, 1, none⟩) hPlt).trans e1
    have H2 := (show Hid (Below _ _ _) from hb2)
    clear hb2
    go_wp2_with fail
    refine (sProgOk_any pr _ _ _ (HI.out.mono H2.out) (HB.out.mono H2.out)).mono ?_
    rintro e w3 ⟨he, hb3⟩
    rw [HT.out] at he
    subst he
    have H3 : Hid (Below V.heap.size V w3) := H2.out.trans (hb3.mono H2.out.size)
    have hbx : PBox w3 P (.slice ac pr.cells.length cc) (.slice ab pr.bodies.length cb) := HPX.out.heap (H3.out.block _ hPlt)
    have HI3 : Hid (IntsAt w3 (.slice ac pr.cells.length cc) pr.cells) := HI.out.mono H3.out
    obtain ⟨N, b, off, cap', hNl, hbv, hbl, h1c, hsr, hin⟩ := bodies_src (HB.out.mono H3.out) (by omega)
    injection hbv with ev1 ev2 ev3
    subst ev1 ev3
    have HPB : Hid (PBox w3 P (.slice ac pr.cells.length cc) (.slice (some ⟨b, off, none⟩) pr.bodies.length cb)) := hbx
    have HNL := (show Hid (N.length = pr.bodies.length) from hNl)
    have H1C := (show Hid (∀ u, u ∈ N → u.oneCell' = true) from h1c)
    have HSR := (show Hid (∀ j u, N[j]? = some u → w3.cell? ((⟨b, off, none⟩ : Addr).add j) = some u) from hsr)
    have HIN := (show Hid (∀ i, (hi : i < N.length) → ActsAt w3 N[i] (nth [] pr.bodies i)) from hin)
    have HQm : Hid (okB ⟨pr.cells, pr.bodies ++ [[]]⟩ = decide (pr.bodies.length < 4)) := okB_more HT.out
    have hPl3 := hbx.lt
    clear hb3 c20 c21 H2 hbx hNl h1c hsr hin e0 e1
    go_wp2_with fail
    refine more_reg7 w3 P ac pr.cells.length cc b off cb pr.bodies.length N HPB HNL H1C HSR hbl (by omega) (by omega) _ _ _ _ _ _ _ _ _ _ _ _ _ _ _ _ _ _ _ _ _ _ _ _ _ _ _ _ _ _ _ _ _ _ _ _ _ _ _ _ _ _ _ _ _ _ _ _ _ _ ?_
    intro v26 v27 v28 v29 v30 v31 v32 v33 v34 W G g7 c7 hG hbx hrow hbel
    have HB7 : Hid (BodiesAt W (.slice (some ⟨g7, 0, none⟩) (pr.bodies.length + 1) c7) (pr.bodies ++ [[]])) := bodies_more hrow HNL.out HIN.out hbel
    have HI7 : Hid (IntsAt W (.slice ac pr.cells.length cc) pr.cells) := HI3.out.mono hbel
    have HL7 : Hid (Below V.heap.size V W) := H3.out.trans (hbel.mono H3.out.size)
    have HPW : Hid (PBox W P (.slice ac pr.cells.length cc) (.slice (some ⟨b, off, none⟩) pr.bodies.length cb)) := HPB.out.heap (hbel.block _ hPl3)
    obtain ⟨p0, p1, _, _⟩ := HPW.out.cells
    have hPW := HPW.out.lt
    have HGX := (show Hid (PBox W G _ _) from hbx)
    have hGW := hbx.lt
    clear hG hbx hrow hbel HPB HSR HIN H1C HNL HI3 H3
    go_wp2_with fail
    have HS8 : Hid (PBox (W.alloc (.cells #[.slice ac pr.cells.length cc, .slice none 0 0] 26)) P (.slice ac pr.cells.length cc) (.slice (some ⟨b, off, none⟩) pr.bodies.length cb) ∧ PBox (W.alloc (.cells #[.slice ac pr.cells.length cc, .slice none 0 0] 26)) G (.slice ac pr.cells.length cc) (.slice (some ⟨g7, 0, none⟩) (pr.bodies.length + 1) c7) ∧ PBox (W.alloc (.cells #[.slice ac pr.cells.length cc, .slice none 0 0] 26)) W.heap.size (.slice ac pr.cells.length cc) (.slice none 0 0) ∧ IntsAt (W.alloc (.cells #[.slice ac pr.cells.length cc, .slice none 0 0] 26)) (.slice ac pr.cells.length cc) pr.cells ∧ BodiesAt (W.alloc (.cells #[.slice ac pr.cells.length cc, .slice none 0 0] 26)) (.slice (some ⟨g7, 0, none⟩) (pr.bodies.length + 1) c7) (pr.bodies ++ [[]]) ∧ Below V.heap.size V (W.alloc (.cells #[.slice ac pr.cells.length cc, .slice none 0 0] 26))) :=
      ⟨HPW.out.alloc _, HGX.out.alloc _, heap_alloc_new W _, HI7.out.mono ((Below.refl _ _).alloc (Nat.le_refl _) _), HB7.out.mono ((Below.refl _ _).alloc (Nat.le_refl _) _), HL7.out.alloc HL7.out.size _⟩
    clear HPW HGX HI7 HB7 HL7 p0 p1 hPW hGW
    generalize W.alloc (.cells #[.slice ac pr.cells.length cc, .slice none 0 0] 26) = W8 at HS8 ⊢
    generalize W.heap.size = G2 at HS8 ⊢
    obtain ⟨hp8, hg8, hg28, hi8, hb8, hl8⟩ := HS8.out
    obtain ⟨_, q1, _, _⟩ := hp8.cells
    obtain ⟨g0, g1, _, _⟩ := hg8.cells
    obtain ⟨k0, k1, _, _⟩ := hg28.cells
    have hP8 := hp8.lt
    have hG8 := hg8.lt
    have hG28 := hg28.lt
    have HI8 := (show Hid (IntsAt _ _ _) from hi8)
    have HB8 := (show Hid (BodiesAt _ _ _) from hb8)
    have HL8 := (show Hid (Below _ _ _) from hl8)
    have HBn : Hid (BodiesAt W8 (.slice none 0 0) []) := ⟨none, 0, rfl, by simp, fun j hj => absurd hj (by simp)⟩
    have HNn : Hid (okB ⟨pr.cells, []⟩ = false) := okB_none pr.cells
    clear HS8 hp8 hg8 hg28 hi8 hb8 hl8
    by_cases h4 : pr.bodies.length < 4
    · have h4' : (pr.bodies.length : Int) < 4 := by omega
      have HQq : Hid (okB ⟨pr.cells, pr.bodies ++ [[]]⟩ = true) := HQm.out.trans (by simp [h4])
      refine more_reg9_true W8 ⟨pr.cells, pr.bodies ++ [[]]⟩ ⟨pr.cells, []⟩ P G G2 pr.bodies.length cb _ _ _ _ _ HI8 HB8 HI8 HBn HQq HNn h4' q1 g0 g1 k0 k1 hP8 hG8 hG28 _ _ _ _ _ _ _ _ _ _ _ _ _ _ _ _ _ _ _ _ _ _ _ _ _ _ _ _ _ _ _ _ _ _ _ _ _ _ _ _ _ _ _ _ _ _ _ _ ?_
      intro v38 v39 v40 v41 v42 v43 v44 v45 v46 v47 v48 v49 V9 hb9
      have H9 : Hid (Below w.heap.size w V9) := HL.out.trans ((HL8.out.mono hsz).trans (hb9.mono (Nat.le_trans hsz HL8.out.size)))
      clear hb9
      go_wp2_with fail
      go_ret
      exact ⟨rfl, H9.out⟩
    · have h4' : ¬ (pr.bodies.length : Int) < 4 := by omega
      have HQq : Hid (okB ⟨pr.cells, pr.bodies ++ [[]]⟩ = false) := HQm.out.trans (by simp [h4])
      refine more_reg9_false W8 ⟨pr.cells, pr.bodies ++ [[]]⟩ ⟨pr.cells, []⟩ P G G2 pr.bodies.length cb _ _ _ _ _ HI8 HB8 HI8 HBn HQq HNn h4' q1 g0 g1 k0 k1 hP8 hG8 hG28 _ _ _ _ _ _ _ _ _ _ _ _ _ _ _ _ _ _ _ _ _ _ _ _ _ _ _ _ _ _ _ _ _ _ _ _ _ _ _ _ _ _ _ _ _ _ _ _ ?_
      intro v38 v39 v40 v41 v42 v43 v44 v45 v46 v47 v48 v49 V9 hb9
      have H9 : Hid (Below w.heap.size w V9) := HL.out.trans ((HL8.out.mono hsz).trans (hb9.mono (Nat.le_trans hsz HL8.out.size)))
      clear hb9
      go_wp2_with fail
      go_ret
      exact ⟨rfl, H9.out⟩

end Go.Proofs.Ytcdldgppjmpbpaa
