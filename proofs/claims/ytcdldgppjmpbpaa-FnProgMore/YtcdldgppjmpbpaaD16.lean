import Derived.Test.YtcdldgppjmpbpaaD15
namespace Go.Proofs.Ytcdldgppjmpbpaa
open Go.RowKit
set_option linter.unusedSimpArgs false
set_option linter.unusedVariables false

set_option maxHeartbeats 1000000 in
theorem drawProgTree_any (a : Option Addr) (n cap : Nat) (w : World) (h : Bytes w a n) (hc : n ≤ cap) (hn : cap ≤ 9223372036854775807) :
    Calls Try.prog 8 #[.slice a n cap] w fun e w' => ∃ (pr : Pr) (cv bv : Value) (body : Int), e = .returned (.tuple #[.agg #[cv, bv], .int .i64 body]) ∧ IntsAt w' cv pr.cells ∧ BodiesAt w' bv pr.bodies ∧ pr.bodies.length ≤ 10 ∧ Below w.heap.size w w' := by
  have HY : Hid (Bytes (w.alloc (.cells #[.slice none 0 0, .slice none 0 0] 26)) a n) := fun i hi => by
    obtain ⟨b, off, u, e, h1, h2, h3, h4⟩ := h i hi
    exact ⟨b, off, u, e, by simp; omega, h2, h3, by rw [World.cell?_alloc_past _ _ _ h1]; exact h4⟩
  have HG0 : Hid (PBox (w.alloc (.cells #[.slice none 0 0, .slice none 0 0] 26)) w.heap.size (.slice none 0 0) (.slice none 0 0)) := heap_alloc_new w _
  clear h
  go_enter Try.func8, Try.ntmps8
  go_wp2_with (first
    | (go_at_call 17; refine (l6Open_any a n cap _ HY.out hc hn).mono ?_; rintro e w0 ⟨rfl, hR0, hB0⟩; obtain ⟨R, hRe⟩ : ∃ R, R = (w.alloc (.cells #[.slice none 0 0, .slice none 0 0] 26)).heap.size := ⟨_, rfl⟩; have hRw : w.heap.size < R := (by rw [hRe]; simp); rw [← hRe] at hR0; rw [← hRe]; have HR0 : Hid (RdAt (R + 1) w0 R 0) := hR0; have hle0 : R + 1 ≤ w0.heap.size := hR0.le; have HG1 : Hid (PBox w0 w.heap.size (.slice none 0 0) (.slice none 0 0)) := HG0.out.heap (hB0.block _ HG0.out.lt); have HF0 : Hid (Fr R w.heap.size w w0) := (Fr.of_below ((Below.refl _ _).alloc (Nat.le_refl _) _)).trans (Fr.of_below (hB0.mono (by simp))); clear hR0 hB0 HY HG0 hRe)
    | (go_at_call 18; refine (l71Any_any (R + 1) R 0 w0 HR0.out (by omega)).mono ?_; rintro e w1 ⟨pr, cv, bv, p1, rfl, hI, hBs, hl10, a1, a2, hR1, hF1⟩; have HI1 : Hid (IntsOn (fun b => w0.heap.size ≤ b) w1 cv pr.cells) := hI; have HB1 : Hid (BodiesOn (fun b => w0.heap.size ≤ b) w1 bv pr.bodies) := hBs; have HR1 : Hid (RdAt (R + 1) w1 R p1) := hR1; have HF1 : Hid (Fr R w.heap.size w w1) := HF0.out.trans (hF1.mono (by omega)); have HG2 : Hid (PBox w1 w.heap.size (.slice none 0 0) (.slice none 0 0)) := HG1.out.fr hF1 (by omega); have hs1 : w0.heap.size ≤ w1.heap.size := hF1.size; obtain ⟨ac, cc, hcv, _⟩ := hI.shape; obtain ⟨ab, cb, hbv, _⟩ := hBs.shape; clear hI hBs hR1 hF1; subst hcv hbv)
    )
  have HS2 : Hid (PBox (w1.alloc (.cells #[.slice ac pr.cells.length cc, .slice ab pr.bodies.length cb] 26)) w1.heap.size (.slice ac pr.cells.length cc) (.slice ab pr.bodies.length cb) ∧ PBox (w1.alloc (.cells #[.slice ac pr.cells.length cc, .slice ab pr.bodies.length cb] 26)) w.heap.size (.slice none 0 0) (.slice none 0 0) ∧ IntsOn (fun b => w0.heap.size ≤ b) (w1.alloc (.cells #[.slice ac pr.cells.length cc, .slice ab pr.bodies.length cb] 26)) (.slice ac pr.cells.length cc) pr.cells ∧ BodiesOn (fun b => w0.heap.size ≤ b) (w1.alloc (.cells #[.slice ac pr.cells.length cc, .slice ab pr.bodies.length cb] 26)) (.slice ab pr.bodies.length cb) pr.bodies ∧ RdAt (R + 1) (w1.alloc (.cells #[.slice ac pr.cells.length cc, .slice ab pr.bodies.length cb] 26)) R p1 ∧ Fr R w.heap.size w (w1.alloc (.cells #[.slice ac pr.cells.length cc, .slice ab pr.bodies.length cb] 26))) :=
    ⟨heap_alloc_new w1 _, HG2.out.alloc _, HI1.out.kept (Kept.below ((Below.refl _ _).alloc (Nat.le_refl _) _)), HB1.out.kept (Kept.below ((Below.refl _ _).alloc (Nat.le_refl _) _)), HR1.out.below ((Below.refl _ _).alloc HR1.out.le _), HF1.out.alloc HF1.out.size _⟩
  clear HI1 HB1 HR1 HF1 HG2 HG1 HF0 HR0
  have hPw : w0.heap.size ≤ w1.heap.size := hs1
  generalize w1.alloc (.cells #[.slice ac pr.cells.length cc, .slice ab pr.bodies.length cb] 26) = w2 at HS2 ⊢
  generalize w1.heap.size = P at HS2 hPw hs1 ⊢
  obtain ⟨hP2, hG2, hI2, hB2, hR2, hF2⟩ := HS2.out
  have HRd : Hid (RdAt (R + 1) w2.drew R p1) := hR2.below (Below.refl _ _).drew
  have HP2 := (show Hid (PBox _ _ _ _) from hP2)
  have HG2 := (show Hid (PBox _ _ _ _) from hG2)
  have HI2 := (show Hid (IntsOn _ _ _ _) from hI2)
  have HB2 := (show Hid (BodiesOn _ _ _ _) from hB2)
  have HF2 := (show Hid (Fr _ _ _ _) from hF2)
  clear HS2 hP2 hG2 hI2 hB2 hR2 hF2
  obtain ⟨e0, e1, _, _⟩ := HP2.out.cells
  have hPG : w.heap.size ≠ P := by omega
  have l2 := HP2.out.lt
  have hwr : IntKind.i64.wrap ((pr.bodies.length : Int) + 1) = (pr.bodies.length : Int) + 1 := by rw [IntKind.wrap_i64]; omega
  go_region_held3 (fun w' => w'.cell? ⟨P, 0, none⟩ = some (.slice ac pr.cells.length cc) ∧ w'.cell? ⟨P, 1, none⟩ = some (.slice ab pr.bodies.length cb)) (first | exact ⟨e50, e51⟩ | exact ⟨e30, e31⟩ | exact ⟨e0, e1⟩ | go_keep)
    (first
      | (go_at_call 19; refine (pick_any (R + 1) R (p1 + 1) _ _ HR3.out (by omega) (by omega) (by omega)).mono ?_; rintro e w5 ⟨q5, rfl, q50, q51, hR5, hF5⟩; have HP5 : Hid (PBox w5 P (.slice ac pr.cells.length cc) (.slice ab pr.bodies.length cb)) := HP3.out.fr hF5 (by omega); have HG5 : Hid (PBox w5 w.heap.size (.slice none 0 0) (.slice none 0 0)) := HG3.out.fr hF5 (by omega); have HF5 : Hid (Fr R w.heap.size w w5) := HF3.out.trans (hF5.mono (by omega)); have HI5 : Hid (IntsOn (fun b => w0.heap.size ≤ b) w5 (.slice ac pr.cells.length cc) pr.cells) := HI3.out.kept ⟨hF5.size, fun b o hb hlt => hF5.cell hlt (by have : w0.heap.size ≤ b := hb; omega)⟩; have HB5 : Hid (BodiesOn (fun b => w0.heap.size ≤ b) w5 (.slice ab pr.bodies.length cb) pr.bodies) := HB3.out.kept ⟨hF5.size, fun b o hb hlt => hF5.cell hlt (by have : w0.heap.size ≤ b := hb; omega)⟩; obtain ⟨e50, e51, _, _⟩ := HP5.out.cells; obtain ⟨g0, g1, k0, k1⟩ := HG5.out.cells; have l5 := HP5.out.lt; have l6 := HG5.out.lt; clear hR5 hF5)
      | (go_at_call 19; refine (pick_any (R + 1) R p1 _ _ HRd.out (by omega) (by omega) (by omega)).mono ?_; rintro e w3 ⟨q3, rfl, q30, q31, hR3, hF3⟩; have HX3 : Hid (Fr R w2.heap.size w2 w3) := (Fr.of_below (Below.refl _ _).drew).trans hF3; have HP3 : Hid (PBox w3 P (.slice ac pr.cells.length cc) (.slice ab pr.bodies.length cb)) := HP2.out.fr HX3.out (by omega); have HG3 : Hid (PBox w3 w.heap.size (.slice none 0 0) (.slice none 0 0)) := HG2.out.fr HX3.out (by omega); have HF3 : Hid (Fr R w.heap.size w w3) := HF2.out.trans (HX3.out.mono HF2.out.size); have HI3 : Hid (IntsOn (fun b => w0.heap.size ≤ b) w3 (.slice ac pr.cells.length cc) pr.cells) := HI2.out.kept ⟨HX3.out.size, fun b o hb hlt => HX3.out.cell hlt (by have : w0.heap.size ≤ b := hb; omega)⟩; have HB3 : Hid (BodiesOn (fun b => w0.heap.size ≤ b) w3 (.slice ab pr.bodies.length cb) pr.bodies) := HB2.out.kept ⟨HX3.out.size, fun b o hb hlt => HX3.out.cell hlt (by have : w0.heap.size ≤ b := hb; omega)⟩; have HR3 : Hid (RdAt (R + 1) w3 R (p1 + 1)) := hR3; obtain ⟨e30, e31, _, _⟩ := HP3.out.cells; have l3 := HP3.out.lt; have hs3 := HF3.out.size; clear hR3 hF3))
  generalize IntKind.i64.wrap (q3 - IntKind.i64.wrap (q5.tdiv 8)) = body
  have hz := ((HG5.out.set0 (.slice ac pr.cells.length cc)).set1 (.slice ab pr.bodies.length cb)).cells
  have S5 : Kept (fun b => w0.heap.size ≤ b) w5 (w5.setCell ⟨w.heap.size, 0, none⟩ (.slice ac pr.cells.length cc)) := Kept.set _ _ _ _ (fun h => by have : w0.heap.size ≤ w.heap.size := h; omega)
  have S6 : Kept (fun b => w0.heap.size ≤ b) (w5.setCell ⟨w.heap.size, 0, none⟩ (.slice ac pr.cells.length cc)) ((w5.setCell ⟨w.heap.size, 0, none⟩ (.slice ac pr.cells.length cc)).setCell ⟨w.heap.size, 1, none⟩ (.slice ab pr.bodies.length cb)) := Kept.set _ _ _ _ (fun h => by have : w0.heap.size ≤ w.heap.size := h; omega)
  have KEY : Hid (IntsAt ((w5.setCell ⟨w.heap.size, 0, none⟩ (.slice ac pr.cells.length cc)).setCell ⟨w.heap.size, 1, none⟩ (.slice ab pr.bodies.length cb)) (.slice ac pr.cells.length cc) pr.cells ∧ BodiesAt ((w5.setCell ⟨w.heap.size, 0, none⟩ (.slice ac pr.cells.length cc)).setCell ⟨w.heap.size, 1, none⟩ (.slice ab pr.bodies.length cb)) (.slice ab pr.bodies.length cb) pr.bodies ∧ Below w.heap.size w ((w5.setCell ⟨w.heap.size, 0, none⟩ (.slice ac pr.cells.length cc)).setCell ⟨w.heap.size, 1, none⟩ (.slice ab pr.bodies.length cb))) :=
    ⟨((HI5.out.kept S5).kept S6).at, ((HB5.out.kept S5).kept S6).at, ((HF5.out.setCell (.inl (by simp)) _).setCell (.inl (by simp)) _).below (by omega)⟩
  have HZ := (show Hid (_ ∧ _) from hz)
  clear hz S5 S6 e0 e1 e30 e31 e50 e51 g0 g1 k0 k1
  go_wp2_with fail
  have hz := HZ.out
  refine bodyPost_ret (v := .tuple #[.agg #[.slice ac pr.cells.length cc, .slice ab pr.bodies.length cb], .int .i64 body]) (by simp [results, Try.results8, go_sem, hz.1, hz.2.1]) rfl ?_
  exact ⟨pr, _, _, body, rfl, KEY.out.1, KEY.out.2.1, hl10, KEY.out.2.2⟩

end Go.Proofs.Ytcdldgppjmpbpaa
