import Derived.Test.YtcdldgppjmpbpaaD14
import Derived.Deep.RegionHeld3
namespace Go.Proofs.Ytcdldgppjmpbpaa
open Go.RowKit
set_option linter.unusedSimpArgs false
set_option linter.unusedVariables false

/-- what a draw of a program out of bytes yields -/
def DrawnP (w : World) (e : Ending) (w' : World) : Prop :=
  ∃ (pr : Pr) (cv bv : Value), e = .returned (.agg #[cv, bv]) ∧ IntsAt w' cv pr.cells ∧ BodiesAt w' bv pr.bodies ∧ pr.bodies.length ≤ 10 ∧ Below w.heap.size w w'
theorem drawnP_of {B R p hi : Nat} {w : World} {e : Ending} {w' : World} (h : Drawn B R p hi w e w') (hR : w.heap.size ≤ R) : DrawnP w e w' := by
  obtain ⟨pr, cv, bv, p', he, h1, h2, h3, _, _, _, hf⟩ := h
  exact ⟨pr, cv, bv, he, h1.at, h2.at, h3, hf.below hR⟩
theorem drawn_fin' {B R p p' hi G : Nat} {w V : World} {cv bv : Value} {pr : Pr} (hGe : G = w.heap.size) (hlt : R < B) (hle : w.heap.size < B) (hG : PBox V G (.slice none 0 0) (.slice none 0 0)) (hR : RdAt B V R p') (hF : Fr R w.heap.size w V) (hc : IntsOn (fun b => b ≠ R ∧ b ≠ G) V cv pr.cells) (hb : BodiesOn (fun b => b ≠ R ∧ b ≠ G) V bv pr.bodies) (hl : pr.bodies.length ≤ 10) (hwR : w.heap.size ≤ R) :
    DrawnP w (.returned (.agg #[cv, bv])) ((V.setCell ⟨G, 0, none⟩ cv).setCell ⟨G, 1, none⟩ bv) := by
  have S5 : Kept (fun b => b ≠ R ∧ b ≠ G) V (V.setCell ⟨G, 0, none⟩ cv) := Kept.set _ _ _ _ (fun h => h.2 rfl)
  have S6 : Kept (fun b => b ≠ R ∧ b ≠ G) (V.setCell ⟨G, 0, none⟩ cv) ((V.setCell ⟨G, 0, none⟩ cv).setCell ⟨G, 1, none⟩ bv) := Kept.set _ _ _ _ (fun h => h.2 rfl)
  exact ⟨pr, cv, bv, rfl, ((hc.kept S5).kept S6).at, ((hb.kept S5).kept S6).at, hl, ((hF.setCell (.inl (by simp; omega)) _).setCell (.inl (by simp; omega)) _).below hwR⟩

set_option maxHeartbeats 1000000 in
theorem drawProgOk_any (a : Option Addr) (n cap : Nat) (w : World) (h : Bytes w a n) (hc : n ≤ cap) (hn : cap ≤ 9223372036854775807) :
    Calls Try.prog 11 #[.slice a n cap] w fun e w' => DrawnP w e w' := by
  have HY : Hid (Bytes (w.alloc (.cells #[.slice none 0 0, .slice none 0 0] 26)) a n) := fun i hi => by
    obtain ⟨b, off, u, e, h1, h2, h3, h4⟩ := h i hi
    exact ⟨b, off, u, e, by simp; omega, h2, h3, by rw [World.cell?_alloc_past _ _ _ h1]; exact h4⟩
  have HG0 : Hid (PBox (w.alloc (.cells #[.slice none 0 0, .slice none 0 0] 26)) w.heap.size (.slice none 0 0) (.slice none 0 0)) := heap_alloc_new w _
  clear h
  go_enter Try.func11, Try.ntmps11
  go_wp2_with (first
    | (go_at_call 17; refine (l6Open_any a n cap _ HY.out hc hn).mono ?_; rintro e w0 ⟨rfl, hR0, hB0⟩; obtain ⟨R, hRe⟩ : ∃ R, R = (w.alloc (.cells #[.slice none 0 0, .slice none 0 0] 26)).heap.size := ⟨_, rfl⟩; have hRw : w.heap.size < R := (by rw [hRe]; simp); rw [← hRe] at hR0; rw [← hRe]; have HR0 : Hid (RdAt (R + 1) w0 R 0) := hR0; have hle0 : R + 1 ≤ w0.heap.size := hR0.le; have HG1 : Hid (PBox w0 w.heap.size (.slice none 0 0) (.slice none 0 0)) := HG0.out.heap (hB0.block _ HG0.out.lt); have HF0 : Hid (Fr R w.heap.size w w0) := (Fr.of_below ((Below.refl _ _).alloc (Nat.le_refl _) _)).trans (Fr.of_below (hB0.mono (by simp))); clear hR0 hB0 HY HG0 hRe)
    | (go_at_call 24; refine (l71Prog_any (R + 1) R 0 w0 HR0.out (by omega)).mono ?_; rintro e w1 ⟨pr, cv, bv, p1, rfl, hO, hBs, hok, hc1, a1, a2, hR1, hF1⟩; obtain ⟨z1, z2, z3, z4⟩ := ok_sizes hok; have HZ : Hid (∀ i, i < pr.bodies.length → (nth [] pr.bodies i).length ≤ 4) := z4; have HO1 : Hid (OwnInt w0.heap.size w1 cv pr.cells) := hO; have HB1 : Hid (OwnBodies w0.heap.size w1 bv pr.bodies) := hBs; have HR1 : Hid (RdAt (R + 1) w1 R p1) := hR1; have HF1 : Hid (Fr R w.heap.size w w1) := HF0.out.trans (hF1.mono (by omega)); have HG2 : Hid (PBox w1 w.heap.size (.slice none 0 0) (.slice none 0 0)) := HG1.out.fr hF1 (by omega); have hs1 : w0.heap.size ≤ w1.heap.size := hF1.size; clear hO hBs hok hR1 hF1 z4; obtain ⟨ac, cc, hcv, _, _⟩ := own_shape HO1.out; obtain ⟨ab, cb, hbv, _⟩ := HB1.out.at.shape; subst hcv hbv; have HRP : Hid (RdAt (R + 1) (w1.alloc (.cells #[.slice ac pr.cells.length cc, .slice ab pr.bodies.length cb] 26)) R p1) := HR1.out.below ((Below.refl _ _).alloc HR1.out.le _); have HPP : Hid (PBox (w1.alloc (.cells #[.slice ac pr.cells.length cc, .slice ab pr.bodies.length cb] 26)) w1.heap.size (.slice ac pr.cells.length cc) (.slice ab pr.bodies.length cb)) := heap_alloc_new w1 _)
    | (go_at_call 19; refine (pick_any (R + 1) R p1 _ _ HRP.out (by omega) (by omega) (by omega)).mono ?_; rintro e w2 ⟨q, rfl, q0, q1, hR2, hF2⟩; have HX : Hid (Fr R w1.heap.size w1 w2) := (Fr.of_below ((Below.refl _ _).alloc (Nat.le_refl _) _)).trans (hF2.mono (by simp)); have HF2 : Hid (Fr R w.heap.size w w2) := HF1.out.trans (HX.out.mono (by omega)); have HO2 : Hid (OwnInt w0.heap.size w2 (.slice ac pr.cells.length cc) pr.cells) := own_fr HO1.out HX.out (by omega); have HB2 : Hid (OwnBodies w0.heap.size w2 (.slice ab pr.bodies.length cb) pr.bodies) := HB1.out.fr HX.out (by omega); have HG3 : Hid (PBox w2 w.heap.size (.slice none 0 0) (.slice none 0 0)) := HG2.out.fr HX.out (by omega); have HP2 : Hid (PBox w2 w1.heap.size (.slice ac pr.cells.length cc) (.slice ab pr.bodies.length cb)) := HPP.out.fr hF2 (by omega); have HR2 : Hid (RdAt (R + 1) w2 R (p1 + 1)) := hR2; have hs2 : w1.heap.size ≤ w2.heap.size := HX.out.size; obtain ⟨e0, e1, f0, f1⟩ := HP2.out.cells; obtain ⟨g0, g1, k0, k1⟩ := HG3.out.cells; have l1 := HP2.out.lt; have l2 := HG3.out.lt; clear hR2 hF2 HRP HPP HX HG1 HO1 HB1 HR1 HF1 HG2 HR0; rcases Decidable.em (q = 0) with rfl | hq)
    | (go_at_call 25; refine (l71Bent_any (fun b => b ≠ R ∧ b ≠ w.heap.size) (R + 1) R (p1 + 1) _ _ pr.cells pr.bodies w2 HR2.out (by omega) (fun b hb => hb.1) (fun b hb => ⟨by omega, by omega⟩) (HO2.out.on (fun b hb => ⟨by omega, by omega⟩)) (HB2.out.on (fun b hb => ⟨by omega, by omega⟩)) hc1 z1 z2 z3 HZ.out).mono ?_; rintro e w3 ⟨pr3, cv3, bv3, p3, rfl, hc3, hb3, hl3, b1, b2, hR3, hF3⟩; have HG4 : Hid (PBox w3 w.heap.size (.slice none 0 0) (.slice none 0 0)) := HG3.out.fr hF3 (by omega); have HF3 : Hid (Fr R w.heap.size w w3) := HF2.out.trans (hF3.mono (by omega)); have HR3 : Hid (RdAt (R + 1) w3 R p3) := hR3; have HC3 : Hid (IntsOn (fun b => b ≠ R ∧ b ≠ w.heap.size) w3 cv3 pr3.cells) := hc3; have HD3 : Hid (BodiesOn (fun b => b ≠ R ∧ b ≠ w.heap.size) w3 bv3 pr3.bodies) := hb3; obtain ⟨ac3, cc3, hcv3, _⟩ := hc3.shape; obtain ⟨ab3, cb3, hbv3, _⟩ := hb3.shape; subst hcv3 hbv3; obtain ⟨r0, r1, r2, r3⟩ := HG4.out.cells; have r4 := HG4.out.lt; clear hR3 hF3 hc3 hb3 e0 e1 f0 f1 g0 g1 k0 k1))
  · have hz := ((HG4.out.set0 (.slice ac3 pr3.cells.length cc3)).set1 (.slice ab3 pr3.bodies.length cb3)).cells
    refine bodyPost_ret (v := .agg #[.slice ac3 pr3.cells.length cc3, .slice ab3 pr3.bodies.length cb3]) (by simp [results, Try.results11, go_sem, hz.1, hz.2.1]) rfl ?_
    exact drawn_fin' (p := 0) (hi := 0) rfl (by omega) (by omega) HG4.out HR3.out HF3.out HC3.out HD3.out hl3 (by omega)
  · have hz := ((HG3.out.set0 (.slice ac pr.cells.length cc)).set1 (.slice ab pr.bodies.length cb)).cells
    refine bodyPost_ret (v := .agg #[.slice ac pr.cells.length cc, .slice ab pr.bodies.length cb]) (by simp [results, Try.results11, go_sem, hz.1, hz.2.1]) rfl ?_
    exact drawn_fin' (p := 0) (hi := 0) rfl (by omega) (by omega) HG3.out HR2.out HF2.out (HO2.out.on (fun b hb => ⟨by omega, by omega⟩)) (HB2.out.on (fun b hb => ⟨by omega, by omega⟩)) (by omega) (by omega)

end Go.Proofs.Ytcdldgppjmpbpaa
