import Derived.Test.YtgbgjljflgbcaaaNe20
import Derived.Test.YtgbgjljflgbcaaaNe15
import Derived.Test.YtgbgjljflgbcaaaNe13
namespace Go.Proofs.Ytgbgjljflgbcaaa
open Go.RowKit
set_option linter.unusedSimpArgs false
set_option linter.unusedVariables false
theorem ok_sizes {p : Pr} (h : okB p = true) : p.cells.length ≤ 3 ∧ 1 ≤ p.bodies.length ∧ p.bodies.length ≤ 4 ∧ ∀ i, i < p.bodies.length → (nth [] p.bodies i).length ≤ 4 := by
  unfold okB foB csB inB at h
  simp only [Bool.and_eq_true, decide_eq_true_eq, List.all_eq_true, List.mem_range] at h
  obtain ⟨⟨⟨⟨h1, _⟩, h2, h3⟩, h4⟩, _⟩ := h
  refine ⟨h1, by omega, by omega, fun i hi => ?_⟩
  have h5 := h4 i hi
  unfold boB at h5
  simp only [Bool.and_eq_true, decide_eq_true_eq] at h5
  exact h5.1
def Drawn (B R p hi : Nat) (w : World) (e : Ending) (w' : World) : Prop :=
  ∃ (pr : Pr) (cv bv : Value) (p' : Nat), e = .returned (.agg #[cv, bv]) ∧ IntsOn (fun b => w.heap.size ≤ b) w' cv pr.cells ∧ BodiesOn (fun b => w.heap.size ≤ b) w' bv pr.bodies ∧ pr.bodies.length ≤ 10 ∧ p ≤ p' ∧ p' ≤ p + hi ∧ RdAt B w' R p' ∧ Fr R w.heap.size w w'
theorem drawn_fin {B R p p' hi G : Nat} {w V : World} {cv bv : Value} {pr : Pr} (hGe : G = w.heap.size) (hlt : R < B) (hle : B ≤ w.heap.size) (hG : PBox V G (.slice none 0 0) (.slice none 0 0)) (hR : RdAt B V R p') (hF : Fr R w.heap.size w V) (hc : IntsOn (fun b => G < b) V cv pr.cells) (hb : BodiesOn (fun b => G < b) V bv pr.bodies) (hl : pr.bodies.length ≤ 10) (h1 : p ≤ p') (h2 : p' ≤ p + hi) :
    Drawn B R p hi w (.returned (.agg #[cv, bv])) ((V.setCell ⟨G, 0, none⟩ cv).setCell ⟨G, 1, none⟩ bv) := by
  have S5 : Kept (fun b => G < b) V (V.setCell ⟨G, 0, none⟩ cv) := Kept.set _ _ _ _ (fun h => Nat.lt_irrefl _ h)
  have S6 : Kept (fun b => G < b) (V.setCell ⟨G, 0, none⟩ cv) ((V.setCell ⟨G, 0, none⟩ cv).setCell ⟨G, 1, none⟩ bv) := Kept.set _ _ _ _ (fun h => Nat.lt_irrefl _ h)
  refine ⟨pr, cv, bv, p', rfl, ((hc.kept S5).kept S6).wide (fun b hb => by have : G < b := hb; omega), ((hb.kept S5).kept S6).wide (fun b hb => by have : G < b := hb; omega), hl, h1, h2, ?_, ?_⟩
  · exact hR.below (((Below.refl _ _).setCell (by simp; omega) _).setCell (by simp; omega) _)
  · exact (hF.setCell (.inl (by simp; omega)) _).setCell (.inl (by simp; omega)) _
set_option maxHeartbeats 1000000 in
theorem l71Any_any (B R p : Nat) (w : World) (h : RdAt B w R p) (hp : p ≤ 400000) :
    Calls Try.prog 31 #[.pointer (some ⟨R, 0, none⟩)] w fun e w' => Drawn B R p 20000 w e w' := by
  have hlt := h.lt
  have hle := h.le
  have HR0 : Hid (RdAt B (w.alloc (.cells #[.slice none 0 0, .slice none 0 0] 26)) R p) := h.below ((Below.refl _ _).alloc hle _)
  have HG0 : Hid (PBox (w.alloc (.cells #[.slice none 0 0, .slice none 0 0] 26)) w.heap.size (.slice none 0 0) (.slice none 0 0)) := heap_alloc_new w _
  clear h
  go_enter Try.func31, Try.ntmps31
  go_wp2_with (first
    | (go_at_call 49; refine (l71Prog_any B R p _ HR0.out (by omega)).mono ?_; rintro e w1 ⟨pr, cv, bv, p1, rfl, hO, hBs, hok, hc1, a1, a2, hR1, hF1⟩; obtain ⟨z1, z2, z3, z4⟩ := ok_sizes hok; have HZ : Hid (∀ i, i < pr.bodies.length → (nth [] pr.bodies i).length ≤ 4) := z4; have HO1 : Hid (OwnInt (w.heap.size + 1) w1 cv pr.cells) := (by have t := hO; simp at t; exact t); have HB1 : Hid (OwnBodies (w.heap.size + 1) w1 bv pr.bodies) := (by have t := hBs; simp at t; exact t); have HR1 : Hid (RdAt B w1 R p1) := hR1; have HF1 : Hid (Fr R w.heap.size w w1) := (Fr.of_below ((Below.refl _ _).alloc (Nat.le_refl _) _)).trans (hF1.mono (by simp)); have HG1 : Hid (PBox w1 w.heap.size (.slice none 0 0) (.slice none 0 0)) := HG0.out.fr hF1 (by omega); have hs1 : w.heap.size < w1.heap.size := HG1.out.lt; clear hO hBs hok hR1 hF1 z4; obtain ⟨ac, cc, hcv, _, _⟩ := own_shape HO1.out; obtain ⟨ab, cb, hbv, _⟩ := HB1.out.at.shape; subst hcv hbv; have HRP : Hid (RdAt B (w1.alloc (.cells #[.slice ac pr.cells.length cc, .slice ab pr.bodies.length cb] 26)) R p1) := HR1.out.below ((Below.refl _ _).alloc HR1.out.le _); have HPP : Hid (PBox (w1.alloc (.cells #[.slice ac pr.cells.length cc, .slice ab pr.bodies.length cb] 26)) w1.heap.size (.slice ac pr.cells.length cc) (.slice ab pr.bodies.length cb)) := heap_alloc_new w1 _)
    | (go_at_call 48; refine (pick_any B R p1 _ _ HRP.out (by omega) (by omega) (by omega)).mono ?_; rintro e w2 ⟨q, rfl, q0, q1, hR2, hF2⟩; have HX : Hid (Fr R w1.heap.size w1 w2) := (Fr.of_below ((Below.refl _ _).alloc (Nat.le_refl _) _)).trans (hF2.mono (by simp)); have HF2 : Hid (Fr R w.heap.size w w2) := HF1.out.trans (HX.out.mono (by omega)); have HO2 : Hid (OwnInt (w.heap.size + 1) w2 (.slice ac pr.cells.length cc) pr.cells) := own_fr HO1.out HX.out (by omega); have HB2 : Hid (OwnBodies (w.heap.size + 1) w2 (.slice ab pr.bodies.length cb) pr.bodies) := HB1.out.fr HX.out (by omega); have HG2 : Hid (PBox w2 w.heap.size (.slice none 0 0) (.slice none 0 0)) := HG1.out.fr HX.out (by omega); have HP2 : Hid (PBox w2 w1.heap.size (.slice ac pr.cells.length cc) (.slice ab pr.bodies.length cb)) := HPP.out.fr hF2 (by omega); have HR2 : Hid (RdAt B w2 R (p1 + 1)) := hR2; have hs2 : w.heap.size ≤ w2.heap.size := HF2.out.size; obtain ⟨e0, e1, f0, f1⟩ := HP2.out.cells; obtain ⟨g0, g1, k0, k1⟩ := HG2.out.cells; have l1 := HP2.out.lt; have l2 := HG2.out.lt; clear hR2 hF2 HRP HPP HX HG1 HO1 HB1 HR1 HF1 HG0 HR0; rcases Decidable.em (q = 0) with rfl | hq)
    | (go_at_call 80; refine (l71Bent_any (fun b => w.heap.size < b) B R (p1 + 1) _ _ pr.cells pr.bodies w2 HR2.out (by omega) (fun b hb => by have : w.heap.size < b := hb; omega) (fun b hb => by show w.heap.size < b; omega) (HO2.out.on (fun b hb => by show w.heap.size < b; omega)) (HB2.out.on (fun b hb => by show w.heap.size < b; omega)) hc1 z1 z2 z3 HZ.out).mono ?_; rintro e w3 ⟨pr3, cv3, bv3, p3, rfl, hc3, hb3, hl3, b1, b2, hR3, hF3⟩; have HG3 : Hid (PBox w3 w.heap.size (.slice none 0 0) (.slice none 0 0)) := HG2.out.fr hF3 (by omega); have HF3 : Hid (Fr R w.heap.size w w3) := HF2.out.trans (hF3.mono hs2); have HR3 : Hid (RdAt B w3 R p3) := hR3; have HC3 : Hid (IntsOn (fun b => w.heap.size < b) w3 cv3 pr3.cells) := hc3; have HD3 : Hid (BodiesOn (fun b => w.heap.size < b) w3 bv3 pr3.bodies) := hb3; obtain ⟨ac3, cc3, hcv3, _⟩ := hc3.shape; obtain ⟨ab3, cb3, hbv3, _⟩ := hb3.shape; subst hcv3 hbv3; obtain ⟨r0, r1, r2, r3⟩ := HG3.out.cells; have r4 := HG3.out.lt; clear hR3 hF3 hc3 hb3 e0 e1 f0 f1 g0 g1 k0 k1))
  · have hz := ((HG3.out.set0 (.slice ac3 pr3.cells.length cc3)).set1 (.slice ab3 pr3.bodies.length cb3)).cells
    refine bodyPost_ret (v := .agg #[.slice ac3 pr3.cells.length cc3, .slice ab3 pr3.bodies.length cb3]) (by simp [results, Try.results31, go_sem, hz.1, hz.2.1]) rfl ?_
    exact drawn_fin rfl hlt hle HG3.out HR3.out HF3.out HC3.out HD3.out hl3 (by omega) (by omega)
  · have hz := ((HG2.out.set0 (.slice ac pr.cells.length cc)).set1 (.slice ab pr.bodies.length cb)).cells
    refine bodyPost_ret (v := .agg #[.slice ac pr.cells.length cc, .slice ab pr.bodies.length cb]) (by simp [results, Try.results31, go_sem, hz.1, hz.2.1]) rfl ?_
    exact drawn_fin rfl hlt hle HG2.out HR2.out HF2.out (HO2.out.on (fun b hb => by show w.heap.size < b; omega)) (HB2.out.on (fun b hb => by show w.heap.size < b; omega)) (by omega) (by omega) (by omega)
end Go.Proofs.Ytgbgjljflgbcaaa

namespace Go.Proofs.Ytgbgjljflgbcaaa
open Go.RowKit
set_option linter.unusedSimpArgs false
set_option linter.unusedVariables false
theorem newS_eq {p : Pr} (h : okB p = true) : newS p = ⟨p.cells.map fun n => ⟨n, 0, -1⟩, [newTa 0 (-1)], 0, []⟩ := by unfold newS; rw [if_pos h]
theorem cs_in {p : Pr} (h : okB p = true) : ∀ x, x ∈ p.cells → 0 ≤ x ∧ x < 100 := by
  unfold okB foB csB at h
  simp only [Bool.and_eq_true, decide_eq_true_eq, List.all_eq_true, plB_iff'] at h
  exact h.1.1.1.2
theorem tr_seven {p : Pr} (h : okB p = true) : tr p 4 0 ≤ 7 := by
  unfold okB at h
  simp only [Bool.and_eq_true, decide_eq_true_eq] at h
  exact h.2
theorem okB_form {p : Pr} (h : okB p = true) : Form p := by
  simp only [okB, foB, Bool.and_eq_true, List.all_eq_true, List.mem_range, inB_iff] at h
  exact ⟨by omega, h.1.2⟩
theorem new_ok {p : Pr} (h : okB p = true) : mSoB p (newS p) = true := by
  obtain ⟨hc3, hb1, hb4, _⟩ := ok_sizes h
  have hcs := cs_in h
  rw [newS_eq h]
  unfold mSoB
  simp only [Bool.and_eq_true]
  refine ⟨⟨⟨⟨⟨⟨h, ?_⟩, ?_⟩, ?_⟩, ?_⟩, ?_⟩, ?_⟩
  · simp
  · simp [inB]
  · simp [inB]
  · rw [List.all_eq_true]
    intro i hi
    have : i = 0 := by simpa using hi
    subst this
    simp [mTkB, mNumB, mLsB, mNoB, mWhB, upfB, mActB, tkN, nth, newTa, inB, plB, rgB, puB, acts]
    omega
  · unfold mCesB
    rw [List.all_eq_true]
    intro i hi
    have hi' : i < p.cells.length := by simpa using hi
    have hx := hcs _ (List.getElem_mem hi')
    have e : nth Ce.z (p.cells.map fun n => (⟨n, 0, -1⟩ : Ce)) i = ⟨p.cells[i], 0, -1⟩ := by rw [nth_eq Ce.z _ i (by simpa using hi')]; simp
    simp only [mCeB, e, Bool.and_eq_true, plB_iff', inB_iff]
    refine ⟨⟨⟨hx, by omega, by omega⟩, by omega, by simp⟩, ?_⟩
    rw [List.all_eq_true]
    intro k hk
    have : k = 0 := by simpa using hk
    subst this
    simp [nth, newTa, mHoB, fdP]
  · simp [mLgB]
theorem new_inx {p : Pr} (h : okB p = true) : Inx p (newS p) := by
  have hm := new_ok h
  refine ⟨⟨⟨Np.of hm, ?_, ?_, ?_⟩, Sb.of hm⟩, ?_⟩
  · rw [newS_eq h]
    intro i hi
    have : i = 0 := by simpa using hi
    subst this
    refine ⟨fun e => ?_, fun e => ?_⟩
    · simp [tkN, nth, newTa] at e
    · simp [tkN, nth, newTa] at e
  · rw [newS_eq h]
    have := tr_seven h
    have h4 := tr_four (okB_form h) 0 (by have := (ok_sizes h).2.1; omega)
    simp [bud, rest, newTa, acts]
    omega
  · rw [newS_eq h]
    simp [pcs]
  · rw [newS_eq h]
    intro e he
    simp at he
end Go.Proofs.Ytgbgjljflgbcaaa
