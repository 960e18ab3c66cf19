/-
  What OneRun is drawn.
-/
import Derived.Test.YtpehlekjfnkhoaaDoorD14
namespace Go.Proofs.YtpehlekjfnkhoaaDoor
open Go.RowKit
set_option linter.unusedSimpArgs false
set_option linter.unusedVariables false
set_option maxRecDepth 20000

set_option maxHeartbeats 1000000 in
theorem drawOneRun_any (a : Option Addr) (n cap : Nat) (w : World) (h : Bytes w a n) (hc : n ≤ cap) (hn : cap ≤ 9223372036854775807) :
    Calls Tryd.prog 5 #[.slice a n cap] w fun e w' => ∃ (pr : Pr) (cv bv : Value), e = .returned (.agg #[cv, bv]) ∧ IntsAt w' cv pr.cells ∧ BodiesAt w' bv pr.bodies ∧ Below w.heap.size w w' := by
  have HY : Hid (Bytes (w.alloc (.cells #[.slice none 0 0, .slice none 0 0] 26)) a n) := fun i hi => by
    obtain ⟨b, off, u, e, h1, h2, h3, h4⟩ := h i hi
    exact ⟨b, off, u, e, by simp; omega, h2, h3, by rw [World.cell?_alloc_past _ _ _ h1]; exact h4⟩
  have HG0 : Hid (PBox (w.alloc (.cells #[.slice none 0 0, .slice none 0 0] 26)) w.heap.size (.slice none 0 0) (.slice none 0 0)) := heap_alloc_new w _
  clear h
  go_enter Tryd.func5, Tryd.ntmps5
  go_wp2_with (first
    | (go_at_call 17; refine (l6Open_any a n cap _ HY.out hc hn).mono ?_; rintro e w0 ⟨rfl, hR0, hB0⟩; obtain ⟨R, hRe⟩ : ∃ R, R = (w.alloc (.cells #[.slice none 0 0, .slice none 0 0] 26)).heap.size := ⟨_, rfl⟩; have hRw : w.heap.size < R := (by rw [hRe]; simp); rw [← hRe] at hR0; rw [← hRe]; have HR0 : Hid (RdAt (R + 1) w0 R 0) := hR0; have hle0 : R + 1 ≤ w0.heap.size := hR0.le; have HG1 : Hid (PBox w0 w.heap.size (.slice none 0 0) (.slice none 0 0)) := HG0.out.heap (hB0.block _ HG0.out.lt); have HF0 : Hid (Fr R w.heap.size w w0) := (Fr.of_below ((Below.refl _ _).alloc (Nat.le_refl _) _)).trans (Fr.of_below (hB0.mono (by simp))); clear hR0 hB0 HY HG0 hRe)
    | (go_at_call 16; refine (l71Any_any (R + 1) R 0 w0 HR0.out (by omega)).mono ?_; rintro e w1 ⟨pr, cv, bv, p1, rfl, hI, hBs, hl10, a1, a2, hR1, hF1⟩; have HI1 : Hid (IntsOn (fun b => w0.heap.size ≤ b) w1 cv pr.cells) := hI; have HB1 : Hid (BodiesOn (fun b => w0.heap.size ≤ b) w1 bv pr.bodies) := hBs; have HR1 : Hid (RdAt (R + 1) w1 R p1) := hR1; have HF1 : Hid (Fr R w.heap.size w w1) := HF0.out.trans (hF1.mono (by omega)); have HG2 : Hid (PBox w1 w.heap.size (.slice none 0 0) (.slice none 0 0)) := HG1.out.fr hF1 (by omega); have hs1 : w0.heap.size ≤ w1.heap.size := hF1.size; obtain ⟨ac, cc, hcv, _⟩ := hI.shape; obtain ⟨ab, cb, hbv, _⟩ := hBs.shape; clear hI hBs hR1 hF1; subst hcv hbv; obtain ⟨g0, g1, k0, k1⟩ := HG2.out.cells; have l2 := HG2.out.lt))
  have hz := ((HG2.out.set0 (.slice ac pr.cells.length cc)).set1 (.slice ab pr.bodies.length cb)).cells
  have S5 : Kept (fun b => w0.heap.size ≤ b) w1 (w1.setCell ⟨w.heap.size, 0, none⟩ (.slice ac pr.cells.length cc)) := Kept.set _ _ _ _ (fun h => by have : w0.heap.size ≤ w.heap.size := h; omega)
  have S6 : Kept (fun b => w0.heap.size ≤ b) (w1.setCell ⟨w.heap.size, 0, none⟩ (.slice ac pr.cells.length cc)) ((w1.setCell ⟨w.heap.size, 0, none⟩ (.slice ac pr.cells.length cc)).setCell ⟨w.heap.size, 1, none⟩ (.slice ab pr.bodies.length cb)) := Kept.set _ _ _ _ (fun h => by have : w0.heap.size ≤ w.heap.size := h; omega)
  refine bodyPost_ret (v := .agg #[.slice ac pr.cells.length cc, .slice ab pr.bodies.length cb]) (by simp [results, Tryd.results5, go_sem, hz.1, hz.2.1]) rfl ?_
  exact ⟨pr, _, _, rfl, ((HI1.out.kept S5).kept S6).at, ((HB1.out.kept S5).kept S6).at, ((HF1.out.setCell (.inl (by simp)) _).setCell (.inl (by simp)) _).below (by omega)⟩

end Go.Proofs.YtpehlekjfnkhoaaDoor
