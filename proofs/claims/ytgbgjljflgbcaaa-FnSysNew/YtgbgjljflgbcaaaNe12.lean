import Derived.Test.YtgbgjljflgbcaaaNe11
import Derived.Deep.RegionLaw
import Derived.Deep.RegionHeld3
import Derived.Deep.AppendLies
namespace Go.Proofs.Ytgbgjljflgbcaaa
open Go.RowKit
set_option maxRecDepth 20000
set_option linter.unusedSimpArgs false
set_option linter.unusedVariables false
def PBox (w : World) (P : Nat) (cv bv : Value) : Prop := w.heap[P]? = some (.cells #[cv, bv] 26 (0, 0))
theorem PBox.lt {w : World} {P : Nat} {cv bv : Value} (h : PBox w P cv bv) : P < w.heap.size := (Array.getElem?_eq_some_iff.1 h).1
theorem PBox.cells {w : World} {P : Nat} {cv bv : Value} (h : PBox w P cv bv) : w.cell? ⟨P, 0, none⟩ = some cv ∧ w.cell? ⟨P, 1, none⟩ = some bv ∧ w.frozen? ⟨P, 0, none⟩ = false ∧ w.frozen? ⟨P, 1, none⟩ = false := by
  unfold PBox at h
  refine ⟨?_, ?_, ?_, ?_⟩
  · rw [cell_of_row w P 0 _ _ (0, 0) h]; rfl
  · rw [cell_of_row w P 1 _ _ (0, 0) h]; rfl
  · simp [World.frozen?, h]
  · simp [World.frozen?, h]
theorem PBox.heap {w w' : World} {P : Nat} {cv bv : Value} (h : PBox w P cv bv) (hk : w'.heap[P]? = w.heap[P]?) : PBox w' P cv bv := hk.trans h
theorem PBox.fr {R : Nat} {w w' : World} {P : Nat} {cv bv : Value} (h : PBox w P cv bv) (hf : Fr R w.heap.size w w') (hR : P ≠ R) : PBox w' P cv bv := h.heap (hf.block P h.lt hR)
theorem PBox.alloc {w : World} {P : Nat} {cv bv : Value} (h : PBox w P cv bv) (o : Obj) : PBox (w.alloc o) P cv bv := h.heap (Below.heap_alloc w o P h.lt)
theorem PBox.tag {t : TypeId} {w w' : World} {P : Nat} {cv bv : Value} (h : PBox w P cv bv) (hk : TagKept t w w') (ht : 26 ≠ t) : PBox w' P cv bv := h.heap (hk P _ _ h ht)
theorem PBox.set0 {w : World} {P : Nat} {cv bv : Value} (h : PBox w P cv bv) (x : Value) : PBox (w.setCell ⟨P, 0, none⟩ x) P x bv := by
  unfold PBox at *
  rw [heap_setCell_same w P 0 _ _ x h]; rfl
theorem PBox.set1 {w : World} {P : Nat} {cv bv : Value} (h : PBox w P cv bv) (x : Value) : PBox (w.setCell ⟨P, 1, none⟩ x) P cv x := by
  unfold PBox at *
  rw [heap_setCell_same w P 1 _ _ x h]; rfl
theorem PBox.kept {w : World} {P o : Nat} {cv bv x : Value} (h : PBox w P cv bv) : TagKept 26 w (w.setCell ⟨P, o, none⟩ x) := TagKept.set h
theorem tbl5 (q : Int) (h0 : 0 ≤ q) (h1 : q < 5) : ∃ x : Int, (#[Value.int .i64 0, .int .i64 0, .int .i64 1, .int .i64 5, .int .i64 99] : Array Value)[q.toNat]? = some (.int .i64 x) ∧ ∀ h, ([Value.int .i64 0, .int .i64 0, .int .i64 1, .int .i64 5, .int .i64 99] : List Value)[q.toNat]'h = .int .i64 x := by
  have : q = 0 ∨ q = 1 ∨ q = 2 ∨ q = 3 ∨ q = 4 := by omega
  rcases this with rfl | rfl | rfl | rfl | rfl <;> exact ⟨_, rfl, fun _ => rfl⟩
theorem acts2 {B : Nat} {W : World} {kv dv : Value} {ks : List Int} {ds : List De} (hk : OwnInt B W kv ks) (hd : OwnDe B W dv ds) (hB : B ≤ W.heap.size) :
    OwnActs B (W.alloc (.cells #[.int .i64 2, .slice none 0 0, kv, .int .i64 0, .int .i64 1, dv, .slice none 0 0, .int .i64 0] 122)) (.slice (some ⟨W.heap.size, 0, none⟩) 2 2) [⟨2, [], ks, 0⟩, ⟨1, ds, [], 0⟩] := by
  refine ⟨[(⟨2, [], ks, 0⟩, .slice none 0 0, kv), (⟨1, ds, [], 0⟩, dv, .slice none 0 0)], by simp, ⟨by simp [acCells], .inr ⟨W.heap.size, 2, _, by simp, hB, heap_alloc_new W _, by simp, by unfold maxLen; omega, by simp, by simp [acCells]⟩⟩, ?_⟩
  intro x hx
  simp at hx
  rcases hx with rfl | rfl
  · exact ⟨(own_none _ _).1, World.ownsRow.alloc hk _⟩
  · exact ⟨World.ownsRow.alloc hd _, (own_none _ _).2⟩
theorem bodies_set0 {B : Nat} {w : World} {v av : Value} {bs : List (List Ac)} {acts : List Ac} (h : OwnBodies B w v bs) (hn : 0 < bs.length) (ha : OwnActs B w av acts) :
    ∃ g cap, v = .slice (some ⟨g, 0, none⟩) bs.length cap ∧ B ≤ g ∧ g < w.heap.size ∧ (∃ u, w.cell? ⟨g, 0, none⟩ = some u) ∧ w.frozen? ⟨g, 0, none⟩ = false ∧ TagKept 113 w (w.setCell ⟨g, 0, none⟩ av) ∧ OwnBodies B (w.setCell ⟨g, 0, none⟩ av) v (acts :: bs.tail) := by
  obtain ⟨L, rfl, hr, hi⟩ := h
  rcases hr.2 with ⟨rfl, h0⟩ | ⟨g, cap, cur, rfl, hb, hg, h1, h2, h3, h4⟩
  · simp at hn; omega
  · have hl : 0 < L.length := by simpa using hn
    match L, hl with
    | (b0, v0) :: L', _ =>
    have T : TagKept 113 w (w.setCell ⟨g, 0, none⟩ av) := TagKept.set hg
    have hc0 : 0 < cur.size := by simp at h1; omega
    refine ⟨g, cap, by simp, hb, (Array.getElem?_eq_some_iff.1 hg).1, ?_, ?_, T, (acts, av) :: L', by simp, ?_, ?_⟩
    · exact ⟨cur[0], by rw [cell_of_row w g 0 cur _ (0, 0) hg]; simp [hc0]⟩
    · simp [World.frozen?, hg]
    · refine ⟨by simp, .inr ⟨g, cap, cur.setIfInBounds 0 av, by simp, hb, ?_, by simpa using h1, h2, by simpa using h3, ?_⟩⟩
      · exact heap_setCell_same w g 0 cur _ av hg
      · have e : cur.toList.take (((b0, v0) :: L').length * 1) = (((b0, v0) :: L').map (·.2)) := h4
        have hsz : (cur.setIfInBounds 0 av).toList = cur.toList.set 0 av := by simp
        rw [hsz]
        simp only [List.length_cons, Nat.mul_one, List.map_cons] at e ⊢
        rw [List.take_set, e]
        rfl
    · intro x hx
      rcases List.mem_cons.1 hx with rfl | h
      · exact ha.tag T (by decide) (by decide) (by decide)
      · exact (hi x (by simp [h])).tag T (by decide) (by decide) (by decide)
theorem lit_own (V : World) (Bs : Nat) (hB : Bs ≤ V.heap.size) :
    OwnInt Bs ((((((V.alloc (.cells #[.int .i64 1] 3)).alloc (.cells #[.int .i64 1, .int .i64 1] 3)).alloc (.cells #[.int .i64 2, .slice none 0 0, .slice (some ⟨V.heap.size + 1, 0, none⟩) 2 2, .int .i64 0] 122)).alloc (.cells #[.int .i64 1, .int .i64 0, .int .i64 0, .int .i64 4, .int .i64 0, .int .i64 0, .int .i64 2, .int .i64 0, .int .i64 0] 125)).alloc (.cells #[.int .i64 1, .slice (some ⟨V.heap.size + 1 + 1 + 1, 0, none⟩) 3 3, .slice none 0 0, .int .i64 0] 122)).alloc (.cells #[.slice (some ⟨V.heap.size + 1 + 1, 0, none⟩) 1 1, .slice (some ⟨V.heap.size + 1 + 1 + 1 + 1, 0, none⟩) 1 1] 113)) (.slice (some ⟨V.heap.size, 0, none⟩) 1 1) [1] ∧ OwnBodies Bs ((((((V.alloc (.cells #[.int .i64 1] 3)).alloc (.cells #[.int .i64 1, .int .i64 1] 3)).alloc (.cells #[.int .i64 2, .slice none 0 0, .slice (some ⟨V.heap.size + 1, 0, none⟩) 2 2, .int .i64 0] 122)).alloc (.cells #[.int .i64 1, .int .i64 0, .int .i64 0, .int .i64 4, .int .i64 0, .int .i64 0, .int .i64 2, .int .i64 0, .int .i64 0] 125)).alloc (.cells #[.int .i64 1, .slice (some ⟨V.heap.size + 1 + 1 + 1, 0, none⟩) 3 3, .slice none 0 0, .int .i64 0] 122)).alloc (.cells #[.slice (some ⟨V.heap.size + 1 + 1, 0, none⟩) 1 1, .slice (some ⟨V.heap.size + 1 + 1 + 1 + 1, 0, none⟩) 1 1] 113)) (.slice (some ⟨V.heap.size + 1 + 1 + 1 + 1 + 1, 0, none⟩) 2 2) [[⟨2, [], [1, 1], 0⟩], [⟨1, [⟨1, 0, 0⟩, ⟨4, 0, 0⟩, ⟨2, 0, 0⟩], [], 0⟩]] := by
  have z1 : (V.alloc (.cells #[.int .i64 1] 3)).heap.size = V.heap.size + 1 := by simp
  have z2 : ((V.alloc (.cells #[.int .i64 1] 3)).alloc (.cells #[.int .i64 1, .int .i64 1] 3)).heap.size = V.heap.size + 1 + 1 := by simp
  have z3 : (((V.alloc (.cells #[.int .i64 1] 3)).alloc (.cells #[.int .i64 1, .int .i64 1] 3)).alloc (.cells #[.int .i64 2, .slice none 0 0, .slice (some ⟨V.heap.size + 1, 0, none⟩) 2 2, .int .i64 0] 122)).heap.size = V.heap.size + 1 + 1 + 1 := by simp
  have z4 : ((((V.alloc (.cells #[.int .i64 1] 3)).alloc (.cells #[.int .i64 1, .int .i64 1] 3)).alloc (.cells #[.int .i64 2, .slice none 0 0, .slice (some ⟨V.heap.size + 1, 0, none⟩) 2 2, .int .i64 0] 122)).alloc (.cells #[.int .i64 1, .int .i64 0, .int .i64 0, .int .i64 4, .int .i64 0, .int .i64 0, .int .i64 2, .int .i64 0, .int .i64 0] 125)).heap.size = V.heap.size + 1 + 1 + 1 + 1 := by simp
  have z5 : (((((V.alloc (.cells #[.int .i64 1] 3)).alloc (.cells #[.int .i64 1, .int .i64 1] 3)).alloc (.cells #[.int .i64 2, .slice none 0 0, .slice (some ⟨V.heap.size + 1, 0, none⟩) 2 2, .int .i64 0] 122)).alloc (.cells #[.int .i64 1, .int .i64 0, .int .i64 0, .int .i64 4, .int .i64 0, .int .i64 0, .int .i64 2, .int .i64 0, .int .i64 0] 125)).alloc (.cells #[.int .i64 1, .slice (some ⟨V.heap.size + 1 + 1 + 1, 0, none⟩) 3 3, .slice none 0 0, .int .i64 0] 122)).heap.size = V.heap.size + 1 + 1 + 1 + 1 + 1 := by simp
  have a1 : OwnInt Bs (V.alloc (.cells #[.int .i64 1] 3)) (.slice (some ⟨V.heap.size, 0, none⟩) 1 1) [1] := ⟨by simp, .inr ⟨_, 1, _, rfl, hB, heap_alloc_new V _, by simp, by unfold maxLen; omega, by simp, by simp⟩⟩
  have a2 : OwnInt Bs ((V.alloc (.cells #[.int .i64 1] 3)).alloc (.cells #[.int .i64 1, .int .i64 1] 3)) (.slice (some ⟨V.heap.size + 1, 0, none⟩) 2 2) [1, 1] := ⟨by simp, .inr ⟨_, 2, _, rfl, by omega, by rw [← z1]; exact heap_alloc_new (V.alloc (.cells #[.int .i64 1] 3)) _, by simp, by unfold maxLen; omega, by simp, by simp⟩⟩
  have a3 : (((V.alloc (.cells #[.int .i64 1] 3)).alloc (.cells #[.int .i64 1, .int .i64 1] 3)).alloc (.cells #[.int .i64 2, .slice none 0 0, .slice (some ⟨V.heap.size + 1, 0, none⟩) 2 2, .int .i64 0] 122)).ownsRow Bs 122 4 (.slice (some ⟨V.heap.size + 1 + 1, 0, none⟩) 1 1) 1 (acCells [(⟨2, [], [1, 1], 0⟩, .slice none 0 0, .slice (some ⟨V.heap.size + 1, 0, none⟩) 2 2)]) := ⟨by simp [acCells], .inr ⟨_, 1, _, rfl, by omega, by rw [← z2]; exact heap_alloc_new ((V.alloc (.cells #[.int .i64 1] 3)).alloc (.cells #[.int .i64 1, .int .i64 1] 3)) _, by simp, by unfold maxLen; omega, by simp, by simp [acCells]⟩⟩
  have a4 : OwnDe Bs ((((V.alloc (.cells #[.int .i64 1] 3)).alloc (.cells #[.int .i64 1, .int .i64 1] 3)).alloc (.cells #[.int .i64 2, .slice none 0 0, .slice (some ⟨V.heap.size + 1, 0, none⟩) 2 2, .int .i64 0] 122)).alloc (.cells #[.int .i64 1, .int .i64 0, .int .i64 0, .int .i64 4, .int .i64 0, .int .i64 0, .int .i64 2, .int .i64 0, .int .i64 0] 125)) (.slice (some ⟨V.heap.size + 1 + 1 + 1, 0, none⟩) 3 3) [⟨1, 0, 0⟩, ⟨4, 0, 0⟩, ⟨2, 0, 0⟩] := ⟨by simp [deCells], .inr ⟨_, 3, _, rfl, by omega, by rw [← z3]; exact heap_alloc_new (((V.alloc (.cells #[.int .i64 1] 3)).alloc (.cells #[.int .i64 1, .int .i64 1] 3)).alloc (.cells #[.int .i64 2, .slice none 0 0, .slice (some ⟨V.heap.size + 1, 0, none⟩) 2 2, .int .i64 0] 122)) _, by simp, by unfold maxLen; omega, by simp, by simp [deCells]⟩⟩
  have a5 : (((((V.alloc (.cells #[.int .i64 1] 3)).alloc (.cells #[.int .i64 1, .int .i64 1] 3)).alloc (.cells #[.int .i64 2, .slice none 0 0, .slice (some ⟨V.heap.size + 1, 0, none⟩) 2 2, .int .i64 0] 122)).alloc (.cells #[.int .i64 1, .int .i64 0, .int .i64 0, .int .i64 4, .int .i64 0, .int .i64 0, .int .i64 2, .int .i64 0, .int .i64 0] 125)).alloc (.cells #[.int .i64 1, .slice (some ⟨V.heap.size + 1 + 1 + 1, 0, none⟩) 3 3, .slice none 0 0, .int .i64 0] 122)).ownsRow Bs 122 4 (.slice (some ⟨V.heap.size + 1 + 1 + 1 + 1, 0, none⟩) 1 1) 1 (acCells [(⟨1, [⟨1, 0, 0⟩, ⟨4, 0, 0⟩, ⟨2, 0, 0⟩], [], 0⟩, .slice (some ⟨V.heap.size + 1 + 1 + 1, 0, none⟩) 3 3, .slice none 0 0)]) := ⟨by simp [acCells], .inr ⟨_, 1, _, rfl, by omega, by rw [← z4]; exact heap_alloc_new ((((V.alloc (.cells #[.int .i64 1] 3)).alloc (.cells #[.int .i64 1, .int .i64 1] 3)).alloc (.cells #[.int .i64 2, .slice none 0 0, .slice (some ⟨V.heap.size + 1, 0, none⟩) 2 2, .int .i64 0] 122)).alloc (.cells #[.int .i64 1, .int .i64 0, .int .i64 0, .int .i64 4, .int .i64 0, .int .i64 0, .int .i64 2, .int .i64 0, .int .i64 0] 125)) _, by simp, by unfold maxLen; omega, by simp, by simp [acCells]⟩⟩
  have a6 : ((((((V.alloc (.cells #[.int .i64 1] 3)).alloc (.cells #[.int .i64 1, .int .i64 1] 3)).alloc (.cells #[.int .i64 2, .slice none 0 0, .slice (some ⟨V.heap.size + 1, 0, none⟩) 2 2, .int .i64 0] 122)).alloc (.cells #[.int .i64 1, .int .i64 0, .int .i64 0, .int .i64 4, .int .i64 0, .int .i64 0, .int .i64 2, .int .i64 0, .int .i64 0] 125)).alloc (.cells #[.int .i64 1, .slice (some ⟨V.heap.size + 1 + 1 + 1, 0, none⟩) 3 3, .slice none 0 0, .int .i64 0] 122)).alloc (.cells #[.slice (some ⟨V.heap.size + 1 + 1, 0, none⟩) 1 1, .slice (some ⟨V.heap.size + 1 + 1 + 1 + 1, 0, none⟩) 1 1] 113)).ownsRow Bs 113 1 (.slice (some ⟨V.heap.size + 1 + 1 + 1 + 1 + 1, 0, none⟩) 2 2) 2 [.slice (some ⟨V.heap.size + 1 + 1, 0, none⟩) 1 1, .slice (some ⟨V.heap.size + 1 + 1 + 1 + 1, 0, none⟩) 1 1] := ⟨by simp, .inr ⟨_, 2, _, rfl, by omega, by rw [← z5]; exact heap_alloc_new (((((V.alloc (.cells #[.int .i64 1] 3)).alloc (.cells #[.int .i64 1, .int .i64 1] 3)).alloc (.cells #[.int .i64 2, .slice none 0 0, .slice (some ⟨V.heap.size + 1, 0, none⟩) 2 2, .int .i64 0] 122)).alloc (.cells #[.int .i64 1, .int .i64 0, .int .i64 0, .int .i64 4, .int .i64 0, .int .i64 0, .int .i64 2, .int .i64 0, .int .i64 0] 125)).alloc (.cells #[.int .i64 1, .slice (some ⟨V.heap.size + 1 + 1 + 1, 0, none⟩) 3 3, .slice none 0 0, .int .i64 0] 122)) _, by simp, by unfold maxLen; omega, by simp, by simp⟩⟩
  refine ⟨((((World.ownsRow.alloc a1 _).alloc _).alloc _).alloc _).alloc _, [([⟨2, [], [1, 1], 0⟩], .slice (some ⟨V.heap.size + 1 + 1, 0, none⟩) 1 1), ([⟨1, [⟨1, 0, 0⟩, ⟨4, 0, 0⟩, ⟨2, 0, 0⟩], [], 0⟩], .slice (some ⟨V.heap.size + 1 + 1 + 1 + 1, 0, none⟩) 1 1)], rfl, a6, ?_⟩
  intro x hx
  rcases List.mem_cons.1 hx with rfl | hx
  · refine ⟨[(⟨2, [], [1, 1], 0⟩, .slice none 0 0, .slice (some ⟨V.heap.size + 1, 0, none⟩) 2 2)], rfl, ((World.ownsRow.alloc a3 _).alloc _).alloc _, fun y hy => ?_⟩
    rcases List.mem_singleton.1 hy with rfl
    exact ⟨(own_none _ _).1, (((World.ownsRow.alloc a2 _).alloc _).alloc _).alloc _⟩
  · rcases List.mem_singleton.1 hx with rfl
    refine ⟨[(⟨1, [⟨1, 0, 0⟩, ⟨4, 0, 0⟩, ⟨2, 0, 0⟩], [], 0⟩, .slice (some ⟨V.heap.size + 1 + 1 + 1, 0, none⟩) 3 3, .slice none 0 0)], rfl, World.ownsRow.alloc a5 _, fun y hy => ?_⟩
    rcases List.mem_singleton.1 hy with rfl
    exact ⟨(World.ownsRow.alloc a4 _).alloc _, (own_none _ _).2⟩
theorem fin16 {B R G P p4 Wb : Nat} {w V : World} {cv bv av : Value} {xs : List Int} {bs : List (List Ac)} {acts : List Ac} {g n cap : Nat} (hB : B ≤ Wb) (hwb : Wb = w.heap.size) (hR : RdAt B V R p4) (hF : Fr R Wb w V) (hG : PBox V G (.slice none 0 0) (.slice none 0 0)) (hP : PBox V P cv bv)
    (hO : OwnInt Wb V cv xs) (hBs : OwnBodies Wb V bv bs) (hn : 0 < bs.length) (ha : OwnActs Wb V av acts) (hbv : bv = .slice (some ⟨g, 0, none⟩) n cap) :
    RdAt B (V.setCell ⟨g, 0, none⟩ av) R p4 ∧ Fr R Wb w (V.setCell ⟨g, 0, none⟩ av) ∧ PBox (V.setCell ⟨g, 0, none⟩ av) G (.slice none 0 0) (.slice none 0 0) ∧ PBox (V.setCell ⟨g, 0, none⟩ av) P cv bv ∧ OwnInt Wb (V.setCell ⟨g, 0, none⟩ av) cv xs ∧ OwnBodies Wb (V.setCell ⟨g, 0, none⟩ av) bv (acts :: bs.tail) := by
  obtain ⟨g', cap', e, hBg, hlt, _, _, T, hO'⟩ := bodies_set0 hBs hn ha
  rw [hbv] at e
  injection e with e1
  injection e1 with e2
  injection e2 with e3
  subst e3
  exact ⟨hR.below ((Below.refl _ _).setCell (by show B ≤ g; omega) _), hF.setCell (.inl (by show Wb ≤ g; omega)) _, hG.tag T (by decide), hP.tag T (by decide), own_tag hO T (by decide), hO'⟩
set_option maxHeartbeats 4000000 in
theorem l71Prog_any (B R p : Nat) (w : World) (h : RdAt B w R p) (hp : p ≤ 500000) :
    Calls Try.prog 49 #[.pointer (some ⟨R, 0, none⟩)] w fun e w' => ∃ (pr : Pr) (cv bv : Value) (p' : Nat), e = .returned (.agg #[cv, bv]) ∧ OwnInt w.heap.size w' cv pr.cells ∧ OwnBodies w.heap.size w' bv pr.bodies ∧ okB pr = true ∧ 1 ≤ pr.cells.length ∧ p ≤ p' ∧ p' ≤ p + 10000 ∧ RdAt B w' R p' ∧ Fr R w.heap.size w w' := by
  have hlt := h.lt
  have hle := h.le
  obtain ⟨i1, hi1, hy0, hy1, hy2⟩ := info_parts Try.info_act
  obtain ⟨i2, hi2, hx0, hx1, hx2⟩ := info_parts Try.info_int
  obtain ⟨i3, hi3, hz0, hz1, hz2⟩ := info_parts Try.info_acts
  have HR0 : Hid (∀ o, RdAt B (w.alloc o) R p) := fun o => h.below ((Below.refl _ _).alloc hle _)
  clear h
  go_enter Try.func49, Try.ntmps49
  go_wp2_with fail
  go_loopw [3] (fun q w' => ∃ (k : Nat) (p' : Nat), k ≤ 10 ∧ q = .int .i64 k ∧ p ≤ p' ∧ p' + 500 * (10 - k) ≤ p + 5000 ∧ RdAt B w' R p' ∧ Fr R w.heap.size w w' ∧ PBox w' w.heap.size (.slice none 0 0) (.slice none 0 0)) (fun q _ => 10 - (intOf q).toNat)
  case atStart => exact ⟨0, p, by omega, rfl, by omega, by omega, HR0.out _, (Fr.refl _ _ _).alloc (Nat.le_refl _) _, heap_alloc_new w _⟩
  clear HR0
  case round =>
    obtain ⟨k, p', hk, rfl, hp1, hp2, hR, hF, hG⟩ := hrel
    by_cases hk10 : k < 10
    case neg =>
      have hk10' : ¬ (k : Int) < 10 := by omega
      have hGc := hG.cells
      have s0 := hGc.1
      have s1 := hGc.2.1
      have s2 := hGc.2.2.1
      have s3 := hGc.2.2.2
      have hs0 := hF.size
      have hGl := hG.lt
      have g1 : w.heap.size < wr.heap.size + 1 := by omega
      have g2 : w.heap.size < wr.heap.size + 1 + 1 := by omega
      have g3 : w.heap.size < wr.heap.size + 1 + 1 + 1 := by omega
      have g4 : w.heap.size < wr.heap.size + 1 + 1 + 1 + 1 := by omega
      have g5 : w.heap.size < wr.heap.size + 1 + 1 + 1 + 1 + 1 := by omega
      have HR := (show Hid (RdAt _ _ _ _) from hR)
      have HF := (show Hid (Fr _ _ _ _) from hF)
      have HG := (show Hid (PBox _ _ _ _) from hG)
      clear hGc hR hF hG
      go_wp2_with fail
      have HLIT := lit_own ((wr.setCell ⟨w.heap.size, 0, none⟩ (.slice (some ⟨wr.heap.size, 0, none⟩) 1 1)).setCell ⟨w.heap.size, 1, none⟩ (.slice (some ⟨wr.heap.size + 1 + 1 + 1 + 1 + 1, 0, none⟩) 2 2)) w.heap.size (by simp; omega)
      have hvs : ((wr.setCell ⟨w.heap.size, 0, none⟩ (.slice (some ⟨wr.heap.size, 0, none⟩) 1 1)).setCell ⟨w.heap.size, 1, none⟩ (.slice (some ⟨wr.heap.size + 1 + 1 + 1 + 1 + 1, 0, none⟩) 2 2)).heap.size = wr.heap.size := by simp
      rw [hvs] at HLIT
      have P0 := (HG.out.set0 (.slice (some ⟨wr.heap.size, 0, none⟩) 1 1)).set1 (.slice (some ⟨wr.heap.size + 1 + 1 + 1 + 1 + 1, 0, none⟩) 2 2)
      have hz := P0.cells
      refine bodyPost_ret (v := .agg #[.slice (some ⟨wr.heap.size, 0, none⟩) 1 1, .slice (some ⟨wr.heap.size + 1 + 1 + 1 + 1 + 1, 0, none⟩) 2 2]) (by simp [results, Try.results49, go_sem, hz.1, hz.2.1, hGl, g1, g2, g3, g4, g5]) rfl ⟨⟨[1], [[⟨2, [], [1, 1], 0⟩], [⟨1, [⟨1, 0, 0⟩, ⟨4, 0, 0⟩, ⟨2, 0, 0⟩], [], 0⟩]]⟩, _, _, rfl, HLIT.1, HLIT.2, by decide, by simp, p', by omega, by omega, ?_, ?_⟩
      · refine HR.out.below ?_
        iterate 6 (refine Below.alloc ?_ (by have := HR.out.le; simp; omega) _)
        iterate 2 (refine Below.setCell ?_ (by simp; omega) _)
        exact Below.refl _ _
      · iterate 6 (refine Fr.alloc ?_ (by simp; omega) _)
        iterate 2 (refine Fr.setCell ?_ (.inl (by simp)) _)
        exact HF.out
    have hk10' : (k : Int) < 10 := by omega
    have hs0 := hF.size
    have HR1 : Hid (∀ o o2, RdAt B ((wr.alloc o).alloc o2) R p') := fun o o2 => hR.below (((Below.refl _ _).alloc hR.le _).alloc (by have := hR.le; simp; omega) _)
    have HF := (show Hid (Fr _ _ _ _) from hF)
    have HG := (show Hid (PBox _ _ _ _) from hG)
    clear hR hF hG
    go_wp2_with fail
    refine (pick_any B R _ _ _ (HR1.out _ _) (by omega) (by omega) (by omega)).mono ?_
    rintro e w1 ⟨nc, rfl, a0, a1, hR1, hF1⟩
    have P1 : PBox w1 (wr.heap.size + 1) (.slice (some ⟨wr.heap.size, 0, none⟩) 0 0) (.slice none 0 0) := PBox.fr (w := (wr.alloc (.cells #[] 3)).alloc (.cells #[.slice (some ⟨wr.heap.size, 0, none⟩) 0 0, .slice none 0 0] 26)) (by have := heap_alloc_new (wr.alloc (.cells #[] 3)) (.cells #[.slice (some ⟨wr.heap.size, 0, none⟩) 0 0, .slice none 0 0] 26); simpa [PBox] using this) hF1 (by omega)
    have O1 : OwnInt w.heap.size w1 (.slice (some ⟨wr.heap.size, 0, none⟩) 0 0) [] := own_fr (World.ownsRow.alloc (World.ownsRow_made wr #[] 0 hs0 (by unfold maxLen; omega) (by simp)) _) hF1 (by omega)
    have F1 : Fr R w.heap.size w w1 := ((HF.out.alloc hs0 _).alloc (by simp; omega) _).trans (hF1.mono (by simp; omega))
    have G1 : PBox w1 w.heap.size (.slice none 0 0) (.slice none 0 0) := ((HG.out.alloc _).alloc _).fr hF1 (by omega)
    have HH : Hid (RdAt B w1 R (p' + 1) ∧ PBox w1 (wr.heap.size + 1) (.slice (some ⟨wr.heap.size, 0, none⟩) 0 0) (.slice none 0 0) ∧ OwnInt w.heap.size w1 (.slice (some ⟨wr.heap.size, 0, none⟩) 0 0) [] ∧ Fr R w.heap.size w w1 ∧ PBox w1 w.heap.size (.slice none 0 0) (.slice none 0 0)) := ⟨hR1, P1, O1, F1, G1⟩
    clear hR1 hF1 P1 O1 F1 G1 HR1 HF HG
    obtain ⟨nc, rfl⟩ := Int.eq_ofNat_of_zero_le a0
    have hPw : w.heap.size < wr.heap.size + 1 := by omega
    generalize hPd : wr.heap.size + 1 = P at HH hPw ⊢
    clear hPd
    go_wp2_with fail
    go_loopw [6] (fun q w' => ∃ (p2 : Nat) (xs : List Int) (cv : Value), xs.length ≤ nc + 1 ∧ q = .int .i64 xs.length ∧ p ≤ p2 ∧ p2 ≤ p' + 1 + xs.length ∧ RdAt B w' R p2 ∧ Fr R w.heap.size w w' ∧ PBox w' w.heap.size (.slice none 0 0) (.slice none 0 0) ∧ PBox w' P cv (.slice none 0 0) ∧ OwnInt w.heap.size w' cv xs) (fun q _ => nc + 1 - (intOf q).toNat)
    case atStart => exact ⟨_, [], _, by simp, rfl, by omega, by simp, HH.out.1, HH.out.2.2.2.1, HH.out.2.2.2.2, HH.out.2.1, HH.out.2.2.1⟩
    clear HH
    case round =>
      obtain ⟨p2, xs, cv, hj, rfl, hp3, hp4, hR, hF, hG, hP, hO⟩ := hrel
      by_cases hjl : xs.length < nc + 1
      case neg =>
        have hxl : xs.length = nc + 1 := by omega
        have HXL := (show Hid _ from hxl)
        have HQ : Hid (OwnInt w.heap.size wr cv xs ∧ PBox wr P cv (.slice none 0 0) ∧ PBox wr w.heap.size (.slice none 0 0) (.slice none 0 0) ∧ Fr R w.heap.size w wr) := ⟨hO, hP, hG, hF⟩
        clear hxl hO hP hG hF
        go_wp2_with fail
        refine (pick_any B R _ _ _ hR (by omega) (by omega) (by omega)).mono ?_
        rintro e w1 ⟨nb, rfl, n0, n1, hR1, hF1⟩
        obtain ⟨nb, rfl⟩ := Int.eq_ofNat_of_zero_le n0
        have HO1 : Hid (OwnInt w.heap.size w1 cv xs) := own_fr HQ.out.1 hF1 (by omega)
        have HP1 : Hid (PBox w1 P cv (.slice none 0 0)) := HQ.out.2.1.fr hF1 (by omega)
        have HG1 : Hid (PBox w1 w.heap.size (.slice none 0 0) (.slice none 0 0)) := HQ.out.2.2.1.fr hF1 (by omega)
        have HF1 : Hid (Fr R w.heap.size w w1) := HQ.out.2.2.2.trans (hF1.mono HQ.out.2.2.2.size)
        have HR1 := (show Hid (RdAt _ _ _ _) from hR1)
        have hp5 : p2 + 1 ≤ p' + 6 := by omega
        clear hF1 hR1 HQ hR
        go_wp2_with fail
        go_loopw [8] (fun q w' => ∃ (p3 : Nat) (bs : List (List Ac)) (bv : Value), bs.length ≤ nb + 2 ∧ q = .int .i64 bs.length ∧ p ≤ p3 ∧ p3 ≤ p' + 6 + 100 * bs.length ∧ RdAt B w' R p3 ∧ Fr R w.heap.size w w' ∧ PBox w' w.heap.size (.slice none 0 0) (.slice none 0 0) ∧ PBox w' P cv bv ∧ OwnInt w.heap.size w' cv xs ∧ OwnBodies w.heap.size w' bv bs) (fun q _ => nb + 2 - (intOf q).toNat)
        case atStart => exact ⟨_, [], _, by simp, rfl, by omega, by simp; omega, HR1.out, HF1.out, HG1.out, HP1.out, HO1.out, [], rfl, World.ownsRow_nil _ _ _ _, fun x hx => by simp at hx⟩
        clear HO1 HP1 HG1 HF1 HR1
        case round =>
          obtain ⟨p3, bs, bv, hbl, rfl, hp6, hp7, hR, hF, hG, hP, hO, hBs⟩ := hrel
          by_cases hbl2 : bs.length < nb + 2
          case neg =>
            have HBL : Hid (bs.length = nb + 2) := by show bs.length = nb + 2; omega
            have HO := (show Hid (OwnInt _ _ _ _) from hO)
            have HP := (show Hid (PBox _ _ _ _) from hP)
            have HG := (show Hid (PBox _ _ _ _) from hG)
            have HF := (show Hid (Fr _ _ _ _) from hF)
            have HBS := (show Hid (OwnBodies _ _ _ _) from hBs)
            have hp8 : p3 ≤ p' + 406 := by omega
            clear hO hP hG hF hBs
            go_wp2_with fail
            refine (pick_any B R _ _ _ hR (by omega) (by omega) (by omega)).mono ?_
            rintro e w1 ⟨q, rfl, q0, q1, hR1, hF1⟩
            replace HO : Hid (OwnInt w.heap.size w1 cv xs) := own_fr HO.out hF1 (by omega)
            replace HP : Hid (PBox w1 P cv bv) := HP.out.fr hF1 (by omega)
            replace HG : Hid (PBox w1 w.heap.size (.slice none 0 0) (.slice none 0 0)) := HG.out.fr hF1 (by omega)
            replace HBS : Hid (OwnBodies w.heap.size w1 bv bs) := OwnBodies.fr HBS.out hF1 (by omega)
            replace HF : Hid (Fr R w.heap.size w w1) := HF.out.trans (hF1.mono HF.out.size)
            have HR := (show Hid (RdAt _ _ _ _) from hR1)
            clear hF1 hR1 hR
            by_cases hq : 0 < q
            case neg =>
              obtain ⟨aC, cC, hcv, _, _⟩ := own_shape HO.out
              obtain ⟨LB, hLB, hrowB, _⟩ := id HBS.out
              obtain ⟨aB, cB, hbv, _, _⟩ := own_shape hrowB
              generalize LB.length = lB at hbv
              clear hrowB hLB
              have hcc := HP.out.cells
              have q0c := hcc.1
              have q1c := hcc.2.1
              rw [hcv] at q0c
              rw [hbv] at q1c
              have hPl := HP.out.lt
              clear hcc
              have HCV := (show Hid _ from hcv)
              have HBV := (show Hid _ from hbv)
              clear hcv hbv
              have HAT : Hid (IntsAt w1 (.slice aC xs.length cC) xs ∧ BodiesAt w1 (.slice aB lB cB) bs) := ⟨by have := OwnInt.at HO.out; rwa [HCV.out] at this, by have := OwnBodies.at HBS.out; rwa [HBV.out] at this⟩
              go_wp2_with fail
              refine (sProgOk_any ⟨xs, bs⟩ _ _ _ HAT.out.1 HAT.out.2).mono ?_
              rintro e wA ⟨rfl, hbA⟩
              have hfA : Fr R w1.heap.size w1 wA := Fr.of_below hbA
              have HRA : Hid (RdAt B wA R (p3 + 1)) := HR.out.below (hbA.mono HR.out.le)
              have HFA : Hid (Fr R w.heap.size w wA) := HF.out.trans (hfA.mono HF.out.size)
              have HGA : Hid (PBox wA w.heap.size (.slice none 0 0) (.slice none 0 0)) := HG.out.fr hfA (by omega)
              have HPA : Hid (PBox wA P cv bv) := HP.out.fr hfA (by omega)
              have HOA : Hid (OwnInt w.heap.size wA cv xs) := own_fr HO.out hfA (by omega)
              have HBA : Hid (OwnBodies w.heap.size wA bv bs) := OwnBodies.fr HBS.out hfA (by omega)
              clear hbA hfA HAT q0c q1c HO HBS HP HG HF HR
              cases hok : okB ⟨xs, bs⟩
              · clear hok
                go_wp2_with fail
                go_roundw
                case rel => exact ⟨k + 1, (p3 + 1), by omega, by go_num, by omega, by omega, HRA.out, HFA.out, HGA.out⟩
                case measure => simp [intOf]; omega
              · have HOK := (show Hid _ from hok)
                clear hok
                have hPA := HPA.out.cells
                have r0 := hPA.1
                have r1 := hPA.2.1
                rw [HCV.out] at r0
                rw [HBV.out] at r1
                have hGA := HGA.out.cells
                have s0 := hGA.1
                have s1 := hGA.2.1
                have s2 := hGA.2.2.1
                have s3 := hGA.2.2.2
                clear hPA hGA
                go_wp2_with fail
                have HG5 := (HGA.out.set0 (.slice aC xs.length cC)).set1 (.slice aB lB cB)
                have hz5 := HG5.cells
                have K5 := HGA.out.kept (o := 0) (x := .slice aC xs.length cC)
                have K6 := (HGA.out.set0 (.slice aC xs.length cC)).kept (o := 1) (x := .slice aB lB cB)
                refine bodyPost_ret (v := .agg #[.slice aC xs.length cC, .slice aB lB cB]) (by simp [results, Try.results49, go_sem, hz5.1, hz5.2.1]) rfl ⟨⟨xs, bs⟩, _, _, (p3 + 1), rfl, ?_, ?_, HOK.out, by have := HXL.out; show 1 ≤ xs.length; omega, by omega, by omega, ?_, ?_⟩
                · rw [← HCV.out]; exact own_tag (own_tag HOA.out (by rw [← HCV.out] at K5; exact K5) (by decide)) (by rw [← HCV.out] at K6; exact K6) (by decide)
                · rw [← HBV.out]; exact OwnBodies.tag (OwnBodies.tag HBA.out K5 (by decide) (by decide) (by decide) (by decide)) (by rw [← HBV.out] at K6; exact K6) (by decide) (by decide) (by decide) (by decide)
                · exact HRA.out.below (((Below.refl _ _).setCell (by simp; omega) _).setCell (by simp; omega) _)
                · exact (HFA.out.setCell (.inl (by simp)) _).setCell (.inl (by simp)) _
            have hq' : (0 : Int) < q := hq
            obtain ⟨LB, hLB, hrowB, hinB⟩ := id HBS.out
            have hLBl : LB.length = bs.length := by rw [hLB]; simp
            obtain ⟨g, capB, hbvB, hBg, hglt⟩ := World.ownsRow.form hrowB (by have := HBL.out; omega)
            rw [hLBl] at hbvB
            have HBV := (show Hid _ from hbvB)
            have hcc := HP.out.cells
            have c1 := hcc.2.1
            rw [hbvB] at c1
            have hPl := HP.out.lt
            have hbpos : (0 : Int) < (bs.length : Int) := by have := HBL.out; omega
            have hs1 := HF.out.size
            have HRd : Hid (RdAt B w1.drew R (p3 + 1)) := HR.out.below (Below.refl _ _).drew
            have hwr : IntKind.i64.wrap (2 + (nb : Int) - 1) = 2 + (nb : Int) - 1 := by rw [IntKind.wrap_i64]; omega
            have HGC : Hid ((∃ u, w1.cell? ⟨g, 0, none⟩ = some u) ∧ w1.frozen? ⟨g, 0, none⟩ = false) := by
              obtain ⟨g', cap', e', _, _, k1, k2, _⟩ := bodies_set0 (av := .slice none 0 0) (acts := []) HBS.out (by have := HBL.out; omega) ⟨[], rfl, World.ownsRow_nil _ _ _ _, fun x hx => by simp at hx⟩
              rw [hbvB] at e'
              simp at e'
              rw [e'.1]
              exact ⟨k1, k2⟩
            obtain ⟨⟨ug, cg⟩, fg⟩ := HGC.out
            have hgP : g ≠ P := by
              intro e
              rcases hrowB.2 with ⟨e1, _⟩ | ⟨g2, _, cur2, e1, _, hg2, _⟩
              · have h1 := HBV.out; rw [e1] at h1; simp at h1
              · have h1 := HBV.out; rw [e1] at h1; simp at h1
                have hPP := HP.out
                unfold PBox at hPP
                rw [h1.1, e] at hg2
                rw [hg2] at hPP
                injection hPP with h4; injection h4 with h5 h6
                exact absurd h6 (by decide)
            have hPg : P ≠ g := fun e => hgP e.symm
            have HBLx : Hid (0 < bs.length) := by show 0 < bs.length; have := HBL.out; omega
            clear hcc hbvB hLB hrowB hinB hLBl HGC
            generalize hlb : bs.length = lb at c1 hbpos HBV ⊢
            have HLB := (show Hid _ from hlb)
            have hbn : 0 < lb := by omega
            clear hlb
            go_wp2_with fail
            go_region_held3 (fun w' => w'.cell? ⟨P, 1, none⟩ = some (.slice (some ⟨g, 0, none⟩) lb capB)) (first | exact e4 | exact e2 | go_keep | (show World.cell? _ _ = _; rw [World.cell?_alloc_past _ _ _ (by simp; omega), World.cell?_alloc_past _ _ _ (by simp; omega), World.cell?_setCell_far _ _ _ _ hgP]; exact e4))
              (first | (go_at_call 48; refine (pick_any B R (p3 + 1) _ _ HRd.out (by omega) (by omega) (by omega)).mono ?_; rintro e w2 ⟨q2, rfl, a0', a1', hR2, hF2⟩; have HX2 : Hid (Fr R w1.heap.size w1 w2) := (Fr.drew (Fr.refl R w1.heap.size w1)).trans hF2; have HR2 : Hid (RdAt B w2 R (p3 + 1 + 1)) := hR2; have HR2a : Hid (∀ o, RdAt B (w2.alloc o) R (p3 + 1 + 1)) := fun o => hR2.below ((Below.refl _ _).alloc hR2.le _); have hs2 := HX2.out.size; have hwq : IntKind.i64.wrap (1 + q2) = 1 + q2 := (by rw [IntKind.wrap_i64]; omega); have e2 : w2.cell? ⟨P, 1, none⟩ = some (.slice (some ⟨g, 0, none⟩) lb capB) := (by rw [HX2.out.cell hPl (by omega)]; exact c1); clear hF2 hR2) | (go_at_call 97; refine (l71Deeds_any B R (p3 + 1 + 1) _ _ (by first | exact HR2.out | exact HR2a.out _) (by omega) (by omega) (by omega)).mono ?_; rintro e w4 ⟨dv, ds, p4, rfl, hde, hdl, r1, r2, hR4, hF4⟩; obtain ⟨ad, cd, hdv, _, _⟩ := own_shape hde; subst hdv; have HX4 : Hid (Fr R w1.heap.size w1 w4) := (by first | exact HX2.out.trans (hF4.mono hs2) | exact (HX2.out.alloc hs2 _).trans (hF4.mono (by simp; omega))); have HR4 : Hid (RdAt B w4 R p4) := hR4; have HDE : Hid (OwnDe w.heap.size w4 (.slice ad ds.length cd) ds) := own_base hde (by first | exact Nat.le_trans hs1 hs2 | (simp; omega)); (try (have HK4 : Hid (OwnInt w.heap.size w4 (.slice (some ⟨w2.heap.size, 0, none⟩) 2 2) [1, 1 + q2]) := (own_fr (R := R) (w := w2.alloc (.cells #[.int .i64 1, .int .i64 (1 + q2)] 3)) ⟨by simp, .inr ⟨w2.heap.size, 2, _, rfl, Nat.le_trans hs1 hs2, heap_alloc_new w2 _, by simp, by unfold maxLen; omega, by simp, by simp⟩⟩ hF4 (by omega)))); have e4 : w4.cell? ⟨P, 1, none⟩ = some (.slice (some ⟨g, 0, none⟩) lb capB) := (by rw [HX4.out.cell hPl (by omega)]; exact c1); have hs4 := HX4.out.size; have cg4 : w4.cell? ⟨g, 0, none⟩ = some ug := (by rw [HX4.out.cell hglt (by omega)]; exact cg); have fg4 : w4.frozen? ⟨g, 0, none⟩ = false := (by rw [HX4.out.frozen hglt (by omega)]; exact fg); have hg4 : g < w4.heap.size := (by omega); have hP4 : P < w4.heap.size := (by omega); have hP4b : P < w4.heap.size + 1 := (by omega); have hg4b : g < w4.heap.size + 1 := (by omega); clear hF4 hR4 hde))
            · have HAC := acts2 (B := w.heap.size) (W := w4) HK4.out HDE.out (Nat.le_trans hs1 hs4)
              have HXV : Fr R w1.heap.size w1 (w4.alloc (.cells #[.int .i64 2, .slice none 0 0, .slice (some ⟨w2.heap.size, 0, none⟩) 2 2, .int .i64 0, .int .i64 1, .slice ad ds.length cd, .slice none 0 0, .int .i64 0] 122)) := HX4.out.alloc hs4 _
              have HRV : RdAt B (w4.alloc (.cells #[.int .i64 2, .slice none 0 0, .slice (some ⟨w2.heap.size, 0, none⟩) 2 2, .int .i64 0, .int .i64 1, .slice ad ds.length cd, .slice none 0 0, .int .i64 0] 122)) R p4 := HR4.out.below ((Below.refl _ _).alloc HR4.out.le _)
              have KEY := fin16 (G := w.heap.size) hle rfl HRV (HF.out.trans (HXV.mono hs1)) (HG.out.fr HXV (by omega)) (HP.out.fr HXV (by omega)) (own_fr HO.out HXV (by omega)) (OwnBodies.fr HBS.out HXV (by omega)) HBLx.out HAC HBV.out
              have eX : (w4.setCell ⟨g, 0, none⟩ (.slice (some ⟨w4.heap.size, 0, none⟩) 2 2)).alloc (.cells #[.int .i64 2, .slice none 0 0, .slice (some ⟨w2.heap.size, 0, none⟩) 2 2, .int .i64 0, .int .i64 1, .slice ad ds.length cd, .slice none 0 0, .int .i64 0] 122) = (w4.alloc (.cells #[.int .i64 2, .slice none 0 0, .slice (some ⟨w2.heap.size, 0, none⟩) 2 2, .int .i64 0, .int .i64 1, .slice ad ds.length cd, .slice none 0 0, .int .i64 0] 122)).setCell ⟨g, 0, none⟩ (.slice (some ⟨w4.heap.size, 0, none⟩) 2 2) := by rw [← World.setCell_alloc_past _ _ _ _ hg4]
              rw [← eX] at KEY
              have HKEY := (show Hid (RdAt _ _ _ _ ∧ _) from KEY)
              clear KEY eX HAC HXV HRV
              generalize (w4.setCell ⟨g, 0, none⟩ (.slice (some ⟨w4.heap.size, 0, none⟩) 2 2)).alloc (.cells #[.int .i64 2, .slice none 0 0, .slice (some ⟨w2.heap.size, 0, none⟩) 2 2, .int .i64 0, .int .i64 1, .slice ad ds.length cd, .slice none 0 0, .int .i64 0] 122) = W5 at HKEY ⊢
              obtain ⟨k1, k2, k3, k4, k5, k6⟩ := HKEY.out
              clear HO HP HG HF HBS HR HR4 HX4 HDE cg cg4 fg fg4 c1 e4 e2 HRd HR2 HR2a HX2 hwr hwq HKEY HK4
              have HR := (show Hid (RdAt _ _ _ _) from k1)
              have HF := (show Hid (Fr _ _ _ _) from k2)
              have HG := (show Hid (PBox _ _ _ _) from k3)
              have HP := (show Hid (PBox _ _ _ _) from k4)
              have HO := (show Hid (OwnInt _ _ _ _) from k5)
              have HBS := (show Hid (OwnBodies _ _ _ _) from k6)
              clear k1 k2 k3 k4 k5 k6 hs4 hs2
              obtain ⟨aC, cC, hcv, _, _⟩ := own_shape HO.out
              obtain ⟨LB, hLB, hrowB, _⟩ := id HBS.out
              obtain ⟨aB, cB, hbv, _, _⟩ := own_shape hrowB
              generalize LB.length = lB at hbv
              clear hrowB hLB
              have hcc := HP.out.cells
              have q0c := hcc.1
              have q1c := hcc.2.1
              rw [hcv] at q0c
              rw [hbv] at q1c
              have hPl := HP.out.lt
              clear hcc
              have HCV := (show Hid _ from hcv)
              have HBV2 := (show Hid _ from hbv)
              clear hcv hbv
              have HAT : Hid (IntsAt W5 (.slice aC xs.length cC) xs ∧ BodiesAt W5 (.slice aB lB cB) ([⟨2, [], [1, 1 + q2], 0⟩, ⟨1, ds, [], 0⟩] :: bs.tail)) := ⟨by have := OwnInt.at HO.out; rwa [HCV.out] at this, by have := OwnBodies.at HBS.out; rwa [HBV2.out] at this⟩
              go_wp2_with fail
              refine (sProgOk_any ⟨xs, [⟨2, [], [1, 1 + q2], 0⟩, ⟨1, ds, [], 0⟩] :: bs.tail⟩ _ _ _ HAT.out.1 HAT.out.2).mono ?_
              rintro e wA ⟨rfl, hbA⟩
              have hfA : Fr R W5.heap.size W5 wA := Fr.of_below hbA
              have HRA : Hid (RdAt B wA R p4) := HR.out.below (hbA.mono HR.out.le)
              have HFA : Hid (Fr R w.heap.size w wA) := HF.out.trans (hfA.mono HF.out.size)
              have HGA : Hid (PBox wA w.heap.size (.slice none 0 0) (.slice none 0 0)) := HG.out.fr hfA (by omega)
              have HPA : Hid (PBox wA P cv bv) := HP.out.fr hfA (by omega)
              have HOA : Hid (OwnInt w.heap.size wA cv xs) := own_fr HO.out hfA (by omega)
              have HBA : Hid (OwnBodies w.heap.size wA bv ([⟨2, [], [1, 1 + q2], 0⟩, ⟨1, ds, [], 0⟩] :: bs.tail)) := OwnBodies.fr HBS.out hfA (by omega)
              clear hbA hfA HAT q0c q1c HO HBS HP HG HF HR
              cases hok : okB ⟨xs, [⟨2, [], [1, 1 + q2], 0⟩, ⟨1, ds, [], 0⟩] :: bs.tail⟩
              · clear hok
                go_wp2_with fail
                go_roundw
                case rel => exact ⟨k + 1, p4, by omega, by go_num, by omega, by omega, HRA.out, HFA.out, HGA.out⟩
                case measure => simp [intOf]; omega
              · have HOK := (show Hid _ from hok)
                clear hok
                have hPA := HPA.out.cells
                have r0 := hPA.1
                have r1 := hPA.2.1
                rw [HCV.out] at r0
                rw [HBV2.out] at r1
                have hGA := HGA.out.cells
                have s0 := hGA.1
                have s1 := hGA.2.1
                have s2 := hGA.2.2.1
                have s3 := hGA.2.2.2
                clear hPA hGA
                go_wp2_with fail
                have HG5 := (HGA.out.set0 (.slice aC xs.length cC)).set1 (.slice aB lB cB)
                have hz5 := HG5.cells
                have K5 := HGA.out.kept (o := 0) (x := .slice aC xs.length cC)
                have K6 := (HGA.out.set0 (.slice aC xs.length cC)).kept (o := 1) (x := .slice aB lB cB)
                refine bodyPost_ret (v := .agg #[.slice aC xs.length cC, .slice aB lB cB]) (by simp [results, Try.results49, go_sem, hz5.1, hz5.2.1]) rfl ⟨⟨xs, [⟨2, [], [1, 1 + q2], 0⟩, ⟨1, ds, [], 0⟩] :: bs.tail⟩, _, _, p4, rfl, ?_, ?_, HOK.out, by have := HXL.out; show 1 ≤ xs.length; omega, by omega, by omega, ?_, ?_⟩
                · rw [← HCV.out]; exact own_tag (own_tag HOA.out (by rw [← HCV.out] at K5; exact K5) (by decide)) (by rw [← HCV.out] at K6; exact K6) (by decide)
                · rw [← HBV2.out]; exact OwnBodies.tag (OwnBodies.tag HBA.out K5 (by decide) (by decide) (by decide) (by decide)) (by rw [← HBV2.out] at K6; exact K6) (by decide) (by decide) (by decide) (by decide)
                · exact HRA.out.below (((Below.refl _ _).setCell (by simp; omega) _).setCell (by simp; omega) _)
                · exact (HFA.out.setCell (.inl (by simp)) _).setCell (.inl (by simp)) _
            · have HKB : Hid (OwnInt w.heap.size (w4.alloc (.cells #[.int .i64 1, .int .i64 (1 + q2)] 3)) (.slice (some ⟨w4.heap.size, 0, none⟩) 2 2) [1, 1 + q2]) := ⟨by simp, .inr ⟨w4.heap.size, 2, _, rfl, Nat.le_trans hs1 hs4, heap_alloc_new w4 _, by simp, by unfold maxLen; omega, by simp, by simp⟩⟩
              have HAC := acts2 (B := w.heap.size) (W := (w4.alloc (.cells #[.int .i64 1, .int .i64 (1 + q2)] 3))) HKB.out (World.ownsRow.alloc HDE.out _) (by simp; omega)
              rw [show (w4.alloc (.cells #[.int .i64 1, .int .i64 (1 + q2)] 3)).heap.size = w4.heap.size + 1 from by simp] at HAC
              have HXV : Fr R w1.heap.size w1 ((w4.alloc (.cells #[.int .i64 1, .int .i64 (1 + q2)] 3)).alloc (.cells #[.int .i64 2, .slice none 0 0, .slice (some ⟨w4.heap.size, 0, none⟩) 2 2, .int .i64 0, .int .i64 1, .slice ad ds.length cd, .slice none 0 0, .int .i64 0] 122)) := (HX4.out.alloc hs4 _).alloc (by simp; omega) _
              have HRV : RdAt B ((w4.alloc (.cells #[.int .i64 1, .int .i64 (1 + q2)] 3)).alloc (.cells #[.int .i64 2, .slice none 0 0, .slice (some ⟨w4.heap.size, 0, none⟩) 2 2, .int .i64 0, .int .i64 1, .slice ad ds.length cd, .slice none 0 0, .int .i64 0] 122)) R p4 := HR4.out.below (((Below.refl _ _).alloc HR4.out.le _).alloc (by have := HR4.out.le; simp; omega) _)
              have KEY := fin16 (G := w.heap.size) hle rfl HRV (HF.out.trans (HXV.mono hs1)) (HG.out.fr HXV (by omega)) (HP.out.fr HXV (by omega)) (own_fr HO.out HXV (by omega)) (OwnBodies.fr HBS.out HXV (by omega)) HBLx.out HAC HBV.out
              have eX : ((w4.setCell ⟨g, 0, none⟩ (.slice (some ⟨w4.heap.size + 1, 0, none⟩) 2 2)).alloc (.cells #[.int .i64 1, .int .i64 (1 + q2)] 3)).alloc (.cells #[.int .i64 2, .slice none 0 0, .slice (some ⟨w4.heap.size, 0, none⟩) 2 2, .int .i64 0, .int .i64 1, .slice ad ds.length cd, .slice none 0 0, .int .i64 0] 122) = ((w4.alloc (.cells #[.int .i64 1, .int .i64 (1 + q2)] 3)).alloc (.cells #[.int .i64 2, .slice none 0 0, .slice (some ⟨w4.heap.size, 0, none⟩) 2 2, .int .i64 0, .int .i64 1, .slice ad ds.length cd, .slice none 0 0, .int .i64 0] 122)).setCell ⟨g, 0, none⟩ (.slice (some ⟨w4.heap.size + 1, 0, none⟩) 2 2) := by rw [← World.setCell_alloc_past _ _ _ _ hg4, ← World.setCell_alloc_past _ _ _ _ (by simp; omega)]
              rw [← eX] at KEY
              have HKEY := (show Hid (RdAt _ _ _ _ ∧ _) from KEY)
              clear KEY eX HAC HXV HRV
              generalize ((w4.setCell ⟨g, 0, none⟩ (.slice (some ⟨w4.heap.size + 1, 0, none⟩) 2 2)).alloc (.cells #[.int .i64 1, .int .i64 (1 + q2)] 3)).alloc (.cells #[.int .i64 2, .slice none 0 0, .slice (some ⟨w4.heap.size, 0, none⟩) 2 2, .int .i64 0, .int .i64 1, .slice ad ds.length cd, .slice none 0 0, .int .i64 0] 122) = W5 at HKEY ⊢
              obtain ⟨k1, k2, k3, k4, k5, k6⟩ := HKEY.out
              clear HO HP HG HF HBS HR HR4 HX4 HDE cg cg4 fg fg4 c1 e4 e2 HRd HR2 HR2a HX2 hwr hwq HKEY HKB
              have HR := (show Hid (RdAt _ _ _ _) from k1)
              have HF := (show Hid (Fr _ _ _ _) from k2)
              have HG := (show Hid (PBox _ _ _ _) from k3)
              have HP := (show Hid (PBox _ _ _ _) from k4)
              have HO := (show Hid (OwnInt _ _ _ _) from k5)
              have HBS := (show Hid (OwnBodies _ _ _ _) from k6)
              clear k1 k2 k3 k4 k5 k6 hs4 hs2
              obtain ⟨aC, cC, hcv, _, _⟩ := own_shape HO.out
              obtain ⟨LB, hLB, hrowB, _⟩ := id HBS.out
              obtain ⟨aB, cB, hbv, _, _⟩ := own_shape hrowB
              generalize LB.length = lB at hbv
              clear hrowB hLB
              have hcc := HP.out.cells
              have q0c := hcc.1
              have q1c := hcc.2.1
              rw [hcv] at q0c
              rw [hbv] at q1c
              have hPl := HP.out.lt
              clear hcc
              have HCV := (show Hid _ from hcv)
              have HBV2 := (show Hid _ from hbv)
              clear hcv hbv
              have HAT : Hid (IntsAt W5 (.slice aC xs.length cC) xs ∧ BodiesAt W5 (.slice aB lB cB) ([⟨2, [], [1, 1 + q2], 0⟩, ⟨1, ds, [], 0⟩] :: bs.tail)) := ⟨by have := OwnInt.at HO.out; rwa [HCV.out] at this, by have := OwnBodies.at HBS.out; rwa [HBV2.out] at this⟩
              go_wp2_with fail
              refine (sProgOk_any ⟨xs, [⟨2, [], [1, 1 + q2], 0⟩, ⟨1, ds, [], 0⟩] :: bs.tail⟩ _ _ _ HAT.out.1 HAT.out.2).mono ?_
              rintro e wA ⟨rfl, hbA⟩
              have hfA : Fr R W5.heap.size W5 wA := Fr.of_below hbA
              have HRA : Hid (RdAt B wA R p4) := HR.out.below (hbA.mono HR.out.le)
              have HFA : Hid (Fr R w.heap.size w wA) := HF.out.trans (hfA.mono HF.out.size)
              have HGA : Hid (PBox wA w.heap.size (.slice none 0 0) (.slice none 0 0)) := HG.out.fr hfA (by omega)
              have HPA : Hid (PBox wA P cv bv) := HP.out.fr hfA (by omega)
              have HOA : Hid (OwnInt w.heap.size wA cv xs) := own_fr HO.out hfA (by omega)
              have HBA : Hid (OwnBodies w.heap.size wA bv ([⟨2, [], [1, 1 + q2], 0⟩, ⟨1, ds, [], 0⟩] :: bs.tail)) := OwnBodies.fr HBS.out hfA (by omega)
              clear hbA hfA HAT q0c q1c HO HBS HP HG HF HR
              cases hok : okB ⟨xs, [⟨2, [], [1, 1 + q2], 0⟩, ⟨1, ds, [], 0⟩] :: bs.tail⟩
              · clear hok
                go_wp2_with fail
                go_roundw
                case rel => exact ⟨k + 1, p4, by omega, by go_num, by omega, by omega, HRA.out, HFA.out, HGA.out⟩
                case measure => simp [intOf]; omega
              · have HOK := (show Hid _ from hok)
                clear hok
                have hPA := HPA.out.cells
                have r0 := hPA.1
                have r1 := hPA.2.1
                rw [HCV.out] at r0
                rw [HBV2.out] at r1
                have hGA := HGA.out.cells
                have s0 := hGA.1
                have s1 := hGA.2.1
                have s2 := hGA.2.2.1
                have s3 := hGA.2.2.2
                clear hPA hGA
                go_wp2_with fail
                have HG5 := (HGA.out.set0 (.slice aC xs.length cC)).set1 (.slice aB lB cB)
                have hz5 := HG5.cells
                have K5 := HGA.out.kept (o := 0) (x := .slice aC xs.length cC)
                have K6 := (HGA.out.set0 (.slice aC xs.length cC)).kept (o := 1) (x := .slice aB lB cB)
                refine bodyPost_ret (v := .agg #[.slice aC xs.length cC, .slice aB lB cB]) (by simp [results, Try.results49, go_sem, hz5.1, hz5.2.1]) rfl ⟨⟨xs, [⟨2, [], [1, 1 + q2], 0⟩, ⟨1, ds, [], 0⟩] :: bs.tail⟩, _, _, p4, rfl, ?_, ?_, HOK.out, by have := HXL.out; show 1 ≤ xs.length; omega, by omega, by omega, ?_, ?_⟩
                · rw [← HCV.out]; exact own_tag (own_tag HOA.out (by rw [← HCV.out] at K5; exact K5) (by decide)) (by rw [← HCV.out] at K6; exact K6) (by decide)
                · rw [← HBV2.out]; exact OwnBodies.tag (OwnBodies.tag HBA.out K5 (by decide) (by decide) (by decide) (by decide)) (by rw [← HBV2.out] at K6; exact K6) (by decide) (by decide) (by decide) (by decide)
                · exact HRA.out.below (((Below.refl _ _).setCell (by simp; omega) _).setCell (by simp; omega) _)
                · exact (HFA.out.setCell (.inl (by simp)) _).setCell (.inl (by simp)) _
          obtain ⟨L, hL, hrow, hin⟩ := hBs
          subst hL
          rw [List.length_map] at hbl hbl2 hp7 ⊢
          have hbl' : (L.length : Int) < 2 + (nb : Int) := by omega
          obtain ⟨a, cap, rfl, hcap, hcap'⟩ := own_shape hrow
          obtain ⟨c0, c1, f0, f1⟩ := hP.cells
          have hPlt := hP.lt
          have hs1 := hF.size
          have HRd : Hid (RdAt B wr.drew R p3) := hR.below (Below.refl _ _).drew
          have HO := (show Hid (OwnInt _ _ _ _) from hO)
          have HP := (show Hid (PBox _ _ _ _) from hP)
          have HG := (show Hid (PBox _ _ _ _) from hG)
          have HF := (show Hid (Fr _ _ _ _) from hF)
          have HRW := (show Hid (World.ownsRow _ _ _ _ _ _ _) from hrow)
          have HIN := (show Hid (∀ x, x ∈ L → _) from hin)
          clear hR hO hP hG hF c0 f0 hrow hin
          go_wp2_with fail
          go_region_law (first | (refine step_append_lies _ (by rfl) _ _ 24 (by rfl) w.heap.size 113 i3 (.slice none 0 0) 1 24 Try.underlying24 hi3 hz0 hz1 hz2 rfl (by omega) _ _ _ (by rfl) (World.ownsRow.alloc HRW2.out _) _ 1 1 [.slice av al ac] (by rfl) rfl (cell_one_new _ _ _) (by intro u hu; simp at hu; subst hu; rfl) (by omega) (by unfold maxLen; omega) (by omega) (by simp; omega) _ (by rfl) ?_; intro g cap2 w3 hown3 hgrow hat hlt3; have HT : Hid (TagKept 113 _ w3) := TagKept.grown (World.ownsRow.alloc HRW2.out _) hgrow; have HP3 : Hid (PBox w3 P cv (.slice a L.length cap)) := PBox.tag (PBox.alloc HP2.out _) HT.out (by decide); have HG3 : Hid (PBox w3 w.heap.size (.slice none 0 0) (.slice none 0 0)) := PBox.tag (PBox.alloc HG2.out _) HT.out (by decide); have HO3 : Hid (OwnInt w.heap.size w3 cv xs) := own_tag (World.ownsRow.alloc HO2.out _) HT.out (by decide); have HB3 : Hid (Below w.heap.size w2 w3) := ((Below.refl _ _).alloc hs2 _).grown hgrow (by simp; omega) (fun g hg => (HRW2.out.lt g hg).1); have HBS3 : Hid (OwnBodies w.heap.size w3 (.slice (some ⟨g, 0, none⟩) (L.length + 1) cap2) (L.map (·.1) ++ [acts])) := body_snoc (World.ownsRow.alloc HRW2.out _) (fun x hx => OwnActs.fr (HIN2.out x hx) (Fr.of_below (R := R) ((Below.refl _ _).alloc (Nat.le_refl _) _)) (by omega)) (OwnActs.fr HAC2.out (Fr.of_below (R := R) ((Below.refl _ _).alloc (Nat.le_refl _) _)) (by omega)) hown3 hgrow; have e31 := HP3.out.cells.2.1; have f31 := HP3.out.cells.2.2.2; clear hown3 hgrow hat) | (go_simp; go_at_call 96; refine (l71Body_any B R p3 _ _ _ _ HRd.out (by omega) (by omega) (by omega) (by omega) (by omega) (by omega) (by omega)).mono ?_; rintro e w2 ⟨v2, acts, p4, rfl, hac, hacl, r1, r2, hR2, hF2⟩; have HAC2 : Hid (OwnActs w.heap.size w2 v2 acts) := OwnActs.base hac hs1; obtain ⟨L2, _, hrow2, _⟩ := id hac; obtain ⟨av, ac, hv2, _, _⟩ := own_shape hrow2; generalize L2.length = al at hv2; subst hv2; have HRW2 : Hid (w2.ownsRow w.heap.size 113 1 (.slice a L.length cap) L.length (L.map (·.2))) := own_fr (w := wr.drew) HRW.out hF2 (by omega); have HIN2 : Hid (∀ x, x ∈ L → OwnActs w.heap.size w2 x.2 x.1) := fun x hx => OwnActs.fr (w := wr.drew) (HIN.out x hx) hF2 (by omega); have HO2 : Hid (OwnInt w.heap.size w2 cv xs) := own_fr (w := wr.drew) HO.out hF2 (by omega); have HP2 : Hid (PBox w2 P cv (.slice a L.length cap)) := PBox.fr (w := wr.drew) HP.out hF2 (by omega); have HG2 : Hid (PBox w2 w.heap.size (.slice none 0 0) (.slice none 0 0)) := PBox.fr (w := wr.drew) HG.out hF2 (by omega); have HF2 : Hid (Fr R w.heap.size w w2) := (Fr.drew HF.out).trans (hF2.mono hs1); have HR2 : Hid (RdAt B w2 R p4) := hR2; have hs2 := HF2.out.size; have eP : w2.cell? ⟨P, 1, none⟩ = some (.slice a L.length cap) := HP2.out.cells.2.1; have hP2lt := HP2.out.lt; clear hF2 hR2 hac hrow2))
          all_goals
            have HR3 : Hid (RdAt B w3 R p4) := HR2.out.below (HB3.out.mono hle)
            have HF3 : Hid (Fr R w.heap.size w w3) := HF2.out.trans (Fr.of_below HB3.out)
            have hPw' : w.heap.size ≠ P := by omega
            clear eP e31 f31 HR2 HF2 HB3 HO2 HP2 HG2 HO HP HG HF HRd c1 f1 HRW HIN HRW2 HIN2 HAC2 HT
            go_wp2_with fail
            go_roundw
            case rel =>
              refine ⟨p4, L.map (·.1) ++ [acts], _, by simp; omega, by simp, by omega, by simp; omega, HR3.out.below ((Below.refl _ _).setCell (by simp; omega) _), HF3.out.setCell (.inl (by simp; omega)) _, ?_, HP3.out.set1 _, own_tag HO3.out (PBox.kept HP3.out) (by decide), OwnBodies.tag HBS3.out (PBox.kept HP3.out) (by decide) (by decide) (by decide) (by decide)⟩
              exact HG3.out.heap (Below.heap_setCell _ _ _ _ (by simpa using hPw'))
            case measure => simp [intOf]; omega
      have hjl' : (xs.length : Int) < 1 + (nc : Int) := by omega
      obtain ⟨a, cap, rfl, hcap, hcap'⟩ := own_shape hO
      obtain ⟨c0, c1, f0, f1⟩ := hP.cells
      have hPlt := hP.lt
      have hs1 := hF.size
      have HRd : Hid (RdAt B wr.drew R p2) := hR.below (Below.refl _ _).drew
      have HRa : Hid (∀ o, RdAt B (wr.alloc o).drew R p2) := fun o => hR.below ((Below.refl _ _).alloc hR.le _).drew
      have HO := (show Hid (OwnInt _ _ _ _) from hO)
      have HP := (show Hid (PBox _ _ _ _) from hP)
      have HG := (show Hid (PBox _ _ _ _) from hG)
      have HF := (show Hid (Fr _ _ _ _) from hF)
      clear hR hO hP hG hF c1 f1
      go_wp2_with fail
      go_region_law (first | (refine step_append_lies _ (by rfl) _ _ 23 (by rfl) w.heap.size 3 i2 (.int .i64 0) 1 8 Try.underlying23 hi2 hx0 hx1 hx2 rfl (by omega) _ _ _ (by rfl) (by first | exact World.ownsRow.alloc HO2.out _ | exact World.ownsRow.alloc (World.ownsRow.alloc HO2.out _) _) _ 1 1 [.int .i64 x] (by rfl) rfl (by first | exact cell_one_new _ _ _ | (intro j u hj; rcases j with _ | j <;> simp at hj; subst hj; simp [Addr.add])) (by intro u hu; simp at hu; subst hu; rfl) (by omega) (by unfold maxLen; omega) (by omega) (by simp; omega) _ (by rfl) ?_; intro g cap2 w3 hown3 hgrow hat hlt3; have HP3 : Hid (PBox w3 P (.slice a xs.length cap) (.slice none 0 0)) := (by first | exact PBox.tag (PBox.alloc HP2.out _) (TagKept.grown (World.ownsRow.alloc HO2.out _) hgrow) (by decide) | exact PBox.tag (PBox.alloc (PBox.alloc HP2.out _) _) (TagKept.grown (World.ownsRow.alloc (World.ownsRow.alloc HO2.out _) _) hgrow) (by decide)); have HG3 : Hid (PBox w3 w.heap.size (.slice none 0 0) (.slice none 0 0)) := (by first | exact PBox.tag (PBox.alloc HG2.out _) (TagKept.grown (World.ownsRow.alloc HO2.out _) hgrow) (by decide) | exact PBox.tag (PBox.alloc (PBox.alloc HG2.out _) _) (TagKept.grown (World.ownsRow.alloc (World.ownsRow.alloc HO2.out _) _) hgrow) (by decide)); have HB3 : Hid (Below w.heap.size w2 w3) := (by first | exact ((Below.refl _ _).alloc hs2 _).grown hgrow (by simp; omega) (fun g hg => (HO2.out.lt g hg).1) | exact (((Below.refl _ _).alloc hs2 _).alloc (by simp; omega) _).grown hgrow (by simp; omega) (fun g hg => (HO2.out.lt g hg).1)); have HO3 : Hid (OwnInt w.heap.size w3 (.slice (some ⟨g, 0, none⟩) (xs.length + 1) cap2) (xs ++ [x])) := (by unfold Hid OwnInt; rw [List.map_append, List.length_append]; exact hown3); have e30 := HP3.out.cells.1; have f30 := HP3.out.cells.2.2.1; clear hown3 hgrow hat) | (go_simp; go_at_call 48; refine (pick_any B R p2 _ _ (by first | exact HRd.out | exact HRa.out _) (by omega) (by omega) (by omega)).mono ?_; rintro e w2 ⟨q, rfl, q0, q1, hR2, hF2⟩; obtain ⟨x, hx, hxl⟩ := tbl5 q q0 q1; have HO2 : Hid (OwnInt w.heap.size w2 (.slice a xs.length cap) xs) := (by first | exact own_fr (w := wr.drew) HO.out hF2 (by omega) | exact own_fr (w := (wr.alloc _).drew) (World.ownsRow.alloc HO.out _) hF2 (by omega)); have HP2 : Hid (PBox w2 P (.slice a xs.length cap) (.slice none 0 0)) := (by first | exact PBox.fr (w := wr.drew) HP.out hF2 (by omega) | exact PBox.fr (w := (wr.alloc _).drew) (PBox.alloc HP.out _) hF2 (by omega)); have HG2 : Hid (PBox w2 w.heap.size (.slice none 0 0) (.slice none 0 0)) := (by first | exact PBox.fr (w := wr.drew) HG.out hF2 (by omega) | exact PBox.fr (w := (wr.alloc _).drew) (PBox.alloc HG.out _) hF2 (by omega)); have HF2 : Hid (Fr R w.heap.size w w2) := (by first | exact (Fr.drew HF.out).trans (hF2.mono hs1) | exact (Fr.drew (Fr.alloc HF.out hs1 _)).trans (hF2.mono (by simp; omega))); have HR2 : Hid (RdAt B w2 R (p2 + 1)) := hR2; have hs2 := HF2.out.size; have eP : w2.cell? ⟨P, 0, none⟩ = some (.slice a xs.length cap) := HP2.out.cells.1; have hP2lt := HP2.out.lt; (try (have ex : w2.cell? ⟨wr.heap.size, q.toNat, none⟩ = some (.int .i64 x) := (by rw [hF2.cell (by simp) (by omega)]; simpa [go_sem] using hx))); have hex2 : wr.heap.size < w2.heap.size ∨ True := Or.inr trivial; clear hF2 hR2))
      all_goals
        have HR3 : Hid (RdAt B w3 R (p2 + 1)) := HR2.out.below (HB3.out.mono hle)
        have HF3 : Hid (Fr R w.heap.size w w3) := HF2.out.trans (Fr.of_below HB3.out)
        have hPw' : w.heap.size ≠ P := by omega
        clear eP hx hxl e30 f30 HR2 HF2 HB3 HO2 HP2 HG2 HO HP HG HF HRd HRa c0 f0
        go_wp2_with fail
        go_roundw
        case rel =>
          refine ⟨p2 + 1, xs ++ [x], _, by simp; omega, by simp, by omega, by simp; omega, HR3.out.below ((Below.refl _ _).setCell (by simp; omega) _), HF3.out.setCell (.inl (by simp; omega)) _, ?_, HP3.out.set0 _, own_tag HO3.out (PBox.kept HP3.out) (by decide)⟩
          exact HG3.out.heap (Below.heap_setCell _ _ _ _ (by simpa using hPw'))
        case measure => simp [intOf]; omega
end Go.Proofs.Ytgbgjljflgbcaaa
