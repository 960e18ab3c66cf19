import Derived.Test.YtgbgjljflgbcaaaBase23
import Derived.Test.YtgbgjljflgbcaaaBase15
import Derived.Test.YtgbgjljflgbcaaaBase24
import Derived.Laws.ResultCell
import Derived.Test.YtgbgjljflgbcaaaBase03
import Derived.Handy
namespace Go.Proofs.Ytgbgjljflgbcaaa
open Go.RowKit
set_option linter.unusedSimpArgs false
set_option linter.unusedVariables false
set_option maxRecDepth 20000
def kz : Nat → Key := fun _ => .z
theorem kz_row {B : Nat} {w : World} {e : TypeId} {size : Nat} {v : Value} {n : Nat} {xs : List Value} (h : w.ownsRow B e size v n xs) : Row kz .z B w e size v n xs := ⟨h, fun _ _ => rfl⟩
def PuR (B : Nat) (w : World) (v : Value) (xs : List Pu) : Prop := w.ownsRow B 52 2 v xs.length (xs.flatMap puC)
theorem PuR.go {B : Nat} {w w' : World} {v : Value} {xs : List Pu} (h : PuR B w v xs) (hk : ∀ g, B ≤ g → g < w.heap.size → w'.heap[g]? = w.heap[g]?) : PuR B w' v xs := row_heap h fun g hg => hk g (World.ownsRow.lt h g hg).1 (World.ownsRow.lt h g hg).2
theorem PuR.base {B B' : Nat} {w : World} {v : Value} {xs : List Pu} (h : PuR B w v xs) (hB : B' ≤ B) : PuR B' w v xs := own_base h hB
theorem PuR.on {B : Nat} {w : World} {v : Value} {xs : List Pu} (h : PuR B w v xs) : PusOn (fun b => B ≤ b) w v xs := pR_on (kz_row h)
structure OE (B : Nat) (w : World) (v : Value) (L : List EE) : Prop where
  r : w.ownsRow B 55 6 v L.length (L.flatMap enC)
  e : ∀ x, x ∈ L → PuR B w x.2.d x.1.reads ∧ PuR B w x.2.u x.1.puts
  s : ∃ g c, v = .slice (some ⟨g, 0, none⟩) L.length c
theorem OE.go {B : Nat} {w w' : World} {v : Value} {L : List EE} (h : OE B w v L) (hk : ∀ g, B ≤ g → g < w.heap.size → w'.heap[g]? = w.heap[g]?) : OE B w' v L :=
  ⟨row_heap h.r fun g hg => hk g (h.r.lt g hg).1 (h.r.lt g hg).2, fun x hx => ⟨(h.e x hx).1.go hk, (h.e x hx).2.go hk⟩, h.s⟩
theorem OE.on {B : Nat} {w : World} {v : Value} {L : List EE} (h : OE B w v L) : EnsOn (fun b => B ≤ b) w v (L.map (·.1)) := by
  obtain ⟨a, c, e, h1, h2⟩ := own_shape h.r
  refine ⟨a, c, by rw [List.length_map]; exact e, ⟨by rw [List.length_map]; exact h1, h2⟩, fun i hi => ?_⟩
  rw [List.length_map] at hi
  obtain ⟨g, cap, e', hB, hg, _, _, _, hcell, _⟩ := row_cells (kz_row h.r) (by omega) (by omega)
  rw [e] at e'
  injection e' with e1 e2 e3
  have hc : ∀ j, j < 6 → w.cell? ⟨g, i * 6 + j, none⟩ = (enC (nth EE.z L i))[j]? := fun j hj => by
    rw [hcell _ (by rw [flat_len 6 enC enC_len]; have : (i + 1) * 6 ≤ L.length * 6 := Nat.mul_le_mul_right _ hi; omega)]
    exact flat_at 6 enC enC_len EE.z j hj L i hi
  have hli := h.e _ (nth_mem EE.z L i hi)
  rw [map_nth (·.1) EE.z En.z L i hi]
  refine ⟨g, 0, _, _, e1, hB, hg, ?_, ?_, ?_, ?_, ?_, ?_, hli.1.on, hli.2.on⟩
  · have := hc 0 (by omega); simpa [enC] using this
  · have := hc 1 (by omega); simpa [enC] using this
  · have := hc 2 (by omega); simpa [enC] using this
  · have := hc 3 (by omega); simpa [enC] using this
  · have := hc 4 (by omega); simpa [enC] using this
  · have := hc 5 (by omega); simpa [enC] using this
theorem OE.ins {B q : Nat} {w0 w1 : World} {v v' : Value} {L : List EE} {x : EE} (h : OE B w0 v L) (hq : q ≤ L.length) (hB : B ≤ w0.heap.size) (hk : ∀ g, g < w0.heap.size → w1.heap[g]? = w0.heap[g]?)
    (hr : w1.ownsRow w0.heap.size 55 6 v' (L.length + 1) (((L.take q).flatMap enC ++ enC x) ++ (L.drop q).flatMap enC)) (hd : PuR w0.heap.size w1 x.2.d x.1.reads) (hu : PuR w0.heap.size w1 x.2.u x.1.puts) :
    OE B w1 v' ((L.take q ++ [x]) ++ L.drop q) := by
  have hl : ((L.take q ++ [x]) ++ L.drop q).length = L.length + 1 := by simp; omega
  refine ⟨?_, fun y hy => ?_, ?_⟩
  · have h1 := own_base hr hB
    rw [hl, List.flatMap_append, List.flatMap_append]
    simpa using h1
  · simp only [List.mem_append, List.mem_singleton] at hy
    rcases hy with (hy | hy) | hy
    · exact ⟨(h.e y (List.mem_of_mem_take hy)).1.go fun g _ hg => hk g hg, (h.e y (List.mem_of_mem_take hy)).2.go fun g _ hg => hk g hg⟩
    · subst hy; exact ⟨hd.base hB, hu.base hB⟩
    · exact ⟨(h.e y (List.mem_of_mem_drop hy)).1.go fun g _ hg => hk g hg, (h.e y (List.mem_of_mem_drop hy)).2.go fun g _ hg => hk g hg⟩
  · obtain ⟨g, c, e, _⟩ := row_cells (kz_row hr) (by omega) (by omega)
    exact ⟨g, c, by rw [hl]; exact e⟩
theorem OE.nil {B : Nat} (w : World) (hB : B ≤ w.heap.size) : OE B (w.alloc (.cells #[] 55)) (.slice (some ⟨w.heap.size, 0, none⟩) 0 0) [] :=
  ⟨own_base (own_new w _ 6 (by omega)) hB, fun x hx => absurd hx (by simp), ⟨_, _, rfl⟩⟩
theorem OE.src {B : Nat} {w : World} {g n c : Nat} {L : List EE} (h : OE B w (.slice (some ⟨g, 0, none⟩) n c) L) : n = L.length ∧ n ≤ c ∧ c ≤ 9223372036854775807 ∧ g < w.heap.size ∧ B ≤ g ∧ ∀ j, j < L.length * 6 → w.cell? ⟨g, j, none⟩ = (L.flatMap enC)[j]? := by
  obtain ⟨_, _, e⟩ := h.s
  injection e with e1 e2 e3
  have hlt := h.r.lt g rfl
  obtain ⟨_, _, e', h1, h2⟩ := own_shape h.r
  injection e' with e4 e5 e6
  refine ⟨e2, by omega, by omega, hlt.2, hlt.1, fun j hj => ?_⟩
  obtain ⟨g', c', e7, _, _, _, _, _, hc, _⟩ := row_cells (kz_row h.r) (by omega) (by omega)
  injection e7 with e8 e9 e10
  injection e8 with e8
  injection e8 with e8 _
  subst e8
  exact hc j (by rw [flat_len 6 enC enC_len]; exact hj)
theorem EBx.lt {w : World} {z : Nat} {t : En} {v3 v4 : Value} (h : EBx w z t v3 v4) : z < w.heap.size := bx_lt h
theorem ebox6 {w : World} {X : Nat} {a0 a1 a2 a3 a4 a5 b0 b1 b2 b3 b4 b5 : Value} {t : TypeId} (h : w.heap[X]? = some (.cells #[a0, a1, a2, a3, a4, a5] t (0, 0))) :
    ((((((w.setCell ⟨X, 0, none⟩ b0).setCell ⟨X, 1, none⟩ b1).setCell ⟨X, 2, none⟩ b2).setCell ⟨X, 3, none⟩ b3).setCell ⟨X, 4, none⟩ b4).setCell ⟨X, 5, none⟩ b5).heap[X]? = some (.cells #[b0, b1, b2, b3, b4, b5] t (0, 0)) := by
  have k0 : (w.setCell ⟨X, 0, none⟩ b0).heap[X]? = some (.cells #[b0, a1, a2, a3, a4, a5] t (0, 0)) := by rw [heap_setCell_same w X 0 _ _ b0 h]; rfl
  have k1 : ((w.setCell ⟨X, 0, none⟩ b0).setCell ⟨X, 1, none⟩ b1).heap[X]? = some (.cells #[b0, b1, a2, a3, a4, a5] t (0, 0)) := by rw [heap_setCell_same _ X 1 _ _ b1 k0]; rfl
  have k2 : (((w.setCell ⟨X, 0, none⟩ b0).setCell ⟨X, 1, none⟩ b1).setCell ⟨X, 2, none⟩ b2).heap[X]? = some (.cells #[b0, b1, b2, a3, a4, a5] t (0, 0)) := by rw [heap_setCell_same _ X 2 _ _ b2 k1]; rfl
  have k3 : ((((w.setCell ⟨X, 0, none⟩ b0).setCell ⟨X, 1, none⟩ b1).setCell ⟨X, 2, none⟩ b2).setCell ⟨X, 3, none⟩ b3).heap[X]? = some (.cells #[b0, b1, b2, b3, a4, a5] t (0, 0)) := by rw [heap_setCell_same _ X 3 _ _ b3 k2]; rfl
  have k4 : (((((w.setCell ⟨X, 0, none⟩ b0).setCell ⟨X, 1, none⟩ b1).setCell ⟨X, 2, none⟩ b2).setCell ⟨X, 3, none⟩ b3).setCell ⟨X, 4, none⟩ b4).heap[X]? = some (.cells #[b0, b1, b2, b3, b4, a5] t (0, 0)) := by rw [heap_setCell_same _ X 4 _ _ b4 k3]; rfl
  rw [heap_setCell_same _ X 5 _ _ b5 k4]; rfl
theorem ebox6c {w : World} {X : Nat} {a0 a1 a2 a3 a4 a5 : Value} {t : TypeId} (h : w.heap[X]? = some (.cells #[a0, a1, a2, a3, a4, a5] t (0, 0))) : (w.cell? ⟨X, 0, none⟩ = some a0 ∧ w.cell? ⟨X, 1, none⟩ = some a1 ∧ w.cell? ⟨X, 2, none⟩ = some a2 ∧ w.cell? ⟨X, 3, none⟩ = some a3 ∧ w.cell? ⟨X, 4, none⟩ = some a4 ∧ w.cell? ⟨X, 5, none⟩ = some a5) ∧ ∀ o, w.frozen? ⟨X, o, none⟩ = false := by
  refine ⟨⟨?_, ?_, ?_, ?_, ?_, ?_⟩, fun o => frozen_of_row w X o _ _ h⟩ <;> (rw [cell_of_row w X _ _ _ (0, 0) h]; rfl)
set_option maxHeartbeats 4000000 in
theorem l13Entry_any (t : En) (a3 a4 : Option Addr) (k3 k4 : Nat) (w : World) (h3 : PusAt w (.slice a3 t.reads.length k3) t.reads) (h4 : PusAt w (.slice a4 t.puts.length k4) t.puts) (hs : SmEn t) :
    Calls Try.prog 108 #[.agg #[.int .i64 t.task, .int .i64 t.act, .int .i64 t.when_, .slice a3 t.reads.length k3, .slice a4 t.puts.length k4, .int .i64 t.from_]] w fun r w' => ∃ d u : Value, r = .returned (.agg #[.int .i64 t.task, .int .i64 t.act, .int .i64 t.when_, d, u, .int .i64 t.from_]) ∧ PuR w.heap.size w' d t.reads ∧ PuR w.heap.size w' u t.puts ∧ Below w.heap.size w w' := by
  obtain ⟨n9, n10⟩ := hs
  have H9 := (show Hid (PusAt _ _ _) from h3)
  have H10 := (show Hid (PusAt _ _ _) from h4)
  clear h3 h4
  have HY : Hid (∃ V, V = (w.alloc (.cells #[.int .i64 t.task, .int .i64 t.act, .int .i64 t.when_, .slice a3 t.reads.length k3, .slice a4 t.puts.length k4, .int .i64 t.from_] 55)).alloc (.cells #[.int .i64 0, .int .i64 0, .int .i64 0, .slice none 0 0, .slice none 0 0, .int .i64 0] 55) ∧ EBx V w.heap.size t (.slice a3 t.reads.length k3) (.slice a4 t.puts.length k4) ∧ V.heap[w.heap.size + 1]? = some (.cells #[.int .i64 0, .int .i64 0, .int .i64 0, .slice none 0 0, .slice none 0 0, .int .i64 0] 55 (0, 0)) ∧ V.heap.size = w.heap.size + 2 ∧ Below w.heap.size w V) := by
    refine ⟨_, rfl, ?_, ?_, by simp, ((Below.refl _ _).alloc (Nat.le_refl _) _).alloc (by simp) _⟩
    · unfold EBx
      rw [Below.heap_alloc _ _ _ (by simp)]; exact heap_alloc_new w _
    · have := heap_alloc_new (w.alloc (.cells #[.int .i64 t.task, .int .i64 t.act, .int .i64 t.when_, .slice a3 t.reads.length k3, .slice a4 t.puts.length k4, .int .i64 t.from_] 55)) (.cells #[.int .i64 0, .int .i64 0, .int .i64 0, .slice none 0 0, .slice none 0 0, .int .i64 0] 55)
      simpa using this
  go_enter Try.func108, Try.ntmps108
  go_wp2_with fail
  obtain ⟨V, hV, hX, hR, hVs, hVb⟩ := HY.out
  rw [← hV]
  clear hV HY
  have HX := (show Hid (EBx _ _ _ _ _) from hX)
  have HR := (show Hid (_ = _) from hR)
  have HVB := (show Hid (Below _ _ _) from hVb)
  obtain ⟨⟨c0, c1, c2, c3, c4, c5⟩, cf, cl⟩ := hX.cells
  clear hX hR hVb
  go_wp2_with fail
  refine (l11Puts_any _ t.reads _ (H9.out.mono HVB.out) n9).mono ?_
  rintro e w8 ⟨b3, m3, rfl, hown8, hb8⟩
  have hs8 := hb8.size
  have X3 : Hid (EBx (w8.setCell ⟨w.heap.size, 3, none⟩ (.slice b3 t.reads.length m3)) w.heap.size t (.slice b3 t.reads.length m3) (.slice a4 t.puts.length k4)) := (HX.out.heap (hb8.block _ cl)).set3 _
  have HB8 : Hid (Below w.heap.size w (w8.setCell ⟨w.heap.size, 3, none⟩ (.slice b3 t.reads.length m3))) := (HVB.out.trans (hb8.mono (by omega))).setCell (Nat.le_refl _) _
  have HR9 : Hid (PuR V.heap.size (w8.setCell ⟨w.heap.size, 3, none⟩ (.slice b3 t.reads.length m3)) (.slice b3 t.reads.length m3) t.reads) := row_set hown8 (by omega)
  have HR8 : Hid ((w8.setCell ⟨w.heap.size, 3, none⟩ (.slice b3 t.reads.length m3)).heap[w.heap.size + 1]? = some (.cells #[.int .i64 0, .int .i64 0, .int .i64 0, .slice none 0 0, .slice none 0 0, .int .i64 0] 55 (0, 0))) := ((heap_set_ne _ _ _ _ (by show w.heap.size + 1 ≠ w.heap.size; omega)).trans (hb8.block _ (by omega))).trans HR.out
  have hsx : (w8.setCell ⟨w.heap.size, 3, none⟩ (.slice b3 t.reads.length m3)).heap.size = w8.heap.size := by simp
  have f8 := (HX.out.heap (hb8.block _ cl)).cells.2.1 3
  have x84 := (HX.out.heap (hb8.block _ cl)).cells.1.2.2.2.2.1
  have x83 := (HX.out.heap (hb8.block _ cl)).cells.1.2.2.2.1
  have x8l := (HX.out.heap (hb8.block _ cl)).cells.2.2
  clear hown8 hb8 c0 c1 c2 c3 c4 c5 cf HX HR
  go_wp2_with fail
  revert X3 HB8 HR9 HR8 hsx
  generalize w8.setCell ⟨w.heap.size, 3, none⟩ (.slice b3 t.reads.length m3) = w9
  intro X3 HB8 HR9 HR8 hsx
  have cl := X3.out.lt
  refine (l11Puts_any _ t.puts _ (H10.out.mono HB8.out) n10).mono ?_
  rintro e w10 ⟨b4, m4, rfl, hown10, hb10⟩
  have hs10 := hb10.size
  have X4 : Hid (EBx (w10.setCell ⟨w.heap.size, 4, none⟩ (.slice b4 t.puts.length m4)) w.heap.size t (.slice b3 t.reads.length m3) (.slice b4 t.puts.length m4)) := (X3.out.heap (hb10.block _ cl)).set4 _
  have HB10 : Hid (Below w.heap.size w (w10.setCell ⟨w.heap.size, 4, none⟩ (.slice b4 t.puts.length m4))) := (HB8.out.trans (hb10.mono (by omega))).setCell (Nat.le_refl _) _
  have HRA : Hid (PuR w9.heap.size (w10.setCell ⟨w.heap.size, 4, none⟩ (.slice b4 t.puts.length m4)) (.slice b4 t.puts.length m4) t.puts) := row_set hown10 (by omega)
  have HRB : Hid (PuR V.heap.size (w10.setCell ⟨w.heap.size, 4, none⟩ (.slice b4 t.puts.length m4)) (.slice b3 t.reads.length m3) t.reads) := row_set (row_heap HR9.out (fun g hg => hb10.block g (World.ownsRow.lt HR9.out g hg).2)) (by omega)
  have HRC : Hid ((w10.setCell ⟨w.heap.size, 4, none⟩ (.slice b4 t.puts.length m4)).heap[w.heap.size + 1]? = some (.cells #[.int .i64 0, .int .i64 0, .int .i64 0, .slice none 0 0, .slice none 0 0, .int .i64 0] 55 (0, 0))) := ((heap_set_ne _ _ _ _ (by show w.heap.size + 1 ≠ w.heap.size; omega)).trans (hb10.block _ (by omega))).trans HR8.out
  have f10 := (X3.out.heap (hb10.block _ cl)).cells.2.1 4
  obtain ⟨⟨c0, c1, c2, c3, c4, c5⟩, _, c6⟩ := (X3.out.heap (hb10.block _ cl)).cells
  obtain ⟨⟨r0, r1, r2, r3, r4, r5⟩, rf⟩ := ebox6c ((hb10.block _ (by omega)).trans HR8.out)
  have rf0 := rf 0
  have rf1 := rf 1
  have rf2 := rf 2
  have rf3 := rf 3
  have rf4 := rf 4
  have rf5 := rf 5
  have hl11 := bx_lt ((hb10.block _ (by omega)).trans HR8.out)
  clear rf hown10 hb10 X3 HR8 HR9
  go_wp2_with fail
  obtain ⟨⟨d0, d1, d2, d3, d4, d5⟩, _⟩ := ebox6c (ebox6 (b0 := .int .i64 t.task) (b1 := .int .i64 t.act) (b2 := .int .i64 t.when_) (b3 := .slice b3 t.reads.length m3) (b4 := .slice b4 t.puts.length m4) (b5 := .int .i64 t.from_) HRC.out)
  refine bodyPost_ret (v := .agg #[.int .i64 t.task, .int .i64 t.act, .int .i64 t.when_, .slice b3 t.reads.length m3, .slice b4 t.puts.length m4, .int .i64 t.from_]) (by simp [results, Try.results108, go_sem, d0, d1, d2, d3, d4, d5]) rfl ⟨_, _, rfl, ?_, ?_, ?_⟩
  · exact PuR.base (row_set (row_set (row_set (row_set (row_set (row_set HRB.out (by omega)) (by omega)) (by omega)) (by omega)) (by omega)) (by omega)) (by omega)
  · exact PuR.base (row_set (row_set (row_set (row_set (row_set (row_set HRA.out (by omega)) (by omega)) (by omega)) (by omega)) (by omega)) (by omega)) (by omega)
  · exact (((((HB10.out.setCell (by simp) _).setCell (by simp) _).setCell (by simp) _).setCell (by simp) _).setCell (by simp) _).setCell (by simp) _
end Go.Proofs.Ytgbgjljflgbcaaa

namespace Go.Proofs.Ytgbgjljflgbcaaa
open Go.RowKit
set_option linter.unusedSimpArgs false
set_option linter.unusedVariables false
set_option maxRecDepth 20000
def ahB (a b : En) : Bool := if a.when_ = b.when_ then decide (0 < a.puts.length) && decide (b.puts.length = 0) else decide (a.when_ < b.when_)
set_option maxHeartbeats 1000000 in
theorem l13Ahead_any (x y : En) (a3 a4 b3 b4 : Option Addr) (c3 c4 d3 d4 : Nat) (w : World) :
    Calls Try.prog 107 #[.agg #[.int .i64 x.task, .int .i64 x.act, .int .i64 x.when_, .slice a3 x.reads.length c3, .slice a4 x.puts.length c4, .int .i64 x.from_], .agg #[.int .i64 y.task, .int .i64 y.act, .int .i64 y.when_, .slice b3 y.reads.length d3, .slice b4 y.puts.length d4, .int .i64 y.from_]] w fun r w' => r = .returned (.bool (ahB x y)) ∧ Below w.heap.size w w' := by
  by_cases q : x.when_ = y.when_
  · have q1 : (x.when_ == y.when_) = true := by simp [q]
    have q2 : ¬ x.when_ < y.when_ := by omega
    have q3 : (y.when_ == y.when_) = true := by simp
    by_cases p1 : 0 < x.puts.length
    · have p1' : (0 : Int) < (x.puts.length : Int) := by omega
      by_cases p2 : y.puts.length = 0
      · have p2' : ((y.puts.length : Int) == 0) = true := by simp [p2]
        have HF : Hid (ahB x y = true) := by simp [Hid, ahB, q, p1, p2]
        clear p1
        go_enter Try.func107, Try.ntmps107
        go_wp2_with fail
        go_ret
        exact ⟨by rw [HF.out]; rfl, (by repeat (first | with_reducible exact Below.refl _ _ | (with_reducible refine Below.setCell ?_ ?hs _; case hs => ((try simp); try omega)) | (with_reducible refine Below.alloc ?_ ?hs _; case hs => ((try simp); try omega)) | with_reducible refine Below.drew ?_))⟩
      · have p2' : ((y.puts.length : Int) == 0) = false := by simp [p2]
        have HF : Hid (ahB x y = false) := by simp [Hid, ahB, q, p1, p2]
        clear p1 p2
        go_enter Try.func107, Try.ntmps107
        go_wp2_with fail
        go_ret
        exact ⟨by rw [HF.out]; rfl, (by repeat (first | with_reducible exact Below.refl _ _ | (with_reducible refine Below.setCell ?_ ?hs _; case hs => ((try simp); try omega)) | (with_reducible refine Below.alloc ?_ ?hs _; case hs => ((try simp); try omega)) | with_reducible refine Below.drew ?_))⟩
    · have p1' : ¬ (0 : Int) < (x.puts.length : Int) := by omega
      have HF : Hid (ahB x y = false) := by simp [Hid, ahB, q, p1]
      clear p1
      go_enter Try.func107, Try.ntmps107
      go_wp2_with fail
      go_ret
      exact ⟨by rw [HF.out]; rfl, (by repeat (first | with_reducible exact Below.refl _ _ | (with_reducible refine Below.setCell ?_ ?hs _; case hs => ((try simp); try omega)) | (with_reducible refine Below.alloc ?_ ?hs _; case hs => ((try simp); try omega)) | with_reducible refine Below.drew ?_))⟩
  · have q1 : (x.when_ == y.when_) = false := by simp [q]
    by_cases q2 : x.when_ < y.when_
    · have HF : Hid (ahB x y = true) := by simp [Hid, ahB, q, q2]
      go_enter Try.func107, Try.ntmps107
      go_wp2_with fail
      go_ret
      exact ⟨by rw [HF.out]; rfl, (by repeat (first | with_reducible exact Below.refl _ _ | (with_reducible refine Below.setCell ?_ ?hs _; case hs => ((try simp); try omega)) | (with_reducible refine Below.alloc ?_ ?hs _; case hs => ((try simp); try omega)) | with_reducible refine Below.drew ?_))⟩
    · have HF : Hid (ahB x y = false) := by simp [Hid, ahB, q, q2]
      go_enter Try.func107, Try.ntmps107
      go_wp2_with fail
      go_ret
      exact ⟨by rw [HF.out]; rfl, (by repeat (first | with_reducible exact Below.refl _ _ | (with_reducible refine Below.setCell ?_ ?hs _; case hs => ((try simp); try omega)) | (with_reducible refine Below.alloc ?_ ?hs _; case hs => ((try simp); try omega)) | with_reducible refine Below.drew ?_))⟩
end Go.Proofs.Ytgbgjljflgbcaaa
