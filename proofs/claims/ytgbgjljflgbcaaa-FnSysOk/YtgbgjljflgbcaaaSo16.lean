import Derived.Test.YtgbgjljflgbcaaaSo15
import Derived.Deep.QuietTactic
import Derived.BigQuiet
import Derived.Deep.RegionWith
import Derived.Test.YtgbgjljflgbcaaaSo01
namespace Go.Proofs.Ytgbgjljflgbcaaa
open Go.RowKit
set_option linter.unusedSimpArgs false
set_option linter.unusedVariables false
set_option maxRecDepth 20000
theorem setTk_two (s : Sy) (i : Nat) (t t' : Ta) : setTk (setTk s i t) i t' = setTk s i t' := by simp [setTk]
theorem SW.set3 {X B : Nat} {w : World} {pc pb : Value} {p : Pr} {s : Sy} (h : SW X B w pc pb p s) {g cap n i o : Nat} {v : Value} (hg : w.cell? ⟨X, 3, none⟩ = some (.slice (some ⟨g, 0, none⟩) n cap)) (hi : i < s.tasks.length) : (w.setCell ⟨g, o, none⟩ v).cell? ⟨X, 3, none⟩ = some (.slice (some ⟨g, 0, none⟩) n cap) := by
 obtain ⟨f, cv, g', cap', lv, T, L, V, h1, h2, h3, h4, h5, h6, h7, h8, h9⟩ := h.tk hi
 have hg' := hg
 rw [hg] at h5
 simp only [Option.some.injEq, Value.slice.injEq, Addr.mk.injEq, and_true] at h5
 obtain ⟨rfl, rfl, rfl⟩ := h5
 rw [cell_set_blk _ _ _ _ _ _ (by have := h7.ge; have := h.lt; omega)]
 exact hg'
def scsT (l : List (Nat × Int)) (t : Ta) : Ta := l.foldl (fun t y => Go.Proofs.Ytgbgjljflgbcaaa.sc y.1 y.2 t) t
def scsW (w : World) (g i : Nat) (l : List (Nat × Int)) : World := l.foldl (fun w y => w.setCell ⟨g, i * 13 + y.1, none⟩ (.int .i64 y.2)) w
theorem SW.scs {X B : Nat} {pc pb : Value} {p : Pr} (l : List (Nat × Int)) (hl : l.all (fun y => scB y.1) = true) {w : World} {s : Sy} (h : SW X B w pc pb p s) {g cap n : Nat} (hg : w.cell? ⟨X, 3, none⟩ = some (.slice (some ⟨g, 0, none⟩) n cap)) {i : Nat} (hi : i < s.tasks.length) :
  SW X B (scsW w g i l) pc pb p (setTk s i (scsT l (tkN s i))) := by
 induction l generalizing w s with
 | nil =>
  have : setTk s i (scsT [] (tkN s i)) = s := by
   show setTk s i (tkN s i) = s
   unfold setTk tkN
   rw [nth_eq Ta.z s.tasks i hi, List.set_getElem_self]
  rw [this]; exact h
 | cons y l ih =>
  simp only [List.all_cons, Bool.and_eq_true] at hl
  have h1 := h.sc hg hi hl.1 y.2
  have h2 := ih hl.2 h1 (h.set3 hg hi) (by rw [setTk_len]; exact hi)
  rw [tkN_same hi, setTk_two] at h2
  exact h2
theorem SW.nr {X B : Nat} {w0 w : World} {pc pb : Value} {p : Pr} {s : Sy} (h : SW X B w0 pc pb p s) (hb : Below w0.heap.size w0 w) {g cap n : Nat} (hg : w0.cell? ⟨X, 3, none⟩ = some (.slice (some ⟨g, 0, none⟩) n cap)) {i : Nat} (hi : i < s.tasks.length) {v : Value} {xs : List Int} (hv : w.ownsRow w0.heap.size 3 1 v xs.length (xs.map (Value.int .i64))) :
   SW X B (w.setCell ⟨g, i * 13 + 3, none⟩ v) pc pb p (setTk s i { tkN s i with regs := xs }) := by
 obtain ⟨f, cv, g', cap', lv, T, L, V, h1, h2, h3, h4, h5, h6, h7, h8, h9⟩ := h.tk hi
 have hg' := hg
 rw [hg] at h5
 simp only [Option.some.injEq, Value.slice.injEq, Addr.mk.injEq, and_true] at h5
 obtain ⟨rfl, rfl, rfl⟩ := h5
 have hne : X ≠ g := by have := h7.ge; have := h.lt; omega
 have hXl : X < w0.heap.size := by have := h.le; have := h.lt; omega
 have hgl := h7.lt
 have cl : ∀ o, w.cell? ⟨X, o, none⟩ = w0.cell? ⟨X, o, none⟩ := fun o => hb.cell (p := ⟨X, o, none⟩) hXl
 have hc := fun o => (cell_set_blk w g (i * 13 + 3) v X o hne).trans (cl o)
 have M : ∀ {κ : Key} {e : TypeId} {sz : Nat} {v : Value} {n : Nat} (xs : List Value), Row f κ B w0 e sz v n xs -> Row (fun b => if b < w0.heap.size then f b else .r i) κ B w e sz v n xs := fun xs hr => hr.move (fun b _ hb1 e => by show (if b < w0.heap.size then f b else _) = _; rw [if_pos hb1]; exact e) (fun b _ hb1 _ => hb.block b hb1)
 have h1' : OwnSy (fun b => if b < w0.heap.size then f b else .r i) B w cv (.slice (some ⟨g, 0, none⟩) s.tasks.length cap) lv s.cells T L := h1.ext (fun b _ hb1 => if_pos hb1) (fun b _ hb1 => hb.block b hb1)
 have hT : TIn (fun b => if b < w0.heap.size then f b else .r i) B w i ({ tkN s i with regs := xs }, { V with r := v }) := ⟨⟨own_base hv (by have := h.le; omega), fun b hb' => by show (if b < w0.heap.size then f b else _) = _; rw [if_neg (by have := (hv.lt b hb').1; omega)]⟩, (M _ h7.ti.o), (M _ h7.ti.d), (M _ h7.ti.u)⟩
 refine SW.with (h.below hb) (s' := setTk s i { tkN s i with regs := xs }) (h1'.setT (j := 3) (x := v) ({ tkN s i with regs := xs }, { V with r := v }) h9 (by omega) hT (by rw [h8]; rfl)) (set_map h2 i _) h3 ((FrS.refl _ _).setCell (Or.inr h7.ge) _) ?_ ?_ ?_ ?_ ?_ ?_ (fun o => ?_)
 . rw [hc]; exact h4
 . rw [hc]; exact hg'
 . rw [hc]; exact h6
 . rw [hc]; exact h.c0
 . rw [hc]; exact h.c1
 . rw [hc]; exact h.c4
 . rw [World.frozen?_setCell, hb.frozen (p := ⟨X, o, none⟩) hXl]; exact h.fz o
theorem SW.no {X B : Nat} {w0 w : World} {pc pb : Value} {p : Pr} {s : Sy} (h : SW X B w0 pc pb p s) (hb : Below w0.heap.size w0 w) {g cap n : Nat} (hg : w0.cell? ⟨X, 3, none⟩ = some (.slice (some ⟨g, 0, none⟩) n cap)) {i : Nat} (hi : i < s.tasks.length) {v : Value} {xs : List Int} (hv : w.ownsRow w0.heap.size 3 1 v xs.length (xs.map (Value.int .i64))) :
   SW X B (w.setCell ⟨g, i * 13 + 8, none⟩ v) pc pb p (setTk s i { tkN s i with old := xs }) := by
 obtain ⟨f, cv, g', cap', lv, T, L, V, h1, h2, h3, h4, h5, h6, h7, h8, h9⟩ := h.tk hi
 have hg' := hg
 rw [hg] at h5
 simp only [Option.some.injEq, Value.slice.injEq, Addr.mk.injEq, and_true] at h5
 obtain ⟨rfl, rfl, rfl⟩ := h5
 have hne : X ≠ g := by have := h7.ge; have := h.lt; omega
 have hXl : X < w0.heap.size := by have := h.le; have := h.lt; omega
 have hgl := h7.lt
 have cl : ∀ o, w.cell? ⟨X, o, none⟩ = w0.cell? ⟨X, o, none⟩ := fun o => hb.cell (p := ⟨X, o, none⟩) hXl
 have hc := fun o => (cell_set_blk w g (i * 13 + 8) v X o hne).trans (cl o)
 have M : ∀ {κ : Key} {e : TypeId} {sz : Nat} {v : Value} {n : Nat} (xs : List Value), Row f κ B w0 e sz v n xs -> Row (fun b => if b < w0.heap.size then f b else .o i) κ B w e sz v n xs := fun xs hr => hr.move (fun b _ hb1 e => by show (if b < w0.heap.size then f b else _) = _; rw [if_pos hb1]; exact e) (fun b _ hb1 _ => hb.block b hb1)
 have h1' : OwnSy (fun b => if b < w0.heap.size then f b else .o i) B w cv (.slice (some ⟨g, 0, none⟩) s.tasks.length cap) lv s.cells T L := h1.ext (fun b _ hb1 => if_pos hb1) (fun b _ hb1 => hb.block b hb1)
 have hT : TIn (fun b => if b < w0.heap.size then f b else .o i) B w i ({ tkN s i with old := xs }, { V with o := v }) := ⟨(M _ h7.ti.r), ⟨own_base hv (by have := h.le; omega), fun b hb' => by show (if b < w0.heap.size then f b else _) = _; rw [if_neg (by have := (hv.lt b hb').1; omega)]⟩, (M _ h7.ti.d), (M _ h7.ti.u)⟩
 refine SW.with (h.below hb) (s' := setTk s i { tkN s i with old := xs }) (h1'.setT (j := 8) (x := v) ({ tkN s i with old := xs }, { V with o := v }) h9 (by omega) hT (by rw [h8]; rfl)) (set_map h2 i _) h3 ((FrS.refl _ _).setCell (Or.inr h7.ge) _) ?_ ?_ ?_ ?_ ?_ ?_ (fun o => ?_)
 . rw [hc]; exact h4
 . rw [hc]; exact hg'
 . rw [hc]; exact h6
 . rw [hc]; exact h.c0
 . rw [hc]; exact h.c1
 . rw [hc]; exact h.c4
 . rw [World.frozen?_setCell, hb.frozen (p := ⟨X, o, none⟩) hXl]; exact h.fz o
theorem SW.nd {X B : Nat} {w0 w : World} {pc pb : Value} {p : Pr} {s : Sy} (h : SW X B w0 pc pb p s) (hb : Below w0.heap.size w0 w) {g cap n : Nat} (hg : w0.cell? ⟨X, 3, none⟩ = some (.slice (some ⟨g, 0, none⟩) n cap)) {i : Nat} (hi : i < s.tasks.length) {v : Value} {xs : List Pu} (hv : w.ownsRow w0.heap.size 52 2 v xs.length (xs.flatMap puC)) :
   SW X B (w.setCell ⟨g, i * 13 + 9, none⟩ v) pc pb p (setTk s i { tkN s i with reads := xs }) := by
 obtain ⟨f, cv, g', cap', lv, T, L, V, h1, h2, h3, h4, h5, h6, h7, h8, h9⟩ := h.tk hi
 have hg' := hg
 rw [hg] at h5
 simp only [Option.some.injEq, Value.slice.injEq, Addr.mk.injEq, and_true] at h5
 obtain ⟨rfl, rfl, rfl⟩ := h5
 have hne : X ≠ g := by have := h7.ge; have := h.lt; omega
 have hXl : X < w0.heap.size := by have := h.le; have := h.lt; omega
 have hgl := h7.lt
 have cl : ∀ o, w.cell? ⟨X, o, none⟩ = w0.cell? ⟨X, o, none⟩ := fun o => hb.cell (p := ⟨X, o, none⟩) hXl
 have hc := fun o => (cell_set_blk w g (i * 13 + 9) v X o hne).trans (cl o)
 have M : ∀ {κ : Key} {e : TypeId} {sz : Nat} {v : Value} {n : Nat} (xs : List Value), Row f κ B w0 e sz v n xs -> Row (fun b => if b < w0.heap.size then f b else .d i) κ B w e sz v n xs := fun xs hr => hr.move (fun b _ hb1 e => by show (if b < w0.heap.size then f b else _) = _; rw [if_pos hb1]; exact e) (fun b _ hb1 _ => hb.block b hb1)
 have h1' : OwnSy (fun b => if b < w0.heap.size then f b else .d i) B w cv (.slice (some ⟨g, 0, none⟩) s.tasks.length cap) lv s.cells T L := h1.ext (fun b _ hb1 => if_pos hb1) (fun b _ hb1 => hb.block b hb1)
 have hT : TIn (fun b => if b < w0.heap.size then f b else .d i) B w i ({ tkN s i with reads := xs }, { V with d := v }) := ⟨(M _ h7.ti.r), (M _ h7.ti.o), ⟨own_base hv (by have := h.le; omega), fun b hb' => by show (if b < w0.heap.size then f b else _) = _; rw [if_neg (by have := (hv.lt b hb').1; omega)]⟩, (M _ h7.ti.u)⟩
 refine SW.with (h.below hb) (s' := setTk s i { tkN s i with reads := xs }) (h1'.setT (j := 9) (x := v) ({ tkN s i with reads := xs }, { V with d := v }) h9 (by omega) hT (by rw [h8]; rfl)) (set_map h2 i _) h3 ((FrS.refl _ _).setCell (Or.inr h7.ge) _) ?_ ?_ ?_ ?_ ?_ ?_ (fun o => ?_)
 . rw [hc]; exact h4
 . rw [hc]; exact hg'
 . rw [hc]; exact h6
 . rw [hc]; exact h.c0
 . rw [hc]; exact h.c1
 . rw [hc]; exact h.c4
 . rw [World.frozen?_setCell, hb.frozen (p := ⟨X, o, none⟩) hXl]; exact h.fz o
theorem SW.nu {X B : Nat} {w0 w : World} {pc pb : Value} {p : Pr} {s : Sy} (h : SW X B w0 pc pb p s) (hb : Below w0.heap.size w0 w) {g cap n : Nat} (hg : w0.cell? ⟨X, 3, none⟩ = some (.slice (some ⟨g, 0, none⟩) n cap)) {i : Nat} (hi : i < s.tasks.length) {v : Value} {xs : List Pu} (hv : w.ownsRow w0.heap.size 52 2 v xs.length (xs.flatMap puC)) :
   SW X B (w.setCell ⟨g, i * 13 + 10, none⟩ v) pc pb p (setTk s i { tkN s i with puts := xs }) := by
 obtain ⟨f, cv, g', cap', lv, T, L, V, h1, h2, h3, h4, h5, h6, h7, h8, h9⟩ := h.tk hi
 have hg' := hg
 rw [hg] at h5
 simp only [Option.some.injEq, Value.slice.injEq, Addr.mk.injEq, and_true] at h5
 obtain ⟨rfl, rfl, rfl⟩ := h5
 have hne : X ≠ g := by have := h7.ge; have := h.lt; omega
 have hXl : X < w0.heap.size := by have := h.le; have := h.lt; omega
 have hgl := h7.lt
 have cl : ∀ o, w.cell? ⟨X, o, none⟩ = w0.cell? ⟨X, o, none⟩ := fun o => hb.cell (p := ⟨X, o, none⟩) hXl
 have hc := fun o => (cell_set_blk w g (i * 13 + 10) v X o hne).trans (cl o)
 have M : ∀ {κ : Key} {e : TypeId} {sz : Nat} {v : Value} {n : Nat} (xs : List Value), Row f κ B w0 e sz v n xs -> Row (fun b => if b < w0.heap.size then f b else .u i) κ B w e sz v n xs := fun xs hr => hr.move (fun b _ hb1 e => by show (if b < w0.heap.size then f b else _) = _; rw [if_pos hb1]; exact e) (fun b _ hb1 _ => hb.block b hb1)
 have h1' : OwnSy (fun b => if b < w0.heap.size then f b else .u i) B w cv (.slice (some ⟨g, 0, none⟩) s.tasks.length cap) lv s.cells T L := h1.ext (fun b _ hb1 => if_pos hb1) (fun b _ hb1 => hb.block b hb1)
 have hT : TIn (fun b => if b < w0.heap.size then f b else .u i) B w i ({ tkN s i with puts := xs }, { V with u := v }) := ⟨(M _ h7.ti.r), (M _ h7.ti.o), (M _ h7.ti.d), ⟨own_base hv (by have := h.le; omega), fun b hb' => by show (if b < w0.heap.size then f b else _) = _; rw [if_neg (by have := (hv.lt b hb').1; omega)]⟩⟩
 refine SW.with (h.below hb) (s' := setTk s i { tkN s i with puts := xs }) (h1'.setT (j := 10) (x := v) ({ tkN s i with puts := xs }, { V with u := v }) h9 (by omega) hT (by rw [h8]; rfl)) (set_map h2 i _) h3 ((FrS.refl _ _).setCell (Or.inr h7.ge) _) ?_ ?_ ?_ ?_ ?_ ?_ (fun o => ?_)
 . rw [hc]; exact h4
 . rw [hc]; exact hg'
 . rw [hc]; exact h6
 . rw [hc]; exact h.c0
 . rw [hc]; exact h.c1
 . rw [hc]; exact h.c4
 . rw [World.frozen?_setCell, hb.frozen (p := ⟨X, o, none⟩) hXl]; exact h.fz o
theorem heap_set_id {w : World} {g o : Nat} {cur : Array Value} {t : TypeId} {v : Value} (hg : w.heap[g]? = some (.cells cur t (0, 0))) (hv : cur[o]? = some v) (k : Nat) : (w.setCell ⟨g, o, none⟩ v).heap[k]? = w.heap[k]? := by
 by_cases e : k = g
 . subst e
   rw [heap_setCell_same w k o cur t v hg, hg]
   have : cur.setIfInBounds o v = cur := by
     apply Array.ext_getElem?
     intro j
     rw [Array.getElem?_setIfInBounds]
     split
     . rename_i e
       subst e
       rw [hv]
       obtain ⟨hl, _⟩ := Array.getElem?_eq_some_iff.1 hv
       simp [hl]
     . rfl
   rw [this]
 . exact heap_set_ne w _ v k e
theorem SW.reg {X B : Nat} {w : World} {pc pb : Value} {p : Pr} {s : Sy} (h : SW X B w pc pb p s) {i a b n cap : Nat} (hi : i < s.tasks.length) {g0 c0 n0 : Nat} (hg : w.cell? ⟨X, 3, none⟩ = some (.slice (some ⟨g0, 0, none⟩) n0 c0)) (hr : w.cell? ⟨g0, i * 13 + 3, none⟩ = some (.slice (some ⟨b, 0, none⟩) n cap)) (x : Int) :
   SW X B (w.setCell ⟨b, a, none⟩ (.int .i64 x)) pc pb p (setTk s i { tkN s i with regs := (tkN s i).regs.set a x }) := by
 obtain ⟨f, cv, g', cap', lv, T, L, V, h1, h2, h3, h4, h5, h6, h7, h8, h9⟩ := h.tk hi
 have hg' := hg
 rw [hg] at h5
 simp only [Option.some.injEq, Value.slice.injEq, Addr.mk.injEq, and_true] at h5
 obtain ⟨rfl, rfl, rfl⟩ := h5
 have hV : V.r = .slice (some ⟨b, 0, none⟩) n cap := by
   have := h7.cells.2.2.2.1
   rw [this] at hr
   injection hr
 have hb : B <= b := (h7.ti.r.1.lt b (by show Value.ownBlock V.r = _; rw [hV]; rfl)).1
 have hne : X ≠ b := by have := h.lt; omega
 have hc := fun o => cell_set_blk w b a (.int .i64 x) X o hne
 have h1' := h1.setR h9 (by rw [h8]; exact hV) (a := a) x
 rw [h8] at h1'
 refine h.with (s' := setTk s i { tkN s i with regs := (tkN s i).regs.set a x }) h1' (set_map h2 i _) h3 ((FrS.refl _ _).setCell (Or.inr hb) _) ?_ ?_ ?_ ?_ ?_ ?_ (fun o => ?_)
 . rw [hc]; exact h4
 . rw [hc]; exact hg'
 . rw [hc]; exact h6
 . rw [hc]; exact h.c0
 . rw [hc]; exact h.c1
 . rw [hc]; exact h.c4
 . rw [World.frozen?_setCell]; exact h.fz o
theorem SW.cs {X B : Nat} {w : World} {pc pb : Value} {p : Pr} {s : Sy} (h : SW X B w pc pb p s) {c : Nat} (hc : c < s.cells.length) :
  ∃ g cap, w.cell? ⟨X, 2, none⟩ = some (.slice (some ⟨g, 0, none⟩) s.cells.length cap) /\ B <= g /\ g < w.heap.size /\ (∀ j, j < s.cells.length -> w.cell? ⟨g, j * 3, none⟩ = some (.int .i64 (nth Ce.z s.cells j).num) /\ w.cell? ⟨g, j * 3 + 1, none⟩ = some (.int .i64 (nth Ce.z s.cells j).time) /\ w.cell? ⟨g, j * 3 + 2, none⟩ = some (.int .i64 (nth Ce.z s.cells j).lock)) /\ ∀ o, w.frozen? ⟨g, o, none⟩ = false := by
 obtain ⟨f, cv, tv, lv, T, L, h1, h2, h3, h4, h5, h6⟩ := h.ex
 obtain ⟨g, cap, rfl, k1, k2, k3, k4, k5, k6, k7⟩ := row_cells h1.c (by omega) (by omega)
 refine ⟨g, cap, h4, k1, k2, fun j hj => ?_, k7⟩
 have hl : j * 3 + 2 < (s.cells.flatMap ceC).length := by rw [flat_len 3 ceC ceC_len]; omega
 have F := fun q (hq : q < 3) => (k6 (j * 3 + q) (by omega)).trans (flat_at 3 ceC ceC_len Ce.z q hq s.cells j hj)
 exact ⟨F 0 (by omega), F 1 (by omega), F 2 (by omega)⟩
theorem SW.cel {X B : Nat} {w : World} {pc pb : Value} {p : Pr} {s : Sy} (h : SW X B w pc pb p s) {g n cap c j : Nat} (hg : w.cell? ⟨X, 2, none⟩ = some (.slice (some ⟨g, 0, none⟩) n cap)) (hcl : c < s.cells.length) (hj : j < 3) (x : Value) (y : Ce) (hy : ceC y = (ceC (nth Ce.z s.cells c)).set j x) :
   SW X B (w.setCell ⟨g, c * 3 + j, none⟩ x) pc pb p { s with cells := s.cells.set c y } := by
 obtain ⟨f, cv, tv, lv, T, L, h1, h2, h3, h4, h5, h6⟩ := h.ex
 have hg' := hg
 rw [hg] at h4
 injection h4 with e
 subst e
 have hb : B <= g := (h1.c.1.lt g rfl).1
 have hne : X ≠ g := by have := h.lt; omega
 have hc := fun o => cell_set_blk w g (c * 3 + j) x X o hne
 refine h.with (s' := { s with cells := s.cells.set c y }) (h1.setC (j := j) y hcl hj hy) h2 h3 ((FrS.refl _ _).setCell (Or.inr hb) _) ?_ ?_ ?_ ?_ ?_ ?_ (fun o => ?_)
 . rw [hc]; exact hg'
 . rw [hc]; exact h5
 . rw [hc]; exact h6
 . rw [hc]; exact h.c0
 . rw [hc]; exact h.c1
 . rw [hc]; exact h.c4
 . rw [World.frozen?_setCell]; exact h.fz o
theorem SW.clk {X B : Nat} {w : World} {pc pb : Value} {p : Pr} {s : Sy} (h : SW X B w pc pb p s) (x : Int) : SW X B (w.setCell ⟨X, 4, none⟩ (.int .i64 x)) pc pb p { s with clock := x } := by
 obtain ⟨f, cv, tv, lv, T, L, h1, h2, h3, h4, h5, h6⟩ := h.ex
 have hc := fun o (ho : o ≠ 4) => cell_set_other w X 4 (.int .i64 x) ⟨X, o, none⟩ (fun e => ho (by injection e))
 refine h.with (s' := { s with clock := x }) (h1.setX h.lt _) h2 h3 ((FrS.refl _ _).setCell (Or.inl rfl) _) ?_ ?_ ?_ ?_ ?_ ?_ (fun o => ?_)
 . rw [hc _ (by omega)]; exact h4
 . rw [hc _ (by omega)]; exact h5
 . rw [hc _ (by omega)]; exact h6
 . rw [hc _ (by omega)]; exact h.c0
 . rw [hc _ (by omega)]; exact h.c1
 . exact World.cell?_setCell_same w ⟨X, 4, none⟩ _ h.c4
 . rw [World.frozen?_setCell]; exact h.fz o

set_option maxHeartbeats 8000000
set_option maxRecDepth 20000
theorem stage_any (X B : Nat) (pc pb : Value) (p : Pr) (s : Sy) (i : Nat) (st : Int) (w : World) (h : SW X B w pc pb p s) (hi : i < s.tasks.length) :
  Calls Try.prog 161 #[.pointer (some ⟨X, 0, none⟩), .int .i64 (i : Int), .int .i64 st] w fun r w' => r = .returned (.tuple #[]) /\ SW X B w' pc pb p (setTk s i { tkN s i with stage := st, at_ := 0 }) /\ FrS (SX X B) w w' := by
 obtain ⟨f, cv, g, cap, lv, T, L, V, h1, h2, h3, h4, h5, h6, h7, h8, h9⟩ := h.tk hi
 obtain ⟨a3, c3, a8, c8, a9, c9, a10, c10, rfl⟩ := h7.ti.shapes
 obtain ⟨t0, t1, t2, t3, t4, t5, t6, t7, t8, t9, t10, t11, t12⟩ := h7.cells
 simp only at t3 t8 t9 t10
 have tz := h7.fz
 have hi' : (i : Int) < (s.tasks.length : Int) := by omega
 have hX := h.lt
 have hB := h.le
 have hgB := h7.ge
 have hgl := h7.lt
 have hXl : X < w.heap.size := by omega
 have hXg : X ≠ g := by omega
 have HTI := (show Hid (TIn _ _ _ _ _) from h7.ti)
 have HK := (show Hid (f g = .t /\ ∀ b, cv.ownBlock = some b -> f b = .c) from ⟨h7.key, h1.c.2⟩)
 have HS := (show Hid (SW _ _ _ _ _ _ _) from h)
 clear h1 h2 h3 h7 h8 h9 h
 clear t0 t1 t2 t3 t4 t7 t8 t9 t10 t11 t12
 go_enter Try.func161, Try.ntmps161
 go_wp2_with fail
 go_end0
 exact ⟨rfl, HS.out.scs [(5, st), (6, 0)] rfl h5 hi, ((FrS.refl _ _).setCell (Or.inr hgB) _).setCell (Or.inr hgB) _⟩
theorem fails_any (X B : Nat) (pc pb : Value) (p : Pr) (s : Sy) (i : Nat) (w : World) (h : SW X B w pc pb p s) (hi : i < s.tasks.length) :
  Calls Try.prog 151 #[.pointer (some ⟨X, 0, none⟩), .int .i64 (i : Int)] w fun r w' => r = .returned (.tuple #[]) /\ SW X B w' pc pb p (setTk s i { tkN s i with way := 3 }) /\ FrS (SX X B) w w' := by
 obtain ⟨f, cv, g, cap, lv, T, L, V, h1, h2, h3, h4, h5, h6, h7, h8, h9⟩ := h.tk hi
 obtain ⟨a3, c3, a8, c8, a9, c9, a10, c10, rfl⟩ := h7.ti.shapes
 obtain ⟨t0, t1, t2, t3, t4, t5, t6, t7, t8, t9, t10, t11, t12⟩ := h7.cells
 simp only at t3 t8 t9 t10
 have tz := h7.fz
 have hi' : (i : Int) < (s.tasks.length : Int) := by omega
 have hX := h.lt
 have hB := h.le
 have hgB := h7.ge
 have hgl := h7.lt
 have hXl : X < w.heap.size := by omega
 have hXg : X ≠ g := by omega
 have HTI := (show Hid (TIn _ _ _ _ _) from h7.ti)
 have HK := (show Hid (f g = .t /\ ∀ b, cv.ownBlock = some b -> f b = .c) from ⟨h7.key, h1.c.2⟩)
 have HS := (show Hid (SW _ _ _ _ _ _ _) from h)
 clear h1 h2 h3 h7 h8 h9 h
 clear t0 t1 t2 t3 t5 t6 t7 t8 t9 t10 t11 t12
 go_enter Try.func151, Try.ntmps151
 go_wp2_with fail
 go_end0
 exact ⟨rfl, HS.out.scs [(4, 3)] rfl h5 hi, (FrS.refl _ _).setCell (Or.inr hgB) _⟩
theorem blind_any (X B : Nat) (pc pb : Value) (p : Pr) (s : Sy) (i : Nat) (c : Nat) (w : World) (h : SW X B w pc pb p s) (hi : i < s.tasks.length) (hc : c < s.cells.length) :
   Calls Try.prog 172 #[.pointer (some ⟨X, 0, none⟩), .int .i64 (i : Int), .int .i64 (c : Int)] w fun r w' => r = .returned (.bool (blindB s i c)) /\ Below w.heap.size w w' := by
 obtain ⟨f, cv, g, cap, lv, T, L, V, h1, h2, h3, h4, h5, h6, h7, h8, h9⟩ := h.tk hi
 obtain ⟨a3, c3, a8, c8, a9, c9, a10, c10, rfl⟩ := h7.ti.shapes
 obtain ⟨t0, t1, t2, t3, t4, t5, t6, t7, t8, t9, t10, t11, t12⟩ := h7.cells
 simp only at t3 t8 t9 t10
 have tz := h7.fz
 have hi' : (i : Int) < (s.tasks.length : Int) := by omega
 have hX := h.lt
 have hB := h.le
 have hgB := h7.ge
 have hgl := h7.lt
 have hXl : X < w.heap.size := by omega
 have hXg : X ≠ g := by omega
 have HTI := (show Hid (TIn _ _ _ _ _) from h7.ti)
 have HK := (show Hid (f g = .t /\ ∀ b, cv.ownBlock = some b -> f b = .c) from ⟨h7.key, h1.c.2⟩)
 have HS := (show Hid (SW _ _ _ _ _ _ _) from h)
 clear h1 h2 h3 h7 h8 h9 h
 clear t0 t1 t2 t3 t4 t5 t6 t8 t9 t10 t11 t12
 obtain ⟨gc, kc, x2, gcB, gcl, cc, cz⟩ := HS.out.cs hc
 obtain ⟨d0, d1, d2⟩ := cc c hc
 have hgcg : gc ≠ g := by
   have x2' := x2
   rw [h4] at x2'
   injection x2' with e
   intro q
   have h1 := HK.out.2 gc (by rw [e]; rfl)
   rw [q, HK.out.1] at h1
   cases h1
 have hXgc : X ≠ gc := by omega
 clear cc h4
 have hc' : (c : Int) < (s.cells.length : Int) := by omega
 have hB0 : Hid (blindB s i c = ((decide (0 <= (nth Ce.z s.cells c).lock) && !decide ((nth Ce.z s.cells c).lock = i)) || decide ((tkN s i).since < (nth Ce.z s.cells c).time))) := by unfold Hid blindB ceN; rw [Int.toNat_natCast]
 by_cases q1 : 0 <= (nth Ce.z s.cells c).lock
 . by_cases q2 : (nth Ce.z s.cells c).lock = (i : Int)
   . have q2' : ((nth Ce.z s.cells c).lock != (i : Int)) = false := by simp [q2]
     have HF : Hid (blindB s i c = decide ((tkN s i).since < (nth Ce.z s.cells c).time)) := by unfold Hid; rw [hB0.out]; simp [q2]
     clear hB0
     have Q2 := (show Hid (_ = _) from q2)
     clear q2
     go_enter Try.func172, Try.ntmps172
     go_wp2_with fail
     (try go_quiet (fail))
     (try go_wp2_with fail)
     go_ret
     exact ⟨by rw [HF.out]; first | done | rfl, bq0⟩
   . have q2' : ((nth Ce.z s.cells c).lock != (i : Int)) = true := by simp [q2]
     have HF : Hid (blindB s i c = true) := by unfold Hid; rw [hB0.out]; simp [q1, q2]
     clear hB0
     go_enter Try.func172, Try.ntmps172
     go_wp2_with fail
     (try go_quiet (fail))
     (try go_wp2_with fail)
     go_ret
     exact ⟨by rw [HF.out]; first | done | rfl, bq0⟩
 . have HF : Hid (blindB s i c = decide ((tkN s i).since < (nth Ce.z s.cells c).time)) := by unfold Hid; rw [hB0.out]; simp [q1]
   have q1' : decide (0 <= (nth Ce.z s.cells c).lock) = false := by simp; omega
   clear hB0
   go_enter Try.func172, Try.ntmps172
   go_wp2_with fail
   (try go_quiet (fail))
   (try go_wp2_with fail)
   go_ret
   exact ⟨by rw [HF.out]; first | done | rfl, bq0⟩
end Go.Proofs.Ytgbgjljflgbcaaa
