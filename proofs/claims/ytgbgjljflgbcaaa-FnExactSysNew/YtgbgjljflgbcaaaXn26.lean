import Derived.Test.YtgbgjljflgbcaaaXn22
import Derived.Test.YtgbgjljflgbcaaaXn16
import Derived.Test.YtgbgjljflgbcaaaXn25
import Derived.Handy
import Derived.Deep.QuietTactic
import Derived.BigQuiet
import Derived.Deep.RegionWith
import Derived.Test.YtgbgjljflgbcaaaXn24
import Derived.Deep.Upon
import Derived.Deep.AppendLies
import Derived.BigRegion
import Derived.Laws.ResultCell
import Derived.Deep.LoopGhost
import Derived.Test.YtgbgjljflgbcaaaXn21
namespace Go.Proofs.Ytgbgjljflgbcaaa
open Go.RowKit
set_option linter.unusedSimpArgs false
set_option linter.unusedVariables false
set_option maxRecDepth 20000
def PrS (S : Nat → Prop) (w : World) (cv bv : Value) (p : Pr) : Prop := IntsOn S w cv p.cells ∧ BodiesOn S w bv p.bodies
theorem PrS.kept {S : Nat → Prop} {w w' : World} {cv bv : Value} {p : Pr} (h : PrS S w cv bv p) (hk : Kept S w w') : PrS S w' cv bv p := ⟨h.1.kept hk, h.2.kept hk⟩
theorem map_nth {α β : Type} (f : α → β) (z : α) (zb : β) (l : List α) (i : Nat) (hi : i < l.length) : nth zb (l.map f) i = f (nth z l i) := by
  rw [nth_eq zb _ i (by simpa using hi), nth_eq z l i hi]; simp
structure TkAt (f : Nat → Key) (B : Nat) (w : World) (g i : Nat) (t : Ta) (V : TV) : Prop where
  ge : B ≤ g
  lt : g < w.heap.size
  key : f g = .t
  c : ∀ j, j < 13 → w.cell? ⟨g, i * 13 + j, none⟩ = (taC (t, V))[j]?
  fz : ∀ o, w.frozen? ⟨g, o, none⟩ = false
  ti : TIn f B w i (t, V)
theorem OwnSy.tk {f : Nat → Key} {B : Nat} {w : World} {cv tv lv : Value} {cs : List Ce} {T : List TT} {L : List EE} (h : OwnSy f B w cv tv lv cs T L) {i : Nat} (hi : i < T.length) :
    ∃ g cap, tv = .slice (some ⟨g, 0, none⟩) T.length cap ∧ TkAt f B w g i (nth TT.z T i).1 (nth TT.z T i).2 := by
  obtain ⟨g, cap, rfl, h1, h2, h3, h4, h5, h6, h7⟩ := row_cells h.t (by omega) (by omega)
  refine ⟨g, cap, rfl, h1, h2, h5, fun j hj => ?_, h7, h.ti i hi⟩
  rw [h6 _ (by rw [flat_len 13 taC taC_len]; have : (i + 1) * 13 ≤ T.length * 13 := Nat.mul_le_mul_right _ hi; omega)]
  exact flat_at 13 taC taC_len TT.z j hj T i hi
theorem TIn.shapes {f : Nat → Key} {B : Nat} {w : World} {i : Nat} {t : Ta} {V : TV} (h : TIn f B w i (t, V)) : ∃ a3 c3 a8 c8 a9 c9 a10 c10, V = ⟨.slice a3 t.regs.length c3, .slice a8 t.old.length c8, .slice a9 t.reads.length c9, .slice a10 t.puts.length c10⟩ := by
  obtain ⟨r, o, d, u⟩ := V
  obtain ⟨a3, c3, e3, _⟩ := own_shape h.r.1
  obtain ⟨a8, c8, e8, _⟩ := own_shape h.o.1
  obtain ⟨a9, c9, e9, _⟩ := own_shape h.d.1
  obtain ⟨a10, c10, e10, _⟩ := own_shape h.u.1
  simp only at e3 e8 e9 e10
  subst e3 e8 e9 e10
  exact ⟨a3, c3, a8, c8, a9, c9, a10, c10, rfl⟩
theorem TkAt.cells {f : Nat → Key} {B : Nat} {w : World} {g i : Nat} {t : Ta} {V : TV} (h : TkAt f B w g i t V) :
    w.cell? ⟨g, i * 13, none⟩ = some (.int .i64 t.body) ∧ w.cell? ⟨g, i * 13 + 1, none⟩ = some (.int .i64 t.pc) ∧ w.cell? ⟨g, i * 13 + 2, none⟩ = some (.int .i64 t.up) ∧ w.cell? ⟨g, i * 13 + 3, none⟩ = some V.r ∧ w.cell? ⟨g, i * 13 + 4, none⟩ = some (.int .i64 t.way) ∧ w.cell? ⟨g, i * 13 + 5, none⟩ = some (.int .i64 t.stage) ∧ w.cell? ⟨g, i * 13 + 6, none⟩ = some (.int .i64 t.at_) ∧ w.cell? ⟨g, i * 13 + 7, none⟩ = some (.int .i64 t.since) ∧ w.cell? ⟨g, i * 13 + 8, none⟩ = some V.o ∧ w.cell? ⟨g, i * 13 + 9, none⟩ = some V.d ∧ w.cell? ⟨g, i * 13 + 10, none⟩ = some V.u ∧ w.cell? ⟨g, i * 13 + 11, none⟩ = some (.int .i64 t.when_) ∧ w.cell? ⟨g, i * 13 + 12, none⟩ = some (.int .i64 t.from_) :=
  ⟨h.c 0 (by omega), h.c 1 (by omega), h.c 2 (by omega), h.c 3 (by omega), h.c 4 (by omega), h.c 5 (by omega), h.c 6 (by omega), h.c 7 (by omega), h.c 8 (by omega), h.c 9 (by omega), h.c 10 (by omega), h.c 11 (by omega), h.c 12 (by omega)⟩
end Go.Proofs.Ytgbgjljflgbcaaa

namespace Go.Proofs.Ytgbgjljflgbcaaa
open Go.RowKit
set_option linter.unusedSimpArgs false
set_option linter.unusedVariables false
set_option maxRecDepth 20000
theorem cells_new (w : World) (M : List Value) (t : TypeId) : ∀ j u, M[j]? = some u → (w.alloc (.cells M.toArray t)).cell? ((⟨w.heap.size, 0, none⟩ : Addr).add j) = some u := fun j u hu => by
  rw [Go.WideShapes.add_plain, Nat.zero_add]
  simpa using hu
end Go.Proofs.Ytgbgjljflgbcaaa

namespace Go.Proofs.Ytgbgjljflgbcaaa
open Go.RowKit
set_option linter.unusedSimpArgs false
set_option linter.unusedVariables false
theorem pR_on {f : Nat → Key} {κ : Key} {B : Nat} {w : World} {v : Value} {xs : List Pu} (h : pR f κ B w v xs) : PusOn (fun b => B ≤ b) w v xs := by
  obtain ⟨a, cap, rfl, h1, h2⟩ := own_shape h.1
  refine ⟨a, cap, rfl, ⟨h1, h2⟩, fun i hi => ?_⟩
  obtain ⟨g, c, e, hB, hl, _, _, _, hc, _⟩ := row_cells h (by omega) (by omega)
  injection e with e1 e2 e3
  subst e1
  have hlen : (xs.flatMap puC).length = xs.length * 2 := flat_len 2 puC puC_len xs
  have F := fun q (hq : q < 2) => (hc (i * 2 + q) (by omega)).trans (flat_at 2 puC puC_len Pu.z q hq xs i hi)
  exact ⟨g, 0, rfl, hB, hl, by rw [Nat.zero_add]; exact F 0 (by omega), by rw [Nat.zero_add]; exact F 1 (by omega)⟩
theorem iR_on {f : Nat → Key} {κ : Key} {B : Nat} {w : World} {v : Value} {xs : List Int} (h : iR f κ B w v xs) : IntsOn (fun b => B ≤ b) w v xs := by
  obtain ⟨a, cap, rfl, h1, h2⟩ := own_shape h.1
  refine ⟨a, cap, rfl, by omega, fun i hi => ?_⟩
  obtain ⟨g, c, e, hB, hl, _, _, _, hc, _⟩ := row_cells h (by omega) (by omega)
  injection e with e1 e2 e3
  subst e1
  refine ⟨g, 0, rfl, hB, hl, ?_⟩
  rw [Nat.zero_add, hc i (by simpa using hi), nth_eq 0 xs i hi]
  simp [hi]
theorem OwnSy.cesOn {f : Nat → Key} {B : Nat} {w : World} {cv tv lv : Value} {cs : List Ce} {T : List TT} {L : List EE} (h : OwnSy f B w cv tv lv cs T L) : CesOn (fun b => B ≤ b) w cv cs := by
  obtain ⟨a, c, e, h1, h2⟩ := own_shape h.c.1
  refine ⟨a, c, e, ⟨h1, h2⟩, fun i hi => ?_⟩
  obtain ⟨g, cap, e', hB, hg, _, _, _, hcell, _⟩ := row_cells h.c (by omega) (by omega)
  rw [e] at e'
  injection e' with e1 e2 e3
  have hc : ∀ j, j < 3 → w.cell? ⟨g, i * 3 + j, none⟩ = (ceC (nth Ce.z cs i))[j]? := fun j hj => by
    rw [hcell _ (by rw [flat_len 3 ceC ceC_len]; have : (i + 1) * 3 ≤ cs.length * 3 := Nat.mul_le_mul_right _ hi; omega)]
    exact flat_at 3 ceC ceC_len Ce.z j hj cs i hi
  refine ⟨g, 0, e1, hB, hg, ?_, ?_, ?_⟩
  · have := hc 0 (by omega); simpa [ceC] using this
  · have := hc 1 (by omega); simpa [ceC] using this
  · have := hc 2 (by omega); simpa [ceC] using this
theorem OwnSy.tasOn {f : Nat → Key} {B : Nat} {w : World} {cv tv lv : Value} {cs : List Ce} {T : List TT} {L : List EE} (h : OwnSy f B w cv tv lv cs T L) : TasOn (fun b => B ≤ b) w tv (T.map (·.1)) := by
  obtain ⟨a, c, e, h1, h2⟩ := own_shape h.t.1
  refine ⟨a, c, by rw [List.length_map]; exact e, ⟨by rw [List.length_map]; exact h1, h2⟩, fun i hi => ?_⟩
  rw [List.length_map] at hi
  obtain ⟨g, cap, e', h7⟩ := h.tk hi
  rw [e] at e'
  injection e' with e1 e2 e3
  obtain ⟨t0, t1, t2, t3, t4, t5, t6, t7, t8, t9, t10, t11, t12⟩ := h7.cells
  rw [map_nth (·.1) TT.z Ta.z T i hi]
  refine ⟨g, 0, _, _, _, _, e1, h7.ge, h7.lt, ?_, ?_, ?_, ?_, ?_, ?_, ?_, ?_, ?_, ?_, ?_, ?_, ?_, iR_on h7.ti.r, iR_on h7.ti.o, pR_on h7.ti.d, pR_on h7.ti.u⟩ <;> simp only [Nat.zero_add] <;> assumption
theorem OwnSy.ensOn {f : Nat → Key} {B : Nat} {w : World} {cv tv lv : Value} {cs : List Ce} {T : List TT} {L : List EE} (h : OwnSy f B w cv tv lv cs T L) : EnsOn (fun b => B ≤ b) w lv (L.map (·.1)) := by
  obtain ⟨a, c, e, h1, h2⟩ := own_shape h.l.1
  refine ⟨a, c, by rw [List.length_map]; exact e, ⟨by rw [List.length_map]; exact h1, h2⟩, fun i hi => ?_⟩
  rw [List.length_map] at hi
  obtain ⟨g, cap, e', hB, hg, _, _, _, hcell, _⟩ := row_cells h.l (by omega) (by omega)
  rw [e] at e'
  injection e' with e1 e2 e3
  have hc : ∀ j, j < 6 → w.cell? ⟨g, i * 6 + j, none⟩ = (enC (nth EE.z L i))[j]? := fun j hj => by
    rw [hcell _ (by rw [flat_len 6 enC enC_len]; have : (i + 1) * 6 ≤ L.length * 6 := Nat.mul_le_mul_right _ hi; omega)]
    exact flat_at 6 enC enC_len EE.z j hj L i hi
  have hli := h.li i hi
  rw [map_nth (·.1) EE.z En.z L i hi]
  refine ⟨g, 0, _, _, e1, hB, hg, ?_, ?_, ?_, ?_, ?_, ?_, pR_on hli.d, pR_on hli.u⟩
  · have := hc 0 (by omega); simpa [enC] using this
  · have := hc 1 (by omega); simpa [enC] using this
  · have := hc 2 (by omega); simpa [enC] using this
  · have := hc 3 (by omega); simpa [enC] using this
  · have := hc 4 (by omega); simpa [enC] using this
  · have := hc 5 (by omega); simpa [enC] using this
theorem OwnSy.on {f : Nat → Key} {B : Nat} {w : World} {cv tv lv : Value} {T : List TT} {L : List EE} {s : Sy} (h : OwnSy f B w cv tv lv s.cells T L) (hT : T.map (·.1) = s.tasks) (hL : L.map (·.1) = s.log) : SyOn (fun b => B ≤ b) w cv tv lv s :=
  ⟨h.cesOn, by rw [← hT]; exact h.tasOn, by rw [← hL]; exact h.ensOn⟩
theorem SyOn.kept {S : Nat → Prop} {w w' : World} {cv tv lv : Value} {s : Sy} (h : SyOn S w cv tv lv s) (hk : Kept S w w') : SyOn S w' cv tv lv s := ⟨h.1.kept hk, h.2.1.kept hk, h.2.2.kept hk⟩
theorem SyOn.wide {S S' : Nat → Prop} (hS : ∀ b, S b → S' b) {w : World} {cv tv lv : Value} {s : Sy} (h : SyOn S w cv tv lv s) : SyOn S' w cv tv lv s := ⟨h.1.wide hS, h.2.1.wide hS, h.2.2.wide hS⟩
end Go.Proofs.Ytgbgjljflgbcaaa
