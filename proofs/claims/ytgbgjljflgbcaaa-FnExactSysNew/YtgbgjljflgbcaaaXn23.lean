import Derived.Test.YtgbgjljflgbcaaaXn16
import Derived.Test.YtgbgjljflgbcaaaXn21
import Derived.Deep.Upon
import Derived.Deep.Slices
import Derived.Handy
namespace Go.Proofs.Ytgbgjljflgbcaaa
open Go.RowKit
set_option linter.unusedSimpArgs false
set_option linter.unusedVariables false
set_option maxRecDepth 20000
def newTa (body up : Int) : Ta := ⟨body, 0, up, [0, 0, 0], 0, 0, 0, 0, [0, 0, 0], [], [], 0, 0⟩
def newS (p : Pr) : Sy := if okB p then ⟨p.cells.map fun n => ⟨n, 0, -1⟩, [newTa 0 (-1)], 0, []⟩ else ⟨[], [], 0, []⟩
def Zero3 (w : World) (g : Nat) : Prop := w.heap[g]? = some (.cells #[.int .i64 0, .int .i64 0, .int .i64 0] 3)
theorem heap_top (w : World) (o : Obj) : (w.alloc o).heap[w.heap.size]? = some o := by
  show (w.heap.push o)[w.heap.size]? = some o
  simp
theorem zero_two (w : World) (A : Obj) : Zero3 (((w.alloc A).alloc (.cells #[.int .i64 0, .int .i64 0, .int .i64 0] 3)).alloc (.cells #[.int .i64 0, .int .i64 0, .int .i64 0] 3)).drew (w.heap.size + 1) ∧ Zero3 (((w.alloc A).alloc (.cells #[.int .i64 0, .int .i64 0, .int .i64 0] 3)).alloc (.cells #[.int .i64 0, .int .i64 0, .int .i64 0] 3)).drew (w.heap.size + 1 + 1) := by
  have e1 : (w.alloc A).heap.size = w.heap.size + 1 := by simp
  have e2 : ((w.alloc A).alloc (.cells #[.int .i64 0, .int .i64 0, .int .i64 0] 3)).heap.size = w.heap.size + 1 + 1 := by simp
  have h1 := heap_top (w.alloc A) (.cells #[.int .i64 0, .int .i64 0, .int .i64 0] 3)
  have h2 := heap_top ((w.alloc A).alloc (.cells #[.int .i64 0, .int .i64 0, .int .i64 0] 3)) (.cells #[.int .i64 0, .int .i64 0, .int .i64 0] 3)
  rw [e1] at h1
  rw [e2] at h2
  exact ⟨((((Below.refl (w.heap.size + 1 + 1) ((w.alloc A).alloc (.cells #[.int .i64 0, .int .i64 0, .int .i64 0] 3))).alloc (by simp) (.cells #[.int .i64 0, .int .i64 0, .int .i64 0] 3)).drew).block (w.heap.size + 1) (by omega)).trans h1, h2⟩
theorem mk3 (W : World) : Sem.run Try.prog (Instr.makeSlice 23 (.int .i64 3) (.int .i64 3)) W = .ok (.slice (some ⟨W.heap.size, 0, none⟩) 3 3) (W.alloc (.cells #[.int .i64 0, .int .i64 0, .int .i64 0] 3)) := by
  first | kernel_rfl | rfl
set_option maxHeartbeats 1000000 in
theorem newTask_any (body up : Int) (w : World) :
    Calls Try.prog 36 #[.int .i64 body, .int .i64 up] w fun r w' => ∃ g1 g2, r = .returned (.agg #[.int .i64 body, .int .i64 0, .int .i64 up, .slice (some ⟨g1, 0, none⟩) 3 3, .int .i64 0, .int .i64 0, .int .i64 0, .int .i64 0, .slice (some ⟨g2, 0, none⟩) 3 3, .slice none 0 0, .slice none 0 0, .int .i64 0, .int .i64 0]) ∧ w.heap.size ≤ g1 ∧ w.heap.size ≤ g2 ∧ g1 ≠ g2 ∧ Zero3 w' g1 ∧ Zero3 w' g2 ∧ Below w.heap.size w w' := by
  have hmk := mk3
  go_enter Try.func36, Try.ntmps36
  go_wp2_with fail
  go_region
  all_goals
    go_wp2_with fail
    first
      | (refine bodyPost_ret (v := .agg #[.int .i64 body, .int .i64 0, .int .i64 up, .slice (some ⟨w.heap.size + 1, 0, none⟩) 3 3, .int .i64 0, .int .i64 0, .int .i64 0, .int .i64 0, .slice (some ⟨w.heap.size + 1 + 1, 0, none⟩) 3 3, .slice none 0 0, .slice none 0 0, .int .i64 0, .int .i64 0]) ?hr rfl ⟨_, _, rfl, by omega, by omega, by omega, (zero_two w _).1, (zero_two w _).2, (by repeat (first | with_reducible exact Below.refl _ _ | (with_reducible refine Below.setCell ?_ ?hs _; case hs => ((try simp); try omega)) | (with_reducible refine Below.alloc ?_ ?hs _; case hs => ((try simp); try omega)) | with_reducible refine Below.drew ?_))⟩; case hr => (simp [results, Try.results36, go_sem]; done))
      | (refine bodyPost_ret (v := .agg #[.int .i64 body, .int .i64 0, .int .i64 up, .slice (some ⟨w.heap.size + 1 + 1, 0, none⟩) 3 3, .int .i64 0, .int .i64 0, .int .i64 0, .int .i64 0, .slice (some ⟨w.heap.size + 1, 0, none⟩) 3 3, .slice none 0 0, .slice none 0 0, .int .i64 0, .int .i64 0]) ?hr rfl ⟨_, _, rfl, by omega, by omega, by omega, (zero_two w _).2, (zero_two w _).1, (by repeat (first | with_reducible exact Below.refl _ _ | (with_reducible refine Below.setCell ?_ ?hs _; case hs => ((try simp); try omega)) | (with_reducible refine Below.alloc ?_ ?hs _; case hs => ((try simp); try omega)) | with_reducible refine Below.drew ?_))⟩; case hr => (simp [results, Try.results36, go_sem]; done))
end Go.Proofs.Ytgbgjljflgbcaaa
