import Derived.Test.YtgbgjljflgbcaaaNe34
import Derived.DataReads
namespace Go.Proofs.Ytgbgjljflgbcaaa
open Go.RowKit
set_option linter.unusedSimpArgs false
set_option linter.unusedVariables false

/-- bytes that came in, as the draws are told of them -/
theorem bytes_of {w : World} {x : Addr} {len cap : Nat} {zs : List Int} (hl : len ≤ cap) (hz : zs.length = cap) (hcell : ∀ i, i < zs.length → w.cell? (x.add i) = some (.int .u8 (zs.getD i 0))) (hwf : ∀ n ∈ zs, (Lit.int .u8 n).wf = true) : Bytes w (some x) len := fun i hi => by
  have hi' : i < zs.length := by omega
  have h1 := hcell i hi'
  have hlt := World.block_lt_of_cell? w _ h1
  have hs := World.cell?_spot (hcell 0 (by omega))
  have hw := hwf (zs.getD i 0) (by rw [List.getD_eq_getElem?_getD, List.getElem?_eq_getElem hi']; exact List.getElem_mem hi')
  obtain ⟨xb, xo, xs⟩ := x
  cases xs with
  | some s => simp [Addr.add] at hs
  | none =>
    have hm : IntKind.u8.min = 0 := by decide
    have hM : IntKind.u8.max = 255 := by decide
    have hr : 0 ≤ zs.getD i 0 ∧ zs.getD i 0 ≤ 255 := by
      unfold Lit.wf at hw
      simp only [Bool.and_eq_true, decide_eq_true_eq, hm, hM] at hw
      exact hw
    rw [Go.WideShapes.add_plain] at h1 hlt
    exact ⟨xb, xo, zs.getD i 0, rfl, hlt, hr.1, hr.2, h1⟩

end Go.Proofs.Ytgbgjljflgbcaaa
