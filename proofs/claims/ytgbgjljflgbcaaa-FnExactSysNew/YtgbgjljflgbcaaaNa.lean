/-
  At every program, and whatever memory it lies in, the law FnExactSysNew answers true, and its argument reads behind the call as before: SysNew answers as its model does, every field, writes into no argument, and its answer owns its memory. No condition.
-/
import Derived.Test.YtgbgjljflgbcaaaRows
import Derived.Test.YtgbgjljflgbcaaaXn42
import Derived.Test.YtgbgjljflgbcaaaXnL
import Derived.WalkKit
import Derived.ProofKit
import Derived.OpenShut
import Derived.ShutString
import Derived.ChangeOld
import Derived.Below
namespace Go.Proofs.Ytgbgjljflgbcaaa.fnExactSysNew
open Go.ChangeShapes Go.WideShapes Go.ChangeAt Go.RowKit
open Go.ChangeMaps (open_string shut_string)
set_option linter.unusedVariables false

theorem own : ownKnob Try.prog.godebug = none := by kernel_rfl
theorem laidOut : laidOutB Try.prog = true := by kernel_rfl

theorem cellsP : Try.prog.cellsOf 58 = 2 := by kernel_rfl

set_option maxRecDepth 100000 in
theorem lifted (os : Os) (started : os.Started) (H : Type) (enc : TypeId × Value → H) :
    ReturnsInHanded {} Try.checked os 8 .any (Rows.fnExactSysNewSpec.pre6 enc Try.prog Try.f8 Rows.fnExactSysNewRow.domain false) (Rows.fnExactSysNewSpec.post enc Try.prog Try.f8 false true false false) := by
  refine returnsInHanded_of_change (C := Try.checked) own started (by kernel_rfl) Try.func8
    (ChangeSpec.witness6 (enc := enc) (C := Try.checked) false ⟨#[], #[.agg #[.slice none 0 0, .slice none 0 0]], []⟩ 8 (by kernel_rfl) (by kernel_rfl) (by kernel_rfl) (by kernel_rfl)) ?_
  intro W base args ds gs before hval0 hW hcnd _
  have hval : ∀ (j : Nat) t v, Try.f8.params[j]? = some t → args[j]? = some v → Value.okWide Try.prog W .any base t v := hval0
  have hW' := hW
  obtain ⟨p, q, hA0, hV, rfl, hfz, hnd⟩ := hW
  have hA : DataW.TrodAll enc Try.prog W 0 (fun _ => true) true Try.f8.params.toList args.toList ds p := hA0
  rw [Try.params8] at hA hval
  obtain ⟨v0, vs0, d0, ds0, p0, q0, hargs, rfl, rfl, h0, r0⟩ := trodAll_cons hA
  obtain ⟨rfl, rfl, rfl⟩ := trodAll_nil r0
  obtain rfl : args = #[v0] := by cases args; simp_all
  obtain ⟨rfl, rfl⟩ := trodVars_none hV
  have k0 := h0
  have lt0 : ∀ x ∈ p0, x.block < W.heap.size := by obtain ⟨m, hm⟩ := k0; exact DataW.trod_lt m _ _ _ hm
  obtain ⟨pcv, pbv, py0, py1, pm, phv, phd, php, phy0, phy1⟩ := Go.Joins.open_agg2 Try.underlying58 (by kernel_rfl) cellsP (hval 0 58 v0 rfl rfl) h0
  obtain ⟨pxs, phc⟩ := ints_of phy0
  obtain ⟨pbs, phB⟩ := bodies_of phy1
  clear phd php
  subst phv
  clear hA0 hval0
  refine (exactSysNew_walk ⟨pxs, pbs⟩ pcv pbv W ⟨phc, phB⟩).mono fun e W' ⟨he, bel⟩ => ?_
  subst he
  exact ⟨_, rfl, _, _, _, [], _, [], hW', trodAll_mk1 (shut_bool Try.underlying4 _), (trodAll_cons_mk (Below.trod laidOut (by kernel_rfl) (of_decide_eq_true (by kernel_rfl)) k0 bel lt0) trodAll_mk0), rfl, bel.frame _, fun h => by cases h⟩

theorem over : Rows.fnExactSysNewRow.holds Try.pinned (OpenSpec.ofChange Rows.fnExactSysNewSpec) :=
  OpenClaim.holds_of_wide 8 Try.f8 rfl rfl rfl rfl rfl rfl rfl ⟨rfl, rfl, rfl, rfl, rfl⟩ rfl rfl rfl rfl rfl (by kernel_rfl) Try.func8 (by kernel_rfl)
    (of_decide_eq_true (by kernel_rfl)) (by unfold Func.isWrapper; first | (rw [if_pos (by decide +kernel)]; kernel_rfl) | (rw [if_neg (by decide +kernel)]; exact ⟨rfl, rfl⟩))
    (fun os started H enc _ => lifted os started H enc)

theorem proved : Rows.FnExactSysNewSaid := over
end Go.Proofs.Ytgbgjljflgbcaaa.fnExactSysNew
namespace Go.Proofs.Ytgbgjljflgbcaaa
theorem fnExactSysNew_holds : Rows.FnExactSysNewSaid := fnExactSysNew.proved
end Go.Proofs.Ytgbgjljflgbcaaa
