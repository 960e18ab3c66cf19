/-
  At every program and every system, and whatever memory they lie in, the law FnExactSysReady answers true, and its arguments read behind the call as before: SysReady answers as its model does, writes into no argument, and its answer owns its memory. No condition.
-/
import Derived.Test.YtdgihncobihbgaaGreatRows
import Derived.Test.YtdgihncobihbgaaGreatKe
import Derived.Test.YtdgihncobihbgaaGreatX7
import Derived.Test.YtdgihncobihbgaaGreatZ8
import Derived.WalkKit
import Derived.ProofKit
import Derived.OpenShut
import Derived.ShutString
import Derived.ChangeOld
import Derived.Below
namespace Go.Proofs.YtdgihncobihbgaaGreat.fnExactSysReady
open Go.ChangeShapes Go.WideShapes Go.ChangeAt Go.RowKit
open Go.ChangeMaps (open_string shut_string)
set_option linter.unusedVariables false

theorem own : ownKnob Tryz.prog.godebug = none := by kernel_rfl
theorem laidOut : laidOutB Tryz.prog = true := by kernel_rfl

theorem cellsP : Tryz.prog.cellsOf 25 = 2 := by kernel_rfl
theorem cellsS : Tryz.prog.cellsOf 30 = 4 := by kernel_rfl

set_option maxRecDepth 100000 in
theorem lifted (os : Os) (started : os.Started) (H : Type) (enc : TypeId × Value → H) :
    ReturnsInHanded {} Tryz.checked os 4 .any (Rows.fnExactSysReadySpec.pre6 enc Tryz.prog Tryz.f4 Rows.fnExactSysReadyRow.domain false) (Rows.fnExactSysReadySpec.post enc Tryz.prog Tryz.f4 false true false false) := by
  refine returnsInHanded_of_change (C := Tryz.checked) own started (by kernel_rfl) Tryz.func4
    (ChangeSpec.witness6 (enc := enc) (C := Tryz.checked) false ⟨#[], #[.agg #[.slice none 0 0, .slice none 0 0], .agg #[.slice none 0 0, .slice none 0 0, .int .i64 0, .slice none 0 0]], []⟩ 8 (by kernel_rfl) (by kernel_rfl) (by kernel_rfl) (by kernel_rfl)) ?_
  intro W base args ds gs before hval0 hW hcnd _
  have hval : ∀ (j : Nat) t v, Tryz.f4.params[j]? = some t → args[j]? = some v → Value.okWide Tryz.prog W .any base t v := hval0
  have hW' := hW
  obtain ⟨p, q, hA0, hV, rfl, hfz, hnd⟩ := hW
  have hA : DataW.TrodAll enc Tryz.prog W 0 (fun _ => true) true Tryz.f4.params.toList args.toList ds p := hA0
  rw [Tryz.params4] at hA hval
  obtain ⟨v0, vs0, d0, ds0, p0, q0, hargs, rfl, rfl, h0, r0⟩ := trodAll_cons hA
  obtain ⟨v1, vs1, d1, ds1, p1, q1, rfl, rfl, rfl, h1, r1⟩ := trodAll_cons r0
  obtain ⟨rfl, rfl, rfl⟩ := trodAll_nil r1
  obtain rfl : args = #[v0, v1] := by cases args; simp_all
  obtain ⟨rfl, rfl⟩ := trodVars_none hV
  have k0 := h0
  have lt0 : ∀ x ∈ p0, x.block < W.heap.size := by obtain ⟨m, hm⟩ := k0; exact DataW.trod_lt m _ _ _ hm
  have k1 := h1
  have lt1 : ∀ x ∈ p1, x.block < W.heap.size := by obtain ⟨m, hm⟩ := k1; exact DataW.trod_lt m _ _ _ hm
  obtain ⟨pcv, pbv, py0, py1, pm, phv, phd, php, phy0, phy1⟩ := Go.Joins.open_agg2 Tryz.underlying25 (by kernel_rfl) cellsP (hval 0 25 v0 rfl rfl) h0
  obtain ⟨pxs, phc⟩ := ints_of phy0
  obtain ⟨pbs, phB⟩ := bodies_of phy1
  clear phd php
  subst phv
  obtain ⟨scv, stv, skv, slv, sy0, sy1, sy2, sy3, sm, shv, shd, shp, shy0, shy1, shy2, shy3⟩ := Go.Joins.open_agg4 Tryz.underlying30 (by kernel_rfl) cellsS (hval 1 30 v1 rfl rfl) h1
  obtain ⟨scs, shc⟩ := cells_of shy0
  obtain ⟨sts, sht⟩ := tasks_of shy1
  obtain ⟨sk, ske, _⟩ := DataW.trod_int Tryz.underlying3 shy2
  obtain ⟨sls, shl⟩ := entries_of shy3
  simp at ske
  subst ske
  clear shd shp
  subst shv
  clear hA0 hval0
  refine (exactSysReady_walk ⟨pxs, pbs⟩ pcv pbv ⟨scs, sts, sk, sls⟩ scv stv slv W ⟨phc, phB⟩ ⟨shc, sht, shl⟩).mono fun e W' ⟨he, bel⟩ => ?_
  subst he
  exact ⟨_, rfl, _, _, _, [], _, [], hW', trodAll_mk1 (shut_bool Tryz.underlying4 _), (trodAll_cons_mk (Below.trod laidOut (by kernel_rfl) (of_decide_eq_true (by kernel_rfl)) k0 bel lt0) (trodAll_cons_mk (Below.trod laidOut (by kernel_rfl) (of_decide_eq_true (by kernel_rfl)) k1 bel lt1) trodAll_mk0)), rfl, bel.frame _, fun h => by cases h⟩

theorem over : Rows.fnExactSysReadyRow.holds Tryz.pinned (OpenSpec.ofChange Rows.fnExactSysReadySpec) :=
  OpenClaim.holds_of_wide 4 Tryz.f4 rfl rfl rfl rfl rfl rfl rfl ⟨rfl, rfl, rfl, rfl, rfl⟩ rfl rfl rfl rfl rfl (by kernel_rfl) Tryz.func4 (by kernel_rfl)
    (of_decide_eq_true (by kernel_rfl)) (by unfold Func.isWrapper; first | (rw [if_pos (by decide +kernel)]; kernel_rfl) | (rw [if_neg (by decide +kernel)]; exact ⟨rfl, rfl⟩))
    (fun os started H enc _ => lifted os started H enc)

theorem proved : Rows.FnExactSysReadySaid := over
end Go.Proofs.YtdgihncobihbgaaGreat.fnExactSysReady
namespace Go.Proofs.YtdgihncobihbgaaGreat
theorem fnExactSysReady_holds : Rows.FnExactSysReadySaid := fnExactSysReady.proved
end Go.Proofs.YtdgihncobihbgaaGreat
