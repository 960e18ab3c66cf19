/-
  At every system and every task and every up, and whatever memory they lie in, the law FnExactTreeUnder answers true, and its arguments read behind the call as before: TreeUnder answers as its model does, and writes into no argument. No condition.
-/
import Derived.Test.YteebdfifbmpmhaaRows
import Derived.Test.YteebdfifbmpmhaaA7
import Derived.Test.YteebdfifbmpmhaaX7
import Derived.Test.YteebdfifbmpmhaaZ8
import Derived.WalkKit
import Derived.ProofKit
import Derived.OpenShut
import Derived.ShutString
import Derived.ChangeOld
import Derived.Below
namespace Go.Proofs.Yteebdfifbmpmhaa.fnExactTreeUnder
open Go.ChangeShapes Go.WideShapes Go.ChangeAt Go.RowKit
open Go.ChangeMaps (open_string shut_string)
set_option linter.unusedVariables false

theorem own : ownKnob Try.prog.godebug = none := by kernel_rfl
theorem laidOut : laidOutB Try.prog = true := by kernel_rfl

theorem cellsS : Try.prog.cellsOf 47 = 4 := by kernel_rfl

set_option maxRecDepth 100000 in
theorem lifted (os : Os) (started : os.Started) (H : Type) (enc : TypeId × Value → H) :
    ReturnsInHanded {} Try.checked os 4 .any (Rows.fnExactTreeUnderSpec.pre6 enc Try.prog Try.f4 Rows.fnExactTreeUnderRow.domain false) (Rows.fnExactTreeUnderSpec.post enc Try.prog Try.f4 false true false false) := by
  refine returnsInHanded_of_change (C := Try.checked) own started (by kernel_rfl) Try.func4
    (ChangeSpec.witness6 (enc := enc) (C := Try.checked) false ⟨#[], #[.agg #[.slice none 0 0, .slice none 0 0, .int .i64 0, .slice none 0 0], .int .i64 0, .int .i64 0], []⟩ 8 (by kernel_rfl) (by kernel_rfl) (by kernel_rfl) (by kernel_rfl)) ?_
  intro W base args ds gs before hval0 hW hcnd _
  have hval : ∀ (j : Nat) t v, Try.f4.params[j]? = some t → args[j]? = some v → Value.okWide Try.prog W .any base t v := hval0
  have hW' := hW
  obtain ⟨p, q, hA0, hV, rfl, hfz, hnd⟩ := hW
  have hA : DataW.TrodAll enc Try.prog W 0 (fun _ => true) true Try.f4.params.toList args.toList ds p := hA0
  rw [Try.params4] at hA hval
  obtain ⟨v0, vs0, d0, ds0, p0, q0, hargs, rfl, rfl, h0, r0⟩ := trodAll_cons hA
  obtain ⟨v1, vs1, d1, ds1, p1, q1, rfl, rfl, rfl, h1, r1⟩ := trodAll_cons r0
  obtain ⟨v2, vs2, d2, ds2, p2, q2, rfl, rfl, rfl, h2, r2⟩ := trodAll_cons r1
  obtain ⟨rfl, rfl, rfl⟩ := trodAll_nil r2
  obtain rfl : args = #[v0, v1, v2] := by cases args; simp_all
  obtain ⟨rfl, rfl⟩ := trodVars_none hV
  have k0 := h0
  have lt0 : ∀ x ∈ p0, x.block < W.heap.size := by obtain ⟨m, hm⟩ := k0; exact DataW.trod_lt m _ _ _ hm
  have k1 := h1
  have lt1 : ∀ x ∈ p1, x.block < W.heap.size := by obtain ⟨m, hm⟩ := k1; exact DataW.trod_lt m _ _ _ hm
  have k2 := h2
  have lt2 : ∀ x ∈ p2, x.block < W.heap.size := by obtain ⟨m, hm⟩ := k2; exact DataW.trod_lt m _ _ _ hm
  obtain ⟨scv, stv, skv, slv, sy0, sy1, sy2, sy3, sm, shv, shd, shp, shy0, shy1, shy2, shy3⟩ := Go.Joins.open_agg4 Try.underlying47 (by kernel_rfl) cellsS (hval 0 47 v0 rfl rfl) h0
  obtain ⟨scs, shc⟩ := cells_of shy0
  obtain ⟨sts, sht⟩ := tasks_of shy1
  obtain ⟨sk, ske, _⟩ := DataW.trod_int Try.underlying3 shy2
  obtain ⟨sls, shl⟩ := entries_of shy3
  simp at ske
  subst ske
  clear shd shp
  subst shv
  obtain ⟨nI, rfl, rfl, rfl, wnI⟩ := open_int Try.underlying3 (hval 1 3 v1 rfl rfl) h1
  obtain ⟨nJ, rfl, rfl, rfl, wnJ⟩ := open_int Try.underlying3 (hval 2 3 v2 rfl rfl) h2
  clear hA0 hval0
  refine (exactTreeUnder_walk ⟨scs, sts, sk, sls⟩ scv stv slv nI nJ W ⟨shc, sht, shl⟩  ).mono fun e W' ⟨he, bel⟩ => ?_
  subst he
  exact ⟨_, rfl, _, _, _, [], _, [], hW', trodAll_mk1 (shut_bool Try.underlying4 _), (trodAll_cons_mk (Below.trod laidOut (by kernel_rfl) (of_decide_eq_true (by kernel_rfl)) k0 bel lt0) (trodAll_cons_mk (shut_int Try.underlying3 wnI) (trodAll_cons_mk (shut_int Try.underlying3 wnJ) trodAll_mk0))), rfl, bel.frame _, fun h => by cases h⟩

theorem over : Rows.fnExactTreeUnderRow.holds Try.pinned (OpenSpec.ofChange Rows.fnExactTreeUnderSpec) :=
  OpenClaim.holds_of_wide 4 Try.f4 rfl rfl rfl rfl rfl rfl rfl ⟨rfl, rfl, rfl, rfl, rfl⟩ rfl rfl rfl rfl rfl (by kernel_rfl) Try.func4 (by kernel_rfl)
    (of_decide_eq_true (by kernel_rfl)) (by unfold Func.isWrapper; first | (rw [if_pos (by decide +kernel)]; kernel_rfl) | (rw [if_neg (by decide +kernel)]; exact ⟨rfl, rfl⟩))
    (fun os started H enc _ => lifted os started H enc)

theorem proved : Rows.FnExactTreeUnderSaid := over
end Go.Proofs.Yteebdfifbmpmhaa.fnExactTreeUnder
namespace Go.Proofs.Yteebdfifbmpmhaa
theorem fnExactTreeUnder_holds : Rows.FnExactTreeUnderSaid := fnExactTreeUnder.proved
end Go.Proofs.Yteebdfifbmpmhaa
