/-
  At every program, and whatever memory it lies in, the law FnExactOneRun answers true, and its argument reads behind the call as it did: OneRun answers as its model does, field by field, writes into no argument, and its answer owns its memory. Its condition: the two errors that the row lists hold what the program's text lays there (the card ties them; over a pruned copy of the project).
-/
import Derived.Test.YtpehlekjfnkhoaaDoorRows
import Derived.Test.YtpehlekjfnkhoaaDoorCards
import Derived.Test.YtpehlekjfnkhoaaDoorTie
import Derived.Test.YtpehlekjfnkhoaaDoorX7
import Derived.Test.YtpehlekjfnkhoaaDoorI9
import Derived.LaidMore
import Derived.Lay
import Derived.Handed
import Derived.OpenVars
import Derived.Stop.LaidTwo
import Derived.Stop.Joined
import Derived.SevenTiedAt
import Derived.WalkKit
import Derived.ProofKit
import Derived.OpenShut
import Derived.ShutString
import Derived.ChangeOld
import Derived.Below
namespace Go.Proofs.YtpehlekjfnkhoaaDoor.fnExactOneRun
open Go.ChangeShapes Go.WideShapes Go.ChangeAt Go.RowKit
open Go.ChangeMaps (open_string shut_string)
set_option linter.unusedVariables false

theorem own : ownKnob Tryd.prog.godebug = none := by kernel_rfl
theorem laidOut : laidOutB Tryd.prog = true := by kernel_rfl
theorem cellsP : Tryd.prog.cellsOf 38 = 2 := by kernel_rfl
theorem gN : Tryd.prog.globalNamed "loop.example/equerry/impl.errSysNeed" = some 0 := by kernel_rfl
theorem gF : Tryd.prog.globalNamed "loop.example/equerry/impl.errOneFailed" = some 1 := by kernel_rfl
theorem tN : (Tryd.prog.globals[0]?).map (·.type) = some 57 := by kernel_rfl
theorem tF : (Tryd.prog.globals[1]?).map (·.type) = some 57 := by kernel_rfl
theorem cellsE : Tryd.prog.cellsOf 176 = 1 := by kernel_rfl
theorem cellsS : Tryd.prog.cellsOf 9 = 1 := by kernel_rfl
theorem star : "*" ++ "errors.errorString" = "*errors.errorString" := by decide
theorem rowE (u : TypeId) (h : Tryd.prog.typeName? 3 u = some "*errors.errorString") : u = 150 :=
  typeName_ptr_named (nm := "errors.errorString") (by rw [star]; kernel_rfl) (by kernel_rfl) (by decide) u (by rw [star]; exact h)

set_option maxRecDepth 100000 in
theorem lifted (os : Os) (started : os.Started) (H : Type) (enc : TypeId × Value → H) :
    ReturnsInHanded {} Tryd.checked os 4 .any (fun w args => (Rows.fnExactOneRunSpec.pre enc Tryd.prog Tryd.f4 [] false w args ∧ laidMetH Tryd.prog Rows.fnExactOneRunRow.laid w) ∧ sizedMet enc Tryd.prog Tryd.f4 (OpenSpec.ofChange Rows.fnExactOneRunSpec) false w args)
      (Rows.fnExactOneRunSpec.post enc Tryd.prog Tryd.f4 false true false false) := by
  refine returnsInHanded_of_change_and (C := Tryd.checked) (X := fun w _ => laidMetH Tryd.prog Rows.fnExactOneRunRow.laid w) (fun _ _ _ hh h => h.of_heap hh) own started (by kernel_rfl) Tryd.func4
    (ChangeSpec.witness_shaped (enc := enc) (C := Tryd.checked) (os := os) (X := fun w _ => laidMetH Tryd.prog Rows.fnExactOneRunRow.laid w) false (World.laidAll Tryd.prog os Rows.fnExactOneRunRow.laid) #[.agg #[.slice none 0 0, .slice none 0 0]] 8 (World.laidAll_os _ _ _)
      (World.shaped_of_ZipB (by kernel_rfl) (by kernel_rfl)) (by kernel_rfl) (by kernel_rfl) (by kernel_rfl)
      (by rw [MakeChecks.laidMetH_plain _ _ _ (by kernel_rfl)]; exact laidMet_laidAll _ (by kernel_rfl) (by kernel_rfl))) ?_
  intro W base args ds gs before hval0 hW _ _ hL _
  have hval : ∀ (j : Nat) t v, Tryd.f4.params[j]? = some t → args[j]? = some v → Value.okWide Tryd.prog W .any base t v := hval0
  have hW' := hW
  obtain ⟨p, q, hA0, hV0, rfl, hfz, hnd⟩ := hW
  have hA : DataW.TrodAll enc Tryd.prog W 0 (fun _ => true) true Tryd.f4.params.toList args.toList ds p := hA0
  have hV : DataW.TrodVars enc Tryd.prog W (fun _ => true) ["loop.example/equerry/impl.errSysNeed", "loop.example/equerry/impl.errOneFailed"] gs q := hV0
  rw [Tryd.params4] at hA hval
  obtain ⟨v0, vs0, d0, ds0, p0, q0, hargs, rfl, rfl, h0, r0⟩ := trodAll_cons hA
  obtain ⟨rfl, rfl, rfl⟩ := trodAll_nil r0
  obtain rfl : args = #[v0] := by cases args; simp_all
  obtain ⟨_, _, _, _, y1, _, _, _, _, _, y2, _, rfl, _⟩ := trodVars_two hV
  have k0 := h0
  have lt0 : ∀ x ∈ p0, x.block < W.heap.size := by obtain ⟨m, hm⟩ := k0; exact DataW.trod_lt m _ _ _ hm
  obtain ⟨cv, bv, y0, y1', m, hv, hd, hp, hy0, hy1⟩ := Go.Joins.open_agg2 Tryd.underlying38 (by kernel_rfl) cellsP (hval 0 38 v0 rfl rfl) h0
  obtain ⟨xs, hc⟩ := ints_of hy0
  obtain ⟨bs, hB⟩ := bodies_of hy1
  clear hA0 hV0 hval0 hd hp
  subst hv
  rw [MakeChecks.laidMetH_plain _ _ _ (by kernel_rfl)] at hL
  obtain ⟨a0, a1, s0, s1, c0, c1, t0, t1, hv0, hv1, _, _, _, _, _, _, hne, hb0, hb1⟩ := laid_sentinels2 hL gN tN gF tF Tryd.underlying57 rowE Tryd.underlying150 Tryd.underlying176 rfl rfl Tryd.underlying9 cellsE cellsS
  have hE : ErrGl W a0 a1 := ⟨by simpa [erV] using World.var?_cell gN hv0 0, by simpa [erV] using World.var?_cell gF hv1 0, hne, ⟨c0, t0, hb0⟩, ⟨c1, t1, hb1⟩⟩
  refine (exactOneRun_walk ⟨xs, bs⟩ cv bv a0 a1 W ⟨hc, hB⟩ hE).mono fun e W' ⟨he, bel⟩ => ?_
  subst he
  exact ⟨_, rfl, _, _, _, [], _, q, hW', trodAll_mk1 (shut_bool Tryd.underlying4 _), (trodAll_cons_mk (Below.trod laidOut (by kernel_rfl) (of_decide_eq_true (by kernel_rfl)) k0 bel lt0) trodAll_mk0), Below.trodVars laidOut bel (by kernel_rfl) hV, bel.frame _, fun h => by cases h⟩

theorem over : Rows.fnExactOneRunRow.holds Tryd.pinned (OpenSpec.ofChange Rows.fnExactOneRunSpec) :=
  OpenClaim.holds_of_wide 4 Tryd.f4 rfl rfl rfl rfl rfl rfl rfl ⟨rfl, rfl, rfl, rfl, rfl⟩ rfl rfl rfl rfl rfl (by kernel_rfl) Tryd.func4 (by kernel_rfl)
    (of_decide_eq_true (by kernel_rfl)) (by unfold Func.isWrapper; first | (rw [if_pos (by decide +kernel)]; kernel_rfl) | (rw [if_neg (by decide +kernel)]; exact ⟨rfl, rfl⟩))
    (fun os started H enc _ => lifted os started H enc)

theorem rowSaid : Rows.FnExactOneRunSaid := over

theorem proved : Rows.FnExactOneRunCardSaid :=
  Claim7.holds_tied_plain_at .later [] [.sentinel, .sentinel] true (true, Rows.fnExactOneRunCard.stood.harness.2) true
    rowSaid (fun _ h => by cases h) (by kernel_rfl) (fun _ h => by cases h) fnExactOneRun_row_tie rfl ⟨rfl, rfl⟩ (by kernel_rfl) rfl
    (fun f fn hf hfn => by
      obtain rfl : f = 4 := Option.some.inj ((show Tryd.prog.funcNamed "loop.example/equerry/laws.FnExactOneRun" = some 4 by kernel_rfl).symm.trans hf) |>.symm
      obtain rfl : fn = Tryd.f4 := (Option.some.inj (Tryd.func4.symm.trans hfn)).symm
      exact ⟨by kernel_rfl, fun j t ht => by
        rw [Tryd.params4] at ht
        have hm : t ∈ [38] := by simpa using Array.mem_of_getElem? ht
        have hall : ([38].all fun u => !Tryd.prog.wantsStandIn u) = true := by kernel_rfl
        exact (show Tryd.prog.wantsStandIn t = false by simpa using List.all_eq_true.1 hall t hm)⟩)
    (by kernel_rfl)
end Go.Proofs.YtpehlekjfnkhoaaDoor.fnExactOneRun
namespace Go.Proofs.YtpehlekjfnkhoaaDoor
theorem fnExactOneRun_holds : Rows.FnExactOneRunCardSaid := fnExactOneRun.proved
end Go.Proofs.YtpehlekjfnkhoaaDoor
