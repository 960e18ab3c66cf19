import Derived.Test.YtgbgjljflgbcaaaXn01
import Derived.WalkKit
import Derived.Deep.RegionHeld3
import Derived.Deep.AppendLies
namespace Go.Proofs.Ytgbgjljflgbcaaa
open Go.RowKit
set_option linter.unusedSimpArgs false
set_option linter.unusedVariables false
section
variable {P : Program} {ops : Array Oper} {Q : Exit → Act → World → Prop} {md : Region.Mode} {S : World → Prop} {z : Nat}
def Shutdown (md : Region.Mode) (ops : Array Oper) (d : Array Bool) : Prop :=
  ∀ j oj, ops[j]? = some oj → d.getD j false = true → ∀ e, e ∈ oj.after → Region.binds md e = true → d.getD e.on false = true
def waitedFor (md : Region.Mode) (ops : Array Oper) (z : Nat) : Bool :=
  (List.range ops.size).all fun i => i == z || (List.range ops.size).any fun m => decide (i < m) && match ops[m]? with
    | some o => o.after.any fun e => Region.binds md e && e.on == i
    | none => false
def shutB (md : Region.Mode) (ops : Array Oper) (d : Array Bool) : Bool :=
  (List.range ops.size).all fun j => !(d.getD j false) || match ops[j]? with
    | some o => o.after.all fun e => !(Region.binds md e) || d.getD e.on false
    | none => true
theorem shutB_spec {d : Array Bool} (h : shutB md ops d = true) : Shutdown md ops d := fun j oj hj hd e he hb => by
  have hlt : j < ops.size := (Array.getElem?_eq_some_iff.1 hj).1
  have h1 := List.all_eq_true.1 h j (List.mem_range.2 hlt)
  rw [hj, hd] at h1
  simp only [Bool.not_true, Bool.false_or] at h1
  have h2 := Array.all_eq_true'.1 h1 e he
  simpa [hb] using h2
theorem getD_set_same {d : Array Bool} {i : Nat} (h : d.getD i true = false) (b : Bool) : (d.setIfInBounds i true).getD i b = true := by
  have hlt : i < d.size := by
    rcases Nat.lt_or_ge i d.size with h1 | h1
    · exact h1
    · rw [Array.getD_eq_getD_getElem?, Array.getElem?_eq_none h1] at h; cases h
  simp [hlt]
theorem Shutdown.set {d : Array Bool} {i : Nat} (h : Shutdown md ops d) (hi : i ∈ Region.ready md ops d) : Shutdown md ops (d.setIfInBounds i true) := fun j oj hj hd e he hb => by
  obtain ⟨h0, o, ho, hall⟩ := mem_ready.1 hi
  have up : d.getD e.on false = true → (d.setIfInBounds i true).getD e.on false = true := fun h1 => by
    by_cases hie : i = e.on
    · rw [← hie]; exact getD_set_same h0 _
    · rw [getD_set_ne false hie]; exact h1
  by_cases hij : i = j
  · subst hij
    rw [ho] at hj
    injection hj with hj
    subst hj
    exact up (hall e he hb)
  · rw [getD_set_ne false hij] at hd
    exact up (h j oj hj hd e he hb)
theorem last_of_ready {d : Array Bool} (hz : waitedFor md ops z = true) (hd : Shutdown md ops d) (hr : z ∈ Region.ready md ops d) : ∀ (n i : Nat), ops.size - i ≤ n → i < ops.size → i ≠ z → d.getD i false = true := by
  intro n
  induction n with
  | zero => intro i h1 h2; omega
  | succ n ih =>
    intro i h1 h2 hne
    have h3 := List.all_eq_true.1 hz i (List.mem_range.2 h2)
    have hb : (i == z) = false := by simpa using hne
    rw [hb, Bool.false_or] at h3
    obtain ⟨m, hm, h4⟩ := List.any_eq_true.1 h3
    have hml := List.mem_range.1 hm
    obtain ⟨om, hom⟩ : ∃ o, ops[m]? = some o := ⟨ops[m], by simp [hml]⟩
    rw [hom] at h4
    simp only [Bool.and_eq_true, decide_eq_true_eq] at h4
    obtain ⟨hlt, h5⟩ := h4
    obtain ⟨k, hk, h6⟩ := Array.any_eq_true.1 h5
    simp only [Bool.and_eq_true, beq_iff_eq] at h6
    have hmem : om.after[k] ∈ om.after := Array.getElem_mem hk
    by_cases hmz : m = z
    · subst hmz
      obtain ⟨_, o, ho, hall⟩ := mem_ready.1 hr
      rw [hom] at ho
      injection ho with ho
      subst ho
      have := hall _ hmem h6.1
      rwa [h6.2] at this
    · have hdm := ih m (by omega) hml hmz
      have := hd m om hom hdm _ hmem h6.1
      rwa [h6.2] at this
def AnyTill (P : Program) (md : Region.Mode) (ops : Array Oper) (Q : Exit → Act → World → Prop) (S : World → Prop) (z : Nat) : Nat → Array Bool → Act → World → Prop
  | 0, d, a, w => Region.ready md ops d = [] ∧ Q .normal a w
  | k + 1, d, a, w => (Region.ready md ops d = [] → Q .normal a w) ∧
    ∀ i, i ∈ Region.ready md ops d → wpOp P ops Q i (fun a' w' => (i ≠ z → S w') ∧ AnyTill P md ops Q S z k (d.setIfInBounds i true) a' w') a w
theorem AnyTill.any : ∀ (k : Nat) (d : Array Bool) (a : Act) (w : World), AnyTill P md ops Q S z k d a w → wpAny P md ops Q k d a w := by
  intro k
  induction k with
  | zero => exact fun d a w h => h
  | succ k ih => exact fun d a w h => ⟨h.1, fun i hi => wpOp_mono (fun a' w' h' => ih _ a' w' h'.2) (h.2 i hi)⟩
theorem AnyTill.ahead {i : Nat} {o : Oper} {v : Value} (hi : ops[i]? = some o) (hiz : i ≠ z) (hz : waitedFor md ops z = true) (hs : Region.noSelect ops = true) (hQ : ∀ c a w, Q (.panic c) (a.put o.dst v) w → Q (.panic c) a w) :
    ∀ (k : Nat) (d : Array Bool) (a : Act) (w : World), Shutdown md ops d → (∀ j oj, ops[j]? = some oj → j ≠ i → d.getD j true = false → (∀ e ∈ oj.after, Region.binds md e = true → e.on ≠ i) → o.apart ops oj = true) →
      i ∈ Region.ready md ops d → YieldsIf P ops S o v a → S w → AnyTill P md ops Q S z k (d.setIfInBounds i true) (a.put o.dst v) w → AnyTill P md ops Q S z (k + 1) d a w := by
  have hsel := Region.noSelect_spec hs
  have here : ∀ (k : Nat) (d : Array Bool) (a : Act) (w : World), YieldsIf P ops S o v a → S w → AnyTill P md ops Q S z k (d.setIfInBounds i true) (a.put o.dst v) w →
      wpOp P ops Q i (fun a' w' => (i ≠ z → S w') ∧ AnyTill P md ops Q S z k (d.setIfInBounds i true) a' w') a w := fun k d a w hy hS H => hy.wpOp hi hS ⟨fun _ => hS, H⟩
  intro k
  induction k with
  | zero =>
    intro d a w _ _ hr hy hS H
    refine ⟨fun h0 => absurd hr (by rw [h0]; exact List.not_mem_nil), fun j hj => ?_⟩
    rcases Decidable.em (j = i) with rfl | hji
    · exact here 0 d a w hy hS H
    · have hm := ready_mono hj hji
      rw [H.1] at hm
      exact absurd hm List.not_mem_nil
  | succ k ih =>
    intro d a w hsd hfree hr hy hS H
    refine ⟨fun h0 => absurd hr (by rw [h0]; exact List.not_mem_nil), fun j hj => ?_⟩
    rcases Decidable.em (j = i) with rfl | hji
    · exact here (k + 1) d a w hy hS H
    · obtain ⟨hdj, oj, hoj, hall⟩ := mem_ready.1 hj
      obtain ⟨hdi, oi', hoi', _⟩ := mem_ready.1 hr
      have hun : d.getD i false = true → False := fun h1 => by
        have hlt : i < d.size := by
          rcases Nat.lt_or_ge i d.size with h2 | h2
          · exact h2
          · rw [Array.getD_eq_getD_getElem?, Array.getElem?_eq_none h2] at h1; cases h1
        simp [hlt] at hdi h1
        rw [hdi] at h1; cases h1
      have hno : ∀ e ∈ oj.after, Region.binds md e = true → e.on ≠ i := fun e he hb heq => by
        have h1 := hall e he hb
        rw [heq] at h1
        exact hun h1
      have hjz : j ≠ z := fun e => by
        subst e
        exact hun (last_of_ready hz hsd hj ops.size i (by omega) (Array.getElem?_eq_some_iff.1 hi).1 hiz)
      have step := wpOp_putIf hoj (hfree j oj hoj hji hdj hno) (fun cs b => hsel i o cs b hi) (fun cs b => hsel j oj cs b hoj) hQ hy (H.2 j (ready_mono hj hji))
      have hri := ready_mono hr (Ne.symm hji)
      refine wpOp_mono (fun a' w' h3 => ?_) step
      obtain ⟨hy', hS', H'⟩ := h3
      rw [Array.setIfInBounds_comm _ _ (Ne.symm hji)] at H'
      refine ⟨hS', ih _ a' w' (hsd.set hj) (fun k' ok hk hki hun' hno' => ?_) hri hy' (hS' hjz) H'⟩
      refine hfree k' ok hk hki ?_ hno'
      rcases Decidable.em (j = k') with rfl | hjk
      · exact hdj
      · rw [getD_set_ne true hjk] at hun'; exact hun'
theorem till_begin {id : Nat} {a : Act} {w : World} (hm : P.follows .mixedOrders = true) (h : AnyTill P .any ops Q S z ops.size (Array.replicate ops.size false) a w.drew) : (Code.region id ops true).wp P Q a w :=
  wp_region_any hm (AnyTill.any _ _ _ _ h)
theorem till_take {i : Nat} {o : Oper} {v : Value} {k : Nat} {d : Array Bool} {a : Act} {w : World} (hi : ops[i]? = some o) (hiz : (i != z && waitedFor md ops z && Region.noSelect ops && shutB md ops d && Region.free md ops d i && (Region.ready md ops d).contains i) = true)
    (hQ : ∀ c a w, Q (.panic c) (a.put o.dst v) w → Q (.panic c) a w) (hw : Region.wanted o (yielded ops a.tmps) = true) (hy : ∀ w, S w → (execOp a.eval o).run P w = .ok (.value v) w) (hS : S w) (h : AnyTill P md ops Q S z k (d.setIfInBounds i true) (a.put o.dst v) w) : AnyTill P md ops Q S z (k + 1) d a w := by
  simp only [Bool.and_eq_true, bne_iff_ne, ne_eq] at hiz
  obtain ⟨⟨⟨⟨⟨h1, h2⟩, h3⟩, h4⟩, h5⟩, h6⟩ := hiz
  exact AnyTill.ahead hi h1 h2 h3 hQ k d a w (shutB_spec h4) (Region.free_spec hi h5) (by simpa using h6) (.inl ⟨hw, hy⟩) hS h
theorem till_step {i : Nat} {o : Oper} {k : Nat} {d : Array Bool} {a : Act} {w : World} (hi : ops[i]? = some o) (hr : Region.ready md ops d = [i]) 
    (h : ∀ K : Act → World → Prop, Hid (∀ a w, (i ≠ z → S w) → AnyTill P md ops Q S z k (d.setIfInBounds i true) a w → K a w) → if Region.wanted o (yielded ops a.tmps) = true then Oper.wp P o a w K Q else K (a.put o.dst undef) w) : AnyTill P md ops Q S z (k + 1) d a w := by
  refine ⟨fun h0 => (by rw [hr] at h0; cases h0), fun j hj => ?_⟩
  rw [hr] at hj
  rcases List.mem_singleton.1 hj with rfl
  exact wpOp_step hi fun K hK => h K (fun a w h1 h2 => hK a w ⟨h1, h2⟩)
theorem till_done {d : Array Bool} {a : Act} {w : World} (hr : Region.ready md ops d = []) (h : Q .normal a w) : ∀ k, AnyTill P md ops Q S z k d a w
  | 0 => ⟨hr, h⟩
  | _ + 1 => ⟨fun _ => h, by rw [hr]; simp⟩
end
end Go.Proofs.Ytgbgjljflgbcaaa
