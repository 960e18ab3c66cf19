import Derived.Test.YtpehlekjfnkhoaaDoorD6
import Derived.Deep.Upon
import Derived.Deep.Slices
namespace Go.Proofs.YtpehlekjfnkhoaaDoor
open Go.RowKit
set_option linter.unusedSimpArgs false
set_option linter.unusedVariables false

/-- append, at a step of a region that draws, from whatever slice, also an empty one -/
theorem step_append_src {P : Program} {w : World} {ops : Array Oper} {o : Oper} {a : Act} {K : Act → World → Prop} {Q : Exit → Act → World → Prop} {E : Prop} (hgd : o.guard = none) (s x : Operand) (t : TypeId)
    (ho : o.op = .call { callee := .builtin .append, args := #[s, x], argTypes := #[t, t] })
    (base : Nat) (e : TypeId) (i : TypeInfo) (z : Value) (size bytes : Nat) (ht : P.underlying t = some (.slice e)) (hi : P.info? e = some i) (hz : i.zero = some z)
    (hsize : i.size = size) (hby : i.bytes = bytes) (hzs : z.cells.size = size) (hsz : 0 < size)
    (v : Value) (n : Nat) (xs : List Value) (hs : a.eval s = v) (hown : w.ownsRow base e size v n xs)
    (ao : Option Addr) (m c : Nat) (news : List Value) (hx : a.eval x = .slice ao m c) (hl : news.length = m * size) (hsrc : m = 0 ∨ ∃ ad, ao = some ad ∧ ∀ j u, news[j]? = some u → w.cell? (ad.add j) = some u) (h1 : ∀ u ∈ news, u.oneCell' = true)
    (h63 : n + m ≤ maxLen) (hbytes : (n + m) * bytes ≤ 140737488355328) (hbase : base ≤ w.heap.size)
    (h : ∀ v' w', w'.ownsRow base e size v' (n + m) (xs ++ news) → w.grownBy w' v.ownBlock → K (a.put o.dst v') w') :
    if Region.wanted o (yielded ops a.tmps) = true then Oper.wp P o a w K Q else E := by
  have hw : Region.wanted o (yielded ops a.tmps) = true := by simp [Region.wanted, hgd]
  rw [if_pos hw]
  by_cases hm : m = 0
  · subst hm
    have hnil : news = [] := by cases news with | nil => rfl | cons y ys => simp at hl
    subst hnil
    obtain ⟨b, cap, hv, hcap, _⟩ := own_shape hown
    have hr := run_append_nothing (P := P) w t t o.type e i ht hi b n cap hcap (.slice ao 0 c) (by
      cases ao with
      | none => exact Src.ofNil w ht c
      | some ad => exact Src.ofSlice w ht ad 0 c [] (by simp) (by simp) (by simp))
    unfold Oper.wp execOp
    simp only [ho, resolve, invoke, builtin, Sem.run_bind, Sem.run_pure, Result.andThen_ok, List.map_toArray, List.map_cons, List.map_nil, hs, hx, hv, hr]
    exact h _ w (by rw [List.append_nil, Nat.add_zero, ← hv]; exact hown) (World.grownBy.refl _ _)
  · obtain ⟨ad, rfl, hnews⟩ : ∃ ad, ao = some ad ∧ ∀ j u, news[j]? = some u → w.cell? (ad.add j) = some u := by
      rcases hsrc with h0 | h0
      · exact absurd h0 hm
      · exact h0
    exact wp_append_own w s x t ho base e i z size bytes ht hi hz hsize hby hzs hsz v n xs hs hown ad m c news hx hl hnews h1 h63 hbytes hbase (fun v' w' a1 a2 _ => h v' w' a1 a2)

/-- the cells of acts that lie somewhere, to be copied -/
theorem acts_src {S : Nat → Prop} {w : World} {v : Value} {acts : List Ac} (h : ActsOn S w v acts) :
    ∃ (L : List (Ac × Value × Value)) (ao : Option Addr) (cap : Nat), acts = L.map (·.1) ∧ v = .slice ao L.length cap ∧ L.length ≤ 9223372036854775807 ∧ (L.length = 0 ∨ ∃ b off, ao = some ⟨b, off, none⟩ ∧ S b ∧ b < w.heap.size ∧ ∀ j u, (acCells L)[j]? = some u → w.cell? ((⟨b, off, none⟩ : Addr).add j) = some u) ∧
      (∀ x, x ∈ L → DeedsOn S w x.2.1 x.1.ds ∧ IntsOn S w x.2.2 x.1.ks) := by
  obtain ⟨ao, cap, rfl, hm, hc⟩ := h
  obtain ⟨f, hf⟩ := @Go.Deep.choose_lt (Value × Value) ⟨(.slice none 0 0, .slice none 0 0)⟩ acts.length (fun i q => ∃ b off, ao = some ⟨b, off, none⟩ ∧ S b ∧ b < w.heap.size ∧
    w.cell? ⟨b, off + i * 4, none⟩ = some (.int .i64 (nth Ac.z acts i).k) ∧ w.cell? ⟨b, off + i * 4 + 1, none⟩ = some q.1 ∧ w.cell? ⟨b, off + i * 4 + 2, none⟩ = some q.2 ∧ w.cell? ⟨b, off + i * 4 + 3, none⟩ = some (.int .i64 (nth Ac.z acts i).r) ∧
    DeedsOn S w q.1 (nth Ac.z acts i).ds ∧ IntsOn S w q.2 (nth Ac.z acts i).ks) (fun i hi => by
      obtain ⟨b, off, dv, kv, e1, e2⟩ := hc i hi
      exact ⟨(dv, kv), b, off, e1, e2⟩)
  have hlen : ((List.range acts.length).map fun i => ((nth Ac.z acts i, f i) : Ac × Value × Value)).length = acts.length := by simp
  refine ⟨(List.range acts.length).map fun i => (nth Ac.z acts i, f i), ao, cap, ?_, by rw [hlen], by rw [hlen]; exact hm, ?_, ?_⟩
  · apply List.ext_getElem (by simp)
    intro i h1 h2
    simp [nth_eq Ac.z acts i h1]
  · by_cases h0 : acts.length = 0
    · left; rw [hlen]; exact h0
    · right
      obtain ⟨b, off, e, hS, hb, _⟩ := hf 0 (by omega)
      refine ⟨b, off, e, hS, hb, fun j u hj => ?_⟩
      have hjl : j < (acCells ((List.range acts.length).map fun i => ((nth Ac.z acts i, f i) : Ac × Value × Value))).length := by
        rcases Nat.lt_or_ge j (acCells ((List.range acts.length).map fun i => ((nth Ac.z acts i, f i) : Ac × Value × Value))).length with h | h
        · exact h
        · rw [List.getElem?_eq_none h] at hj; cases hj
      have htot : (acCells ((List.range acts.length).map fun i => ((nth Ac.z acts i, f i) : Ac × Value × Value))).length = acts.length * 4 := by
        have : ∀ L : List (Ac × Value × Value), (acCells L).length = L.length * 4 := fun L => by
          induction L with
          | nil => rfl
          | cons y ys ih => simp [acCells] at ih ⊢; omega
        rw [this, hlen]
      have hi : j / 4 < acts.length := by omega
      have hr : j % 4 < 4 := Nat.mod_lt _ (by omega)
      have hdj : j = j / 4 * 4 + j % 4 := by omega
      have G := flat_get 4 (fun x : Ac × Value × Value => [Value.int .i64 x.1.k, x.2.1, x.2.2, .int .i64 x.1.r]) (fun _ => rfl) (j % 4) hr ((List.range acts.length).map fun i => ((nth Ac.z acts i, f i) : Ac × Value × Value)) (j / 4) (by rw [hlen]; exact hi)
      rw [hdj] at hj
      unfold acCells at hj
      rw [G] at hj
      obtain ⟨b', off', e', _, _, c0, c1, c2, c3, _⟩ := hf (j / 4) hi
      rw [e] at e'
      injection e' with e2
      injection e2 with e3 e4
      subst e3 e4
      rw [Go.WideShapes.add_plain, hdj]
      simp only [List.getElem_map, List.getElem_range] at hj
      have h4 : j % 4 = 0 ∨ j % 4 = 1 ∨ j % 4 = 2 ∨ j % 4 = 3 := by omega
      rcases h4 with h4 | h4 | h4 | h4 <;> rw [h4] at hj ⊢ <;> simp at hj <;> subst hj
      · exact c0
      · rw [← Nat.add_assoc]; exact c1
      · rw [← Nat.add_assoc]; exact c2
      · rw [← Nat.add_assoc]; exact c3
  · intro x hx
    obtain ⟨i, hi, rfl⟩ := List.mem_map.1 hx
    obtain ⟨b, off, _, _, _, _, _, _, _, hd, hk⟩ := hf i (List.mem_range.1 hi)
    exact ⟨hd, hk⟩

theorem rowActs_at {B : Nat} {w : World} {v : Value} {L : List (Ac × Value × Value)} (hr : w.ownsRow B 34 4 v L.length (acCells L)) (hin : ∀ x, x ∈ L → DeedsAt w x.2.1 x.1.ds ∧ IntsAt w x.2.2 x.1.ks) : ActsAt w v (L.map (·.1)) := by
  obtain ⟨a, cap, rfl, h1, h2⟩ := own_shape hr
  have hl := hr.1
  refine ⟨a, cap, by simp, by simp; omega, fun i hi => ?_⟩
  have hi' : i < L.length := by simpa using hi
  obtain ⟨g, c, hv, hg, _, hc⟩ := own_cell hr (i * 4) (by omega)
  injection hv with e1
  have G := fun j hj => flat_get 4 (fun x : Ac × Value × Value => [Value.int .i64 x.1.k, x.2.1, x.2.2, .int .i64 x.1.r]) (fun _ => rfl) j hj L i hi'
  have hx := hin L[i] (List.getElem_mem hi')
  have hn : nth Ac.z (L.map (·.1)) i = L[i].1 := by rw [nth_eq _ _ _ hi]; simp
  refine ⟨g, 0, L[i].2.1, L[i].2.2, e1, hg, ?_⟩
  rw [hn, Nat.zero_add]
  refine ⟨?_, ?_, ?_, ?_, hx.1, hx.2⟩
  · rcases hc (i * 4) with h3 | h3
    · rw [h3]; exact G 0 (by omega)
    · omega
  · rcases hc (i * 4 + 1) with h3 | h3
    · rw [h3]; exact G 1 (by omega)
    · omega
  · rcases hc (i * 4 + 2) with h3 | h3
    · rw [h3]; exact G 2 (by omega)
    · omega
  · rcases hc (i * 4 + 3) with h3 | h3
    · rw [h3]; exact G 3 (by omega)
    · omega

end Go.Proofs.YtpehlekjfnkhoaaDoor
