import Derived.Test.YtgbgjljflgbcaaaNe14
import Derived.Test.YtgbgjljflgbcaaaNe07
import Derived.Test.YtgbgjljflgbcaaaNe12
import Derived.Deep.Upon
import Derived.Deep.Slices
import Derived.Test.YtgbgjljflgbcaaaNe13
import Derived.Laws.ResultCell
import Derived.Test.YtgbgjljflgbcaaaNe05
import Derived.Handy
import Derived.BigQuiet
import Derived.Deep.QuietTactic
import Derived.Test.YtgbgjljflgbcaaaNe08
namespace Go.Proofs.Ytgbgjljflgbcaaa
open Go.RowKit
set_option linter.unusedSimpArgs false
set_option linter.unusedVariables false
theorem pR_on {f : Nat → Key} {κ : Key} {B : Nat} {w : World} {v : Value} {xs : List Pu} (h : pR f κ B w v xs) : PusOn (fun b => B ≤ b) w v xs := by
  obtain ⟨a, cap, rfl, h1, h2⟩ := own_shape h.1
  refine ⟨a, cap, rfl, ⟨h1, h2⟩, fun i hi => ?_⟩
  obtain ⟨g, c, e, hB, hl, _, _, _, hc, _⟩ := row_cells h (by omega) (by omega)
  injection e with e1 e2 e3
  subst e1
  have hlen : (xs.flatMap puC).length = xs.length * 2 := flat_len 2 puC puC_len xs
  have F := fun q (hq : q < 2) => (hc (i * 2 + q) (by omega)).trans (flat_at 2 puC puC_len Pu.z q hq xs i hi)
  exact ⟨g, 0, rfl, hB, hl, by rw [Nat.zero_add]; exact F 0 (by omega), by rw [Nat.zero_add]; exact F 1 (by omega)⟩
theorem iR_on {f : Nat → Key} {κ : Key} {B : Nat} {w : World} {v : Value} {xs : List Int} (h : iR f κ B w v xs) : IntsOn (fun b => B ≤ b) w v xs := by
  obtain ⟨a, cap, rfl, h1, h2⟩ := own_shape h.1
  refine ⟨a, cap, rfl, by omega, fun i hi => ?_⟩
  obtain ⟨g, c, e, hB, hl, _, _, _, hc, _⟩ := row_cells h (by omega) (by omega)
  injection e with e1 e2 e3
  subst e1
  refine ⟨g, 0, rfl, hB, hl, ?_⟩
  rw [Nat.zero_add, hc i (by simpa using hi), nth_eq 0 xs i hi]
  simp [hi]
theorem OwnSy.cesOn {f : Nat → Key} {B : Nat} {w : World} {cv tv lv : Value} {cs : List Ce} {T : List TT} {L : List EE} (h : OwnSy f B w cv tv lv cs T L) : CesOn (fun b => B ≤ b) w cv cs := by
  obtain ⟨a, c, e, h1, h2⟩ := own_shape h.c.1
  refine ⟨a, c, e, ⟨h1, h2⟩, fun i hi => ?_⟩
  obtain ⟨g, cap, e', hB, hg, _, _, _, hcell, _⟩ := row_cells h.c (by omega) (by omega)
  rw [e] at e'
  injection e' with e1 e2 e3
  have hc : ∀ j, j < 3 → w.cell? ⟨g, i * 3 + j, none⟩ = (ceC (nth Ce.z cs i))[j]? := fun j hj => by
    rw [hcell _ (by rw [flat_len 3 ceC ceC_len]; have : (i + 1) * 3 ≤ cs.length * 3 := Nat.mul_le_mul_right _ hi; omega)]
    exact flat_at 3 ceC ceC_len Ce.z j hj cs i hi
  refine ⟨g, 0, e1, hB, hg, ?_, ?_, ?_⟩
  · have := hc 0 (by omega); simpa [ceC] using this
  · have := hc 1 (by omega); simpa [ceC] using this
  · have := hc 2 (by omega); simpa [ceC] using this
theorem OwnSy.tasOn {f : Nat → Key} {B : Nat} {w : World} {cv tv lv : Value} {cs : List Ce} {T : List TT} {L : List EE} (h : OwnSy f B w cv tv lv cs T L) : TasOn (fun b => B ≤ b) w tv (T.map (·.1)) := by
  obtain ⟨a, c, e, h1, h2⟩ := own_shape h.t.1
  refine ⟨a, c, by rw [List.length_map]; exact e, ⟨by rw [List.length_map]; exact h1, h2⟩, fun i hi => ?_⟩
  rw [List.length_map] at hi
  obtain ⟨g, cap, e', h7⟩ := h.tk hi
  rw [e] at e'
  injection e' with e1 e2 e3
  obtain ⟨t0, t1, t2, t3, t4, t5, t6, t7, t8, t9, t10, t11, t12⟩ := h7.cells
  rw [map_nth (·.1) TT.z Ta.z T i hi]
  refine ⟨g, 0, _, _, _, _, e1, h7.ge, h7.lt, ?_, ?_, ?_, ?_, ?_, ?_, ?_, ?_, ?_, ?_, ?_, ?_, ?_, iR_on h7.ti.r, iR_on h7.ti.o, pR_on h7.ti.d, pR_on h7.ti.u⟩ <;> simp only [Nat.zero_add] <;> assumption
theorem OwnSy.ensOn {f : Nat → Key} {B : Nat} {w : World} {cv tv lv : Value} {cs : List Ce} {T : List TT} {L : List EE} (h : OwnSy f B w cv tv lv cs T L) : EnsOn (fun b => B ≤ b) w lv (L.map (·.1)) := by
  obtain ⟨a, c, e, h1, h2⟩ := own_shape h.l.1
  refine ⟨a, c, by rw [List.length_map]; exact e, ⟨by rw [List.length_map]; exact h1, h2⟩, fun i hi => ?_⟩
  rw [List.length_map] at hi
  obtain ⟨g, cap, e', hB, hg, _, _, _, hcell, _⟩ := row_cells h.l (by omega) (by omega)
  rw [e] at e'
  injection e' with e1 e2 e3
  have hc : ∀ j, j < 6 → w.cell? ⟨g, i * 6 + j, none⟩ = (enC (nth EE.z L i))[j]? := fun j hj => by
    rw [hcell _ (by rw [flat_len 6 enC enC_len]; have : (i + 1) * 6 ≤ L.length * 6 := Nat.mul_le_mul_right _ hi; omega)]
    exact flat_at 6 enC enC_len EE.z j hj L i hi
  have hli := h.li i hi
  rw [map_nth (·.1) EE.z En.z L i hi]
  refine ⟨g, 0, _, _, e1, hB, hg, ?_, ?_, ?_, ?_, ?_, ?_, pR_on hli.d, pR_on hli.u⟩
  · have := hc 0 (by omega); simpa [enC] using this
  · have := hc 1 (by omega); simpa [enC] using this
  · have := hc 2 (by omega); simpa [enC] using this
  · have := hc 3 (by omega); simpa [enC] using this
  · have := hc 4 (by omega); simpa [enC] using this
  · have := hc 5 (by omega); simpa [enC] using this
theorem OwnSy.on {f : Nat → Key} {B : Nat} {w : World} {cv tv lv : Value} {T : List TT} {L : List EE} {s : Sy} (h : OwnSy f B w cv tv lv s.cells T L) (hT : T.map (·.1) = s.tasks) (hL : L.map (·.1) = s.log) : SyOn (fun b => B ≤ b) w cv tv lv s :=
  ⟨h.cesOn, by rw [← hT]; exact h.tasOn, by rw [← hL]; exact h.ensOn⟩
end Go.Proofs.Ytgbgjljflgbcaaa

namespace Go.Proofs.Ytgbgjljflgbcaaa
open Go.RowKit
set_option linter.unusedSimpArgs false
set_option linter.unusedVariables false
theorem step_append_src {P : Program} {w : World} {ops : Array Oper} {o : Oper} {a : Act} {K : Act → World → Prop} {Q : Exit → Act → World → Prop} {E : Prop} (hgd : o.guard = none) (s x : Operand) (t : TypeId)
    (ho : o.op = .call { callee := .builtin .append, args := #[s, x], argTypes := #[t, t] })
    (base : Nat) (e : TypeId) (i : TypeInfo) (z : Value) (size bytes : Nat) (ht : P.underlying t = some (.slice e)) (hi : P.info? e = some i) (hz : i.zero = some z)
    (hsize : i.size = size) (hby : i.bytes = bytes) (hzs : z.cells.size = size) (hsz : 0 < size)
    (v : Value) (n : Nat) (xs : List Value) (hs : a.eval s = v) (hown : w.ownsRow base e size v n xs)
    (ao : Option Addr) (m c : Nat) (news : List Value) (hx : a.eval x = .slice ao m c) (hl : news.length = m * size) (hsrc : m = 0 ∨ ∃ ad, ao = some ad ∧ ∀ j u, news[j]? = some u → w.cell? (ad.add j) = some u) (h1 : ∀ u ∈ news, u.oneCell' = true)
    (h63 : n + m ≤ maxLen) (hbytes : (n + m) * bytes ≤ 140737488355328) (hbase : base ≤ w.heap.size)
    (h : ∀ v' w', w'.ownsRow base e size v' (n + m) (xs ++ news) → w.grownBy w' v.ownBlock → K (a.put o.dst v') w') :
    if Region.wanted o (yielded ops a.tmps) = true then Oper.wp P o a w K Q else E := by
  have hw : Region.wanted o (yielded ops a.tmps) = true := by simp [Region.wanted, hgd]
  rw [if_pos hw]
  by_cases hm : m = 0
  · subst hm
    have hnil : news = [] := by cases news with | nil => rfl | cons y ys => simp at hl
    subst hnil
    obtain ⟨b, cap, hv, hcap, _⟩ := own_shape hown
    have hr := run_append_nothing (P := P) w t t o.type e i ht hi b n cap hcap (.slice ao 0 c) (by
      cases ao with
      | none => exact Src.ofNil w ht c
      | some ad => exact Src.ofSlice w ht ad 0 c [] (by simp) (by simp) (by simp))
    unfold Oper.wp execOp
    simp only [ho, resolve, invoke, builtin, Sem.run_bind, Sem.run_pure, Result.andThen_ok, List.map_toArray, List.map_cons, List.map_nil, hs, hx, hv, hr]
    exact h _ w (by rw [List.append_nil, Nat.add_zero, ← hv]; exact hown) (World.grownBy.refl _ _)
  · obtain ⟨ad, rfl, hnews⟩ : ∃ ad, ao = some ad ∧ ∀ j u, news[j]? = some u → w.cell? (ad.add j) = some u := by
      rcases hsrc with h0 | h0
      · exact absurd h0 hm
      · exact h0
    exact wp_append_own w s x t ho base e i z size bytes ht hi hz hsize hby hzs hsz v n xs hs hown ad m c news hx hl hnews h1 h63 hbytes hbase (fun v' w' a1 a2 _ => h v' w' a1 a2)
theorem acts_src {S : Nat → Prop} {w : World} {v : Value} {acts : List Ac} (h : ActsOn S w v acts) :
    ∃ (L : List (Ac × Value × Value)) (ao : Option Addr) (cap : Nat), acts = L.map (·.1) ∧ v = .slice ao L.length cap ∧ L.length ≤ 9223372036854775807 ∧ (L.length = 0 ∨ ∃ b off, ao = some ⟨b, off, none⟩ ∧ S b ∧ b < w.heap.size ∧ ∀ j u, (acCells L)[j]? = some u → w.cell? ((⟨b, off, none⟩ : Addr).add j) = some u) ∧
      (∀ x, x ∈ L → DeedsOn S w x.2.1 x.1.ds ∧ IntsOn S w x.2.2 x.1.ks) := by
  obtain ⟨ao, cap, rfl, hm, hc⟩ := h
  obtain ⟨f, hf⟩ := @Go.Deep.choose_lt (Value × Value) ⟨(.slice none 0 0, .slice none 0 0)⟩ acts.length (fun i q => ∃ b off, ao = some ⟨b, off, none⟩ ∧ S b ∧ b < w.heap.size ∧
    w.cell? ⟨b, off + i * 4, none⟩ = some (.int .i64 (nth Ac.z acts i).k) ∧ w.cell? ⟨b, off + i * 4 + 1, none⟩ = some q.1 ∧ w.cell? ⟨b, off + i * 4 + 2, none⟩ = some q.2 ∧ w.cell? ⟨b, off + i * 4 + 3, none⟩ = some (.int .i64 (nth Ac.z acts i).r) ∧
    DeedsOn S w q.1 (nth Ac.z acts i).ds ∧ IntsOn S w q.2 (nth Ac.z acts i).ks) (fun i hi => by
      obtain ⟨b, off, dv, kv, e1, e2⟩ := hc i hi
      exact ⟨(dv, kv), b, off, e1, e2⟩)
  have hlen : ((List.range acts.length).map fun i => ((nth Ac.z acts i, f i) : Ac × Value × Value)).length = acts.length := by simp
  refine ⟨(List.range acts.length).map fun i => (nth Ac.z acts i, f i), ao, cap, ?_, by rw [hlen], by rw [hlen]; exact hm, ?_, ?_⟩
  · apply List.ext_getElem (by simp)
    intro i h1 h2
    simp [nth_eq Ac.z acts i h1]
  · by_cases h0 : acts.length = 0
    · left; rw [hlen]; exact h0
    · right
      obtain ⟨b, off, e, hS, hb, _⟩ := hf 0 (by omega)
      refine ⟨b, off, e, hS, hb, fun j u hj => ?_⟩
      have hjl : j < (acCells ((List.range acts.length).map fun i => ((nth Ac.z acts i, f i) : Ac × Value × Value))).length := by
        rcases Nat.lt_or_ge j (acCells ((List.range acts.length).map fun i => ((nth Ac.z acts i, f i) : Ac × Value × Value))).length with h | h
        · exact h
        · rw [List.getElem?_eq_none h] at hj; cases hj
      have htot : (acCells ((List.range acts.length).map fun i => ((nth Ac.z acts i, f i) : Ac × Value × Value))).length = acts.length * 4 := by
        have : ∀ L : List (Ac × Value × Value), (acCells L).length = L.length * 4 := fun L => by
          induction L with
          | nil => rfl
          | cons y ys ih => simp [acCells] at ih ⊢; omega
        rw [this, hlen]
      have hi : j / 4 < acts.length := by omega
      have hr : j % 4 < 4 := Nat.mod_lt _ (by omega)
      have hdj : j = j / 4 * 4 + j % 4 := by omega
      have G := flat_get 4 (fun x : Ac × Value × Value => [Value.int .i64 x.1.k, x.2.1, x.2.2, .int .i64 x.1.r]) (fun _ => rfl) (j % 4) hr ((List.range acts.length).map fun i => ((nth Ac.z acts i, f i) : Ac × Value × Value)) (j / 4) (by rw [hlen]; exact hi)
      rw [hdj] at hj
      unfold acCells at hj
      rw [G] at hj
      obtain ⟨b', off', e', _, _, c0, c1, c2, c3, _⟩ := hf (j / 4) hi
      rw [e] at e'
      injection e' with e2
      injection e2 with e3 e4
      subst e3 e4
      rw [Go.WideShapes.add_plain, hdj]
      simp only [List.getElem_map, List.getElem_range] at hj
      have h4 : j % 4 = 0 ∨ j % 4 = 1 ∨ j % 4 = 2 ∨ j % 4 = 3 := by omega
      rcases h4 with h4 | h4 | h4 | h4 <;> rw [h4] at hj ⊢ <;> simp at hj <;> subst hj
      · exact c0
      · rw [← Nat.add_assoc]; exact c1
      · rw [← Nat.add_assoc]; exact c2
      · rw [← Nat.add_assoc]; exact c3
  · intro x hx
    obtain ⟨i, hi, rfl⟩ := List.mem_map.1 hx
    obtain ⟨b, off, _, _, _, _, _, _, _, hd, hk⟩ := hf i (List.mem_range.1 hi)
    exact ⟨hd, hk⟩
end Go.Proofs.Ytgbgjljflgbcaaa

namespace Go.Proofs.Ytgbgjljflgbcaaa
open Go.RowKit
set_option linter.unusedSimpArgs false
set_option linter.unusedVariables false
theorem OwnSy.setZ {f : Nat → Key} {B : Nat} {w : World} {cv tv lv : Value} {cs : List Ce} {T : List TT} {L : List EE} (h : OwnSy f B w cv tv lv cs T L) {X o : Nat} (hz : f X = .z) (v : Value) : OwnSy f B (w.setCell ⟨X, o, none⟩ v) cv tv lv cs T L := by
  have hk : ∀ g, f g ≠ .z → (w.setCell ⟨X, o, none⟩ v).heap[g]? = w.heap[g]? := fun g hg => heap_set_ne w _ v g (fun e => hg (by rw [e]; exact hz))
  exact ⟨h.c.move (fun _ _ _ e => e) (fun g _ _ e => hk g (by rw [e]; simp)), h.t.move (fun _ _ _ e => e) (fun g _ _ e => hk g (by rw [e]; simp)), h.l.move (fun _ _ _ e => e) (fun g _ _ e => hk g (by rw [e]; simp)),
    fun i hi => (h.ti i hi).move (fun _ _ _ => rfl) (fun g _ _ e => hk g (by rcases e with e | e | e | e <;> rw [e] <;> simp)), fun j hj => (h.li j hj).move (fun _ _ _ => rfl) (fun g _ _ e => hk g (by rcases e with e | e <;> rw [e] <;> simp))⟩
structure CB (X B : Nat) (w : World) (s : Sy) : Prop where
  ex : ∃ f cv tv lv T L, OwnSy f B w cv tv lv s.cells T L ∧ T.map (·.1) = s.tasks ∧ L.map (·.1) = s.log ∧ f X = .z ∧ w.heap[X]? = some (.cells #[cv, tv, .int .i64 s.clock, lv] 32 (0, 0))
  le : B ≤ X
theorem bx_lt {w : World} {X : Nat} {o : Obj} (h : w.heap[X]? = some o) : X < w.heap.size := (Array.getElem?_eq_some_iff.1 h).1
theorem ces_src {w : World} {v : Value} {cs : List Ce} (h : CesAt w v cs) : ∃ a cap, v = .slice a cs.length cap ∧ cs.length ≤ cap ∧ cap ≤ 9223372036854775807 ∧ (cs.length = 0 ∨ ∃ b off, a = some ⟨b, off, none⟩ ∧ b < w.heap.size ∧ ∀ j u, (cs.flatMap ceC)[j]? = some u → w.cell? ((⟨b, off, none⟩ : Addr).add j) = some u) := by
  obtain ⟨a, cap, rfl, hm, hc⟩ := h
  refine ⟨a, cap, rfl, hm.1, hm.2, ?_⟩
  by_cases h0 : cs.length = 0
  · exact .inl h0
  obtain ⟨b, off, e, hb, _⟩ := hc 0 (by omega)
  refine .inr ⟨b, off, e, hb, fun j u hj => ?_⟩
  have hl := flat_len 3 ceC ceC_len cs
  have hjl : j < (cs.flatMap ceC).length := by
    rcases Nat.lt_or_ge j (cs.flatMap ceC).length with q | q
    · exact q
    · rw [List.getElem?_eq_none q] at hj; cases hj
  have hi : j / 3 < cs.length := by omega
  have hr : j % 3 < 3 := Nat.mod_lt _ (by omega)
  have ej : j = j / 3 * 3 + j % 3 := by omega
  obtain ⟨b', off', e', _, c0, c1, c2⟩ := hc (j / 3) hi
  rw [e] at e'
  injection e' with e2
  injection e2 with e3 e4
  subst e3 e4
  rw [ej, flat_at 3 ceC ceC_len Ce.z (j % 3) hr cs (j / 3) hi] at hj
  rw [Go.WideShapes.add_plain]
  have ea : off + j = off + j / 3 * 3 + j % 3 := by omega
  rw [ea]
  rcases (by omega : j % 3 = 0 ∨ j % 3 = 1 ∨ j % 3 = 2) with q | q | q <;> rw [q] at hj ⊢ <;> simp [ceC] at hj <;> subst hj
  · exact c0
  · exact c1
  · exact c2
theorem box4 {w : World} {X : Nat} {a0 a1 a2 a3 b0 b1 b2 b3 : Value} {t : TypeId} (h : w.heap[X]? = some (.cells #[a0, a1, a2, a3] t (0, 0))) :
    ((((w.setCell ⟨X, 0, none⟩ b0).setCell ⟨X, 1, none⟩ b1).setCell ⟨X, 2, none⟩ b2).setCell ⟨X, 3, none⟩ b3).heap[X]? = some (.cells #[b0, b1, b2, b3] t (0, 0)) ∧ TagKept t w ((((w.setCell ⟨X, 0, none⟩ b0).setCell ⟨X, 1, none⟩ b1).setCell ⟨X, 2, none⟩ b2).setCell ⟨X, 3, none⟩ b3) := by
  have h0 := heap_setCell_same w X 0 _ _ b0 h
  have h1 := heap_setCell_same _ X 1 _ _ b1 h0
  have h2 := heap_setCell_same _ X 2 _ _ b2 h1
  have h3 := heap_setCell_same _ X 3 _ _ b3 h2
  refine ⟨h3, fun g cur e hg he => ?_⟩
  have hne : g ≠ X := fun q => by
    rw [q, h] at hg
    injection hg with hg
    injection hg with _ h5 _
    exact he h5.symm
  rw [heap_set_ne _ _ _ g hne, heap_set_ne _ _ _ g hne, heap_set_ne _ _ _ g hne, heap_set_ne _ _ _ g hne]
theorem box4c {w : World} {X : Nat} {a0 a1 a2 a3 : Value} {t : TypeId} (h : w.heap[X]? = some (.cells #[a0, a1, a2, a3] t (0, 0))) : (w.cell? ⟨X, 0, none⟩ = some a0 ∧ w.cell? ⟨X, 1, none⟩ = some a1 ∧ w.cell? ⟨X, 2, none⟩ = some a2 ∧ w.cell? ⟨X, 3, none⟩ = some a3) ∧ (w.frozen? ⟨X, 0, none⟩ = false ∧ w.frozen? ⟨X, 1, none⟩ = false ∧ w.frozen? ⟨X, 2, none⟩ = false ∧ w.frozen? ⟨X, 3, none⟩ = false) ∧ X < w.heap.size := by
  refine ⟨⟨?_, ?_, ?_, ?_⟩, ⟨?_, ?_, ?_, ?_⟩, bx_lt h⟩
  · rw [cell_of_row w X 0 _ _ (0, 0) h]; rfl
  · rw [cell_of_row w X 1 _ _ (0, 0) h]; rfl
  · rw [cell_of_row w X 2 _ _ (0, 0) h]; rfl
  · rw [cell_of_row w X 3 _ _ (0, 0) h]; rfl
  · simp [World.frozen?, h]
  · simp [World.frozen?, h]
  · simp [World.frozen?, h]
  · simp [World.frozen?, h]
section
variable {P : Program} {ops : Array Oper} {Q : Exit → Act → World → Prop} {md : Region.Mode} {S : World → Prop} {z : Nat}
end
def regAt (k : Nat) : Code → Option Code
  | .region i ops b => if i = k then some (.region i ops b) else none
  | .seq a b => match regAt k a with
    | some c => some c
    | none => regAt k b
  | .block _ c => regAt k c
  | .loop c => regAt k c
  | .scope c => regAt k c
  | .cond _ a b => match regAt k a with
    | some c => some c
    | none => regAt k b
  | _ => none
end Go.Proofs.Ytgbgjljflgbcaaa

namespace Go.Proofs.Ytgbgjljflgbcaaa
open Go.RowKit
set_option linter.unusedSimpArgs false
set_option linter.unusedVariables false
set_option maxRecDepth 20000
def TBx (w : World) (z : Nat) (t : Ta) (v3 v8 v9 v10 : Value) : Prop := w.heap[z]? = some (.cells #[.int .i64 t.body, .int .i64 t.pc, .int .i64 t.up, v3, .int .i64 t.way, .int .i64 t.stage, .int .i64 t.at_, .int .i64 t.since, v8, v9, v10, .int .i64 t.when_, .int .i64 t.from_] 70 (0, 0))
theorem TBx.cells {w : World} {z : Nat} {t : Ta} {v3 v8 v9 v10 : Value} (h : TBx w z t v3 v8 v9 v10) :
    (w.cell? ⟨z, 0, none⟩ = some (.int .i64 t.body) ∧ w.cell? ⟨z, 1, none⟩ = some (.int .i64 t.pc) ∧ w.cell? ⟨z, 2, none⟩ = some (.int .i64 t.up) ∧ w.cell? ⟨z, 3, none⟩ = some v3 ∧ w.cell? ⟨z, 4, none⟩ = some (.int .i64 t.way) ∧ w.cell? ⟨z, 5, none⟩ = some (.int .i64 t.stage) ∧ w.cell? ⟨z, 6, none⟩ = some (.int .i64 t.at_) ∧ w.cell? ⟨z, 7, none⟩ = some (.int .i64 t.since) ∧ w.cell? ⟨z, 8, none⟩ = some v8 ∧ w.cell? ⟨z, 9, none⟩ = some v9 ∧ w.cell? ⟨z, 10, none⟩ = some v10 ∧ w.cell? ⟨z, 11, none⟩ = some (.int .i64 t.when_) ∧ w.cell? ⟨z, 12, none⟩ = some (.int .i64 t.from_)) ∧ (∀ o, w.frozen? ⟨z, o, none⟩ = false) ∧ z < w.heap.size := by
  unfold TBx at h
  refine ⟨⟨?_, ?_, ?_, ?_, ?_, ?_, ?_, ?_, ?_, ?_, ?_, ?_, ?_⟩, fun o => frozen_of_row w z o _ _ h, bx_lt h⟩ <;> (rw [cell_of_row w z _ _ _ (0, 0) h]; rfl)
theorem TBx.heap {w w' : World} {z : Nat} {t : Ta} {v3 v8 v9 v10 : Value} (h : TBx w z t v3 v8 v9 v10) (hk : w'.heap[z]? = w.heap[z]?) : TBx w' z t v3 v8 v9 v10 := hk.trans h
def EBx (w : World) (z : Nat) (t : En) (v3 v4 : Value) : Prop := w.heap[z]? = some (.cells #[.int .i64 t.task, .int .i64 t.act, .int .i64 t.when_, v3, v4, .int .i64 t.from_] 55 (0, 0))
theorem EBx.cells {w : World} {z : Nat} {t : En} {v3 v4 : Value} (h : EBx w z t v3 v4) :
    (w.cell? ⟨z, 0, none⟩ = some (.int .i64 t.task) ∧ w.cell? ⟨z, 1, none⟩ = some (.int .i64 t.act) ∧ w.cell? ⟨z, 2, none⟩ = some (.int .i64 t.when_) ∧ w.cell? ⟨z, 3, none⟩ = some v3 ∧ w.cell? ⟨z, 4, none⟩ = some v4 ∧ w.cell? ⟨z, 5, none⟩ = some (.int .i64 t.from_)) ∧ (∀ o, w.frozen? ⟨z, o, none⟩ = false) ∧ z < w.heap.size := by
  unfold EBx at h
  refine ⟨⟨?_, ?_, ?_, ?_, ?_, ?_⟩, fun o => frozen_of_row w z o _ _ h, bx_lt h⟩ <;> (rw [cell_of_row w z _ _ _ (0, 0) h]; rfl)
theorem EBx.heap {w w' : World} {z : Nat} {t : En} {v3 v4 : Value} (h : EBx w z t v3 v4) (hk : w'.heap[z]? = w.heap[z]?) : EBx w' z t v3 v4 := hk.trans h
theorem OwnSy.base {f : Nat → Key} {B B' : Nat} {w : World} {cv tv lv : Value} {cs : List Ce} {T : List TT} {L : List EE} (h : OwnSy f B w cv tv lv cs T L) (hB : B' ≤ B) : OwnSy f B' w cv tv lv cs T L :=
  ⟨⟨own_base h.c.1 hB, h.c.2⟩, ⟨own_base h.t.1 hB, h.t.2⟩, ⟨own_base h.l.1 hB, h.l.2⟩, fun i hi => ⟨⟨own_base (h.ti i hi).r.1 hB, (h.ti i hi).r.2⟩, ⟨own_base (h.ti i hi).o.1 hB, (h.ti i hi).o.2⟩, ⟨own_base (h.ti i hi).d.1 hB, (h.ti i hi).d.2⟩, ⟨own_base (h.ti i hi).u.1 hB, (h.ti i hi).u.2⟩⟩,
    fun j hj => ⟨⟨own_base (h.li j hj).d.1 hB, (h.li j hj).d.2⟩, ⟨own_base (h.li j hj).u.1 hB, (h.li j hj).u.2⟩⟩⟩
end Go.Proofs.Ytgbgjljflgbcaaa

namespace Go.Proofs.Ytgbgjljflgbcaaa
open Go.RowKit
set_option linter.unusedSimpArgs false
set_option linter.unusedVariables false
set_option maxRecDepth 20000
end Go.Proofs.Ytgbgjljflgbcaaa

namespace Go.Proofs.Ytgbgjljflgbcaaa
open Go.RowKit
set_option linter.unusedSimpArgs false
set_option linter.unusedVariables false
set_option maxRecDepth 20000
end Go.Proofs.Ytgbgjljflgbcaaa

namespace Go.Proofs.Ytgbgjljflgbcaaa
open Go.RowKit
set_option linter.unusedSimpArgs false
set_option linter.unusedVariables false
end Go.Proofs.Ytgbgjljflgbcaaa

namespace Go.Proofs.Ytgbgjljflgbcaaa
open Go.RowKit
set_option linter.unusedSimpArgs false
set_option linter.unusedVariables false
set_option maxRecDepth 20000
end Go.Proofs.Ytgbgjljflgbcaaa

namespace Go.Proofs.Ytgbgjljflgbcaaa
open Go.RowKit
set_option linter.unusedSimpArgs false
set_option linter.unusedVariables false
set_option maxRecDepth 20000
end Go.Proofs.Ytgbgjljflgbcaaa

namespace Go.Proofs.Ytgbgjljflgbcaaa
open Go.RowKit
set_option linter.unusedSimpArgs false
set_option linter.unusedVariables false
def SbT (t : Ta) : Prop := 0 ≤ t.since ∧ t.since ≤ 200
def Sb (s : Sy) : Prop := ∀ i, i < s.tasks.length → SbT (tkN s i)
structure Inw (p : Pr) (s : Sy) : Prop where
  i : Inv p s
  b : Sb s
theorem Sb.of {p : Pr} {s : Sy} (h : mSoB p s = true) : Sb s := by
  have hn := Np.of h
  rw [← so_eq] at h
  simp only [soB, Bool.and_eq_true] at h
  obtain ⟨⟨⟨⟨h1, h2⟩, h3⟩, h4⟩, h5⟩ := h
  simp only [tksB, Bool.and_eq_true, List.all_eq_true, List.mem_range, inB_iff] at h3
  intro i hi
  have ht := h3.2 i hi
  simp only [tkB, tnB, cgB, Bool.and_eq_true, inB_iff, plB_iff'] at ht
  obtain ⟨⟨⟨⟨⟨⟨⟨⟨a1, a2⟩, a3⟩, a4⟩, a5⟩, a6⟩, b⟩, c⟩, ⟨d1, d2⟩, e1, e2, e3, e4, e5, e6⟩ := ht
  have := hn.ck
  exact ⟨e4.1, Int.le_trans e4.2 this.2⟩
end Go.Proofs.Ytgbgjljflgbcaaa

namespace Go.Proofs.Ytgbgjljflgbcaaa
open Go.RowKit
set_option linter.unusedSimpArgs false
set_option linter.unusedVariables false
set_option maxRecDepth 20000
end Go.Proofs.Ytgbgjljflgbcaaa

namespace Go.Proofs.Ytgbgjljflgbcaaa
open Go.RowKit
set_option linter.unusedSimpArgs false
set_option linter.unusedVariables false
end Go.Proofs.Ytgbgjljflgbcaaa

namespace Go.Proofs.Ytgbgjljflgbcaaa
open Go.RowKit
set_option linter.unusedSimpArgs false
set_option linter.unusedVariables false
set_option maxRecDepth 20000
end Go.Proofs.Ytgbgjljflgbcaaa

namespace Go.Proofs.Ytgbgjljflgbcaaa
open Go.RowKit
set_option linter.unusedSimpArgs false
set_option linter.unusedVariables false
set_option maxRecDepth 20000
set_option maxHeartbeats 4000000 in
theorem moveOf_any (p : Pr) (pa0 pa1 : Option Addr) (pc0 pc1 : Nat) (Y : Nat) (s : Sy) (b off : Nat) (sc1 i : Nat) (w : World) (hY1 : w.cell? ⟨Y, 1, none⟩ = some (.slice (some ⟨b, off, none⟩) s.tasks.length sc1)) (hY2 : w.cell? ⟨Y, 2, none⟩ = some (.int .i64 s.clock)) (hYl : Y < w.heap.size) (hi : i < s.tasks.length) :
    Calls Try.prog 43 #[.agg #[.slice pa0 p.cells.length pc0, .slice pa1 p.bodies.length pc1], .pointer (some ⟨Y, 0, none⟩), .int .i64 (i : Int)] w fun r w' => ∃ X, r = .returned (.pointer (some ⟨X, 0, none⟩)) ∧ MvAt w' X Y s (some ⟨b, off, none⟩) sc1 i ∧ Below w.heap.size w w' := by
  have hi' : (i : Int) < (s.tasks.length : Int) := by omega
  go_enter Try.func43, Try.ntmps43
  go_wp2_with fail
  go_region
  all_goals
    go_wp2_with fail
    go_ret
    refine ⟨w.heap.size + 1, rfl, ⟨?_, ?_, ?_, ?_, ⟨b, off, rfl, ?_⟩, ?_, ?_⟩, (by repeat (first | with_reducible exact Below.refl _ _ | (with_reducible refine Below.setCell ?_ ?hs _; case hs => ((try simp); try omega)) | (with_reducible refine Below.alloc ?_ ?hs _; case hs => ((try simp); try omega)) | with_reducible refine Below.drew ?_ | with_reducible refine below_drewN ?_ _))⟩
    · simp
    · simp; omega
    · simp [go_sem]
    · simp [go_sem]
    · simp [go_sem]
    · refine (Below.cell (B := w.heap.size) (p := ⟨Y, 1, none⟩) ?_ hYl).trans hY1
      exact (by repeat (first | with_reducible exact Below.refl _ _ | (with_reducible refine Below.setCell ?_ ?hs _; case hs => ((try simp); try omega)) | (with_reducible refine Below.alloc ?_ ?hs _; case hs => ((try simp); try omega)) | with_reducible refine Below.drew ?_ | with_reducible refine below_drewN ?_ _))
    · refine (Below.cell (B := w.heap.size) (p := ⟨Y, 2, none⟩) ?_ hYl).trans hY2
      exact (by repeat (first | with_reducible exact Below.refl _ _ | (with_reducible refine Below.setCell ?_ ?hs _; case hs => ((try simp); try omega)) | (with_reducible refine Below.alloc ?_ ?hs _; case hs => ((try simp); try omega)) | with_reducible refine Below.drew ?_ | with_reducible refine below_drewN ?_ _))
end Go.Proofs.Ytgbgjljflgbcaaa

namespace Go.Proofs.Ytgbgjljflgbcaaa
open Go.RowKit
set_option linter.unusedSimpArgs false
set_option linter.unusedVariables false
set_option maxRecDepth 20000
def OwnS (B : Nat) (w : World) (cv tv lv : Value) (s : Sy) : Prop := ∃ f T L, OwnSy f B w cv tv lv s.cells T L ∧ T.map (·.1) = s.tasks ∧ L.map (·.1) = s.log
theorem OwnS.on {B : Nat} {w : World} {cv tv lv : Value} {s : Sy} (h : OwnS B w cv tv lv s) : SyOn (fun b => B ≤ b) w cv tv lv s := by
  obtain ⟨f, T, L, h, hT, hL⟩ := h
  exact h.on hT hL
theorem OwnS.ext {B : Nat} {w w' : World} {cv tv lv : Value} {s : Sy} (h : OwnS B w cv tv lv s) (hk : ∀ g, B ≤ g → g < w.heap.size → w'.heap[g]? = w.heap[g]?) : OwnS B w' cv tv lv s := by
  obtain ⟨f, T, L, h, hT, hL⟩ := h
  exact ⟨f, T, L, h.ext (fun _ _ _ => rfl) hk, hT, hL⟩
theorem OwnS.below {B C : Nat} {w w' : World} {cv tv lv : Value} {s : Sy} (h : OwnS B w cv tv lv s) (hb : Below C w w') (hC : w.heap.size ≤ C) : OwnS B w' cv tv lv s :=
  h.ext fun g _ hg => hb.block g (by omega)
theorem OwnS.base {B B' : Nat} {w : World} {cv tv lv : Value} {s : Sy} (h : OwnS B w cv tv lv s) (hB : B' ≤ B) : OwnS B' w cv tv lv s := by
  obtain ⟨f, T, L, h, hT, hL⟩ := h
  exact ⟨f, T, L, h.base hB, hT, hL⟩
theorem OwnS.setX {B : Nat} {w : World} {cv tv lv : Value} {s : Sy} (h : OwnS B w cv tv lv s) {X o : Nat} (hX : X < B) (v : Value) : OwnS B (w.setCell ⟨X, o, none⟩ v) cv tv lv s :=
  h.ext fun g hg _ => heap_set_ne w _ v g (by simp; omega)
end Go.Proofs.Ytgbgjljflgbcaaa

namespace Go.Proofs.Ytgbgjljflgbcaaa
open Go.RowKit
set_option linter.unusedSimpArgs false
set_option linter.unusedVariables false
def Le (s : Sy) : Prop := ∀ e, e ∈ s.log → SmEn e
theorem sm_task {p : Pr} {s : Sy} (h : Np p s) {i : Nat} (hi : i < s.tasks.length) : (tkN s i).reads.length ≤ 1048576 ∧ (tkN s i).puts.length ≤ 1048576 := by
  have hT := h.t i hi
  have a := puB_len hT.reads
  have b := puB_len hT.puts
  have c := h.cs
  have d := okB_cells h.ok
  omega
structure Inx (p : Pr) (s : Sy) : Prop where
  w : Inw p s
  e : Le s
theorem Inx.sm {p : Pr} {s : Sy} (h : Inx p s) : SmSy s := by
  have hn := h.w.i.np
  have c := hn.cs
  have d := okB_cells hn.ok
  have n7 : s.tasks.length ≤ 7 := h.w.i.bd.n7
  have l28 := hn.l28 h.w.i.bd
  refine ⟨by omega, ⟨by omega, fun j hj => ?_⟩, by omega, fun j hj => h.e _ (nth_mem En.z _ _ hj)⟩
  have hT := hn.t j hj
  have r3 := (rgB_iff.1 hT.regs).1
  have o3 := (rgB_iff.1 hT.old).1
  have e := sm_task hn hj
  unfold tkN at r3 o3 e
  exact ⟨by omega, by omega, e.1, e.2⟩
end Go.Proofs.Ytgbgjljflgbcaaa

namespace Go.Proofs.Ytgbgjljflgbcaaa
open Go.RowKit
set_option linter.unusedSimpArgs false
set_option linter.unusedVariables false
set_option maxRecDepth 20000
end Go.Proofs.Ytgbgjljflgbcaaa

namespace Go.Proofs.Ytgbgjljflgbcaaa
open Go.RowKit
set_option linter.unusedSimpArgs false
set_option linter.unusedVariables false
set_option maxRecDepth 20000
end Go.Proofs.Ytgbgjljflgbcaaa

namespace Go.Proofs.Ytgbgjljflgbcaaa
open Go.RowKit
set_option linter.unusedSimpArgs false
set_option linter.unusedVariables false
set_option maxRecDepth 20000
end Go.Proofs.Ytgbgjljflgbcaaa

namespace Go.Proofs.Ytgbgjljflgbcaaa
open Go.RowKit
set_option linter.unusedSimpArgs false
set_option linter.unusedVariables false
set_option maxRecDepth 20000
end Go.Proofs.Ytgbgjljflgbcaaa

namespace Go.Proofs.Ytgbgjljflgbcaaa
open Go.RowKit
set_option linter.unusedSimpArgs false
set_option linter.unusedVariables false
set_option maxRecDepth 20000
end Go.Proofs.Ytgbgjljflgbcaaa

namespace Go.Proofs.Ytgbgjljflgbcaaa
open Go.RowKit
set_option linter.unusedSimpArgs false
set_option linter.unusedVariables false
set_option maxRecDepth 20000
end Go.Proofs.Ytgbgjljflgbcaaa
