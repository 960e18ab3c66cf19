import Derived.Test.YtgbgjljflgbcaaaSo08
namespace Go.Proofs.Ytgbgjljflgbcaaa
open Go.RowKit
set_option linter.unusedSimpArgs false
set_option linter.unusedVariables false
def acCells (L : List (Ac × Value × Value)) : List Value := L.flatMap fun x => [.int .i64 x.1.k, x.2.1, x.2.2, .int .i64 x.1.r]
theorem acCells_snoc (L : List (Ac × Value × Value)) (x : Ac × Value × Value) : acCells (L ++ [x]) = acCells L ++ [.int .i64 x.1.k, x.2.1, x.2.2, .int .i64 x.1.r] := by simp [acCells]
def OwnActs (B : Nat) (w : World) (v : Value) (acts : List Ac) : Prop :=
 ∃ L : List (Ac × Value × Value), acts = L.map (·.1) /\ w.ownsRow B 122 4 v L.length (acCells L) /\ ∀ x, x ∈ L -> OwnDe B w x.2.1 x.1.ds /\ OwnInt B w x.2.2 x.1.ks
def OwnBodies (B : Nat) (w : World) (v : Value) (bs : List (List Ac)) : Prop :=
 ∃ L : List (List Ac × Value), bs = L.map (·.1) /\ w.ownsRow B 113 1 v L.length (L.map (·.2)) /\ ∀ x, x ∈ L -> OwnActs B w x.2 x.1
def TagKept (t : TypeId) (w w' : World) : Prop := ∀ (g : Nat) (cur : Array Value) (e : TypeId), w.heap[g]? = some (Obj.cells cur e (0, 0)) -> e ≠ t -> w'.heap[g]? = w.heap[g]?
theorem own_tag {t : TypeId} {w w' : World} {B : Nat} {e : TypeId} {size : Nat} {v : Value} {n : Nat} {xs : List Value} (h : w.ownsRow B e size v n xs) (hk : TagKept t w w') (he : e ≠ t) : w'.ownsRow B e size v n xs := by
 refine ⟨h.1, ?_⟩
 rcases h.2 with hn | ⟨g, cap, cur, rfl, hb, hgg, rest⟩
 . exact .inl hn
 . exact .inr ⟨g, cap, cur, rfl, hb, by rw [hk g cur e hgg he]; exact hgg, rest⟩
theorem TagKept.grown {t : TypeId} {w w' : World} {B : Nat} {size : Nat} {v : Value} {n : Nat} {xs : List Value} (h : w.ownsRow B t size v n xs) (hg : w.grownBy w' v.ownBlock) : TagKept t w w' := fun g cur e hgg he => by
 refine hg.block g (Array.getElem?_eq_some_iff.1 hgg).1 ?_
 rcases h.2 with ⟨rfl, _⟩ | ⟨g', cap, cur', rfl, hb, hg', _⟩
 . simp [Value.ownBlock]
 . intro e'
   simp [Value.ownBlock] at e'
   subst e'
   rw [hgg] at hg'
   injection hg' with h1
   injection h1 with h2 h3
   exact he h3
theorem TagKept.set {t : TypeId} {w : World} {b o : Nat} {cur : Array Value} {x : Value} (h : w.heap[b]? = some (.cells cur t (0, 0))) : TagKept t w (w.setCell ⟨b, o, none⟩ x) := fun g cur' e hgg he => by
 refine Below.heap_setCell w ⟨b, o, none⟩ x g ?_
 intro e'
 have e2 : g = b := e'
 subst e2
 rw [hgg] at h
 injection h with h1
 injection h1 with h2 h3
 exact he h3
theorem OwnActs.tag {t : TypeId} {B : Nat} {w w' : World} {v : Value} {acts : List Ac} (h : OwnActs B w v acts) (hk : TagKept t w w') (h1 : 122 ≠ t) (h2 : 125 ≠ t) (h3 : 3 ≠ t) : OwnActs B w' v acts := by
 obtain ⟨L, rfl, hr, hi⟩ := h
 exact ⟨L, rfl, own_tag hr hk h1, fun x hx => ⟨own_tag (hi x hx).1 hk h2, own_tag (hi x hx).2 hk h3⟩⟩
theorem OwnBodies.tag {t : TypeId} {B : Nat} {w w' : World} {v : Value} {bs : List (List Ac)} (h : OwnBodies B w v bs) (hk : TagKept t w w') (h0 : 113 ≠ t) (h1 : 122 ≠ t) (h2 : 125 ≠ t) (h3 : 3 ≠ t) : OwnBodies B w' v bs := by
 obtain ⟨L, rfl, hr, hi⟩ := h
 exact ⟨L, rfl, own_tag hr hk h0, fun x hx => (hi x hx).tag hk h1 h2 h3⟩
theorem OwnActs.fr {R B : Nat} {w w' : World} {v : Value} {acts : List Ac} (h : OwnActs B w v acts) (hf : Fr R w.heap.size w w') (hR : R < B) : OwnActs B w' v acts := by
 obtain ⟨L, rfl, hr, hi⟩ := h
 exact ⟨L, rfl, own_fr hr hf hR, fun x hx => ⟨own_fr (hi x hx).1 hf hR, own_fr (hi x hx).2 hf hR⟩⟩
theorem OwnBodies.fr {R B : Nat} {w w' : World} {v : Value} {bs : List (List Ac)} (h : OwnBodies B w v bs) (hf : Fr R w.heap.size w w') (hR : R < B) : OwnBodies B w' v bs := by
 obtain ⟨L, rfl, hr, hi⟩ := h
 exact ⟨L, rfl, own_fr hr hf hR, fun x hx => (hi x hx).fr hf hR⟩
theorem own_base {w : World} {B B' : Nat} {e : TypeId} {size : Nat} {v : Value} {n : Nat} {xs : List Value} (h : w.ownsRow B e size v n xs) (hB : B' <= B) : w.ownsRow B' e size v n xs := by
 refine ⟨h.1, ?_⟩
 rcases h.2 with hn | ⟨g, cap, cur, rfl, hb, rest⟩
 . exact .inl hn
 . exact .inr ⟨g, cap, cur, rfl, Nat.le_trans hB hb, rest⟩
theorem OwnActs.base {B B' : Nat} {w : World} {v : Value} {acts : List Ac} (h : OwnActs B w v acts) (hB : B' <= B) : OwnActs B' w v acts := by
 obtain ⟨L, rfl, hr, hi⟩ := h
 exact ⟨L, rfl, own_base hr hB, fun x hx => ⟨own_base (hi x hx).1 hB, own_base (hi x hx).2 hB⟩⟩
theorem act_snoc {B : Nat} {w w' : World} {v v' dv kv : Value} {L : List (Ac × Value × Value)} {a : Ac} (hr : w.ownsRow B 122 4 v L.length (acCells L)) (hi : ∀ x, x ∈ L -> OwnDe B w x.2.1 x.1.ds /\ OwnInt B w x.2.2 x.1.ks)
   (hd : OwnDe B w dv a.ds) (hk : OwnInt B w kv a.ks) (ho : w'.ownsRow B 122 4 v' (L.length + 1) (acCells L ++ [.int .i64 a.k, dv, kv, .int .i64 a.r])) (hg : w.grownBy w' v.ownBlock) : OwnActs B w' v' (L.map (·.1) ++ [a]) := by
 have T := TagKept.grown hr hg
 refine ⟨L ++ [(a, dv, kv)], by simp, by rw [acCells_snoc, List.length_append]; exact ho, fun x hx => ?_⟩
 rcases List.mem_append.1 hx with h | h
 . exact ⟨own_tag (hi x h).1 T (by decide), own_tag (hi x h).2 T (by decide)⟩
 . simp at h; subst h
   exact ⟨own_tag hd T (by decide), own_tag hk T (by decide)⟩
theorem body_snoc {B : Nat} {w w' : World} {v v' av : Value} {L : List (List Ac × Value)} {acts : List Ac} (hr : w.ownsRow B 113 1 v L.length (L.map (·.2))) (hi : ∀ x, x ∈ L -> OwnActs B w x.2 x.1)
   (hd : OwnActs B w av acts) (ho : w'.ownsRow B 113 1 v' (L.length + 1) (L.map (·.2) ++ [av])) (hg : w.grownBy w' v.ownBlock) : OwnBodies B w' v' (L.map (·.1) ++ [acts]) := by
 have T := TagKept.grown hr hg
 refine ⟨L ++ [(acts, av)], by simp, by rw [List.map_append, List.length_append]; exact ho, fun x hx => ?_⟩
 rcases List.mem_append.1 hx with h | h
 . exact (hi x h).tag T (by decide) (by decide) (by decide)
 . simp at h; subst h
   exact hd.tag T (by decide) (by decide) (by decide)
theorem own_none (w : World) (B : Nat) : OwnDe B w (.slice none 0 0) [] /\ OwnInt B w (.slice none 0 0) [] := ⟨World.ownsRow_nil _ _ _ _, World.ownsRow_nil _ _ _ _⟩
theorem own_shape {w : World} {B : Nat} {e : TypeId} {size : Nat} {v : Value} {n : Nat} {xs : List Value} (h : w.ownsRow B e size v n xs) : ∃ a cap, v = .slice a n cap /\ n <= cap /\ cap <= 9223372036854775807 := by
 rcases h.2 with ⟨rfl, rfl⟩ | ⟨g, cap, cur, rfl, hb, hg, h1, h2, _⟩
 . exact ⟨_, _, rfl, by omega, by omega⟩
 . exact ⟨_, _, rfl, h1, by unfold maxLen at h2; omega⟩
theorem own_cell {w : World} {B : Nat} {e : TypeId} {size : Nat} {v : Value} {n : Nat} {xs : List Value} (h : w.ownsRow B e size v n xs) (j : Nat) (hj : j < xs.length) :
   ∃ g cap, v = .slice (some ⟨g, 0, none⟩) n cap /\ g < w.heap.size /\ B <= g /\ ∀ i, w.cell? ⟨g, i, none⟩ = xs[i]? \/ xs.length <= i := by
 rcases h.2 with ⟨rfl, rfl⟩ | ⟨g, cap, cur, rfl, hb, hg, h1, h2, h3, h4⟩
 . have := h.1; omega
 . refine ⟨g, cap, rfl, (Array.getElem?_eq_some_iff.1 hg).1, hb, fun i => ?_⟩
   by_cases hi : i < xs.length
   . left
     rw [cell_of_row w g i cur e (0, 0) hg, <- h4, List.getElem?_take]
     rw [if_pos (by have := h.1; omega)]
     simp
   . right; omega
theorem OwnInt.at {B : Nat} {w : World} {v : Value} {xs : List Int} (h : OwnInt B w v xs) : IntsAt w v xs := by
 obtain ⟨a, cap, rfl, h1, h2⟩ := own_shape h
 refine ⟨a, cap, rfl, by omega, fun i hi => ?_⟩
 obtain ⟨g, c, hv, hg, _, hc⟩ := own_cell h i (by simpa using hi)
 injection hv with e1
 refine ⟨g, 0, e1, hg, ?_⟩
 rw [Nat.zero_add]
 rcases hc i with h3 | h3
 . rw [h3, nth_eq 0 xs i hi]; simp [hi]
 . simp at h3; omega
theorem flat_get {α : Type} (c : Nat) (f : α -> List Value) (hf : ∀ x, (f x).length = c) (j : Nat) (hj : j < c) : ∀ (L : List α) (i : Nat) (hi : i < L.length), (L.flatMap f)[i * c + j]? = (f L[i])[j]? := by
 intro L
 induction L with
 | nil => intro i hi; simp at hi
 | cons x L ih =>
  intro i hi
  rw [List.flatMap_cons]
  cases i with
  | zero => rw [Nat.zero_mul, Nat.zero_add, List.getElem?_append_left (by rw [hf]; exact hj)]; rfl
  | succ i =>
   rw [List.getElem?_append_right (by rw [hf, Nat.succ_mul]; omega), hf]
   have : (i + 1) * c + j - c = i * c + j := by rw [Nat.succ_mul]; omega
   rw [this]
   exact ih i (by simpa using hi)
theorem OwnDe.at {B : Nat} {w : World} {v : Value} {ds : List De} (h : OwnDe B w v ds) : DeedsAt w v ds := by
 obtain ⟨a, cap, rfl, h1, h2⟩ := own_shape h
 have hl := h.1
 refine ⟨a, cap, rfl, by omega, fun i hi => ?_⟩
 obtain ⟨g, c, hv, hg, _, hc⟩ := own_cell h (i * 3) (by omega)
 injection hv with e1
 refine ⟨g, 0, e1, hg, ?_⟩
 have G := fun j hj => flat_get 3 (fun d : De => [Value.int .i64 d.k, .int .i64 d.a, .int .i64 d.b]) (fun _ => rfl) j hj ds i hi
 rw [nth_eq De.z ds i hi, Nat.zero_add]
 refine ⟨?_, ?_, ?_⟩
 . rcases hc (i * 3) with h3 | h3
   . rw [h3]; exact G 0 (by omega)
   . omega
 . rcases hc (i * 3 + 1) with h3 | h3
   . rw [h3]; exact G 1 (by omega)
   . omega
 . rcases hc (i * 3 + 2) with h3 | h3
   . rw [h3]; exact G 2 (by omega)
   . omega
theorem OwnActs.at {B : Nat} {w : World} {v : Value} {acts : List Ac} (h : OwnActs B w v acts) : ActsAt w v acts := by
 obtain ⟨L, rfl, hr, hin⟩ := h
 obtain ⟨a, cap, rfl, h1, h2⟩ := own_shape hr
 have hl := hr.1
 refine ⟨a, cap, by simp, by simp; omega, fun i hi => ?_⟩
 have hi' : i < L.length := by simpa using hi
 obtain ⟨g, c, hv, hg, _, hc⟩ := own_cell hr (i * 4) (by omega)
 injection hv with e1
 have G := fun j hj => flat_get 4 (fun x : Ac × Value × Value => [Value.int .i64 x.1.k, x.2.1, x.2.2, .int .i64 x.1.r]) (fun _ => rfl) j hj L i hi'
 have hx := hin L[i] (List.getElem_mem hi')
 have hn : nth Ac.z (L.map (·.1)) i = L[i].1 := by rw [nth_eq _ _ _ hi]; simp
 refine ⟨g, 0, L[i].2.1, L[i].2.2, e1, hg, ?_⟩
 rw [hn, Nat.zero_add]
 refine ⟨?_, ?_, ?_, ?_, hx.1.at, hx.2.at⟩
 . rcases hc (i * 4) with h3 | h3
   . rw [h3]; exact G 0 (by omega)
   . omega
 . rcases hc (i * 4 + 1) with h3 | h3
   . rw [h3]; exact G 1 (by omega)
   . omega
 . rcases hc (i * 4 + 2) with h3 | h3
   . rw [h3]; exact G 2 (by omega)
   . omega
 . rcases hc (i * 4 + 3) with h3 | h3
   . rw [h3]; exact G 3 (by omega)
   . omega
theorem OwnBodies.at {B : Nat} {w : World} {v : Value} {bs : List (List Ac)} (h : OwnBodies B w v bs) : BodiesAt w v bs := by
 obtain ⟨L, rfl, hr, hin⟩ := h
 obtain ⟨a, cap, rfl, h1, h2⟩ := own_shape hr
 have hl := hr.1
 refine ⟨a, cap, by simp, by simp; omega, fun i hi => ?_⟩
 have hi' : i < L.length := by simpa using hi
 obtain ⟨g, c, hv, hg, _, hc⟩ := own_cell hr i (by omega)
 injection hv with e1
 have hx := hin L[i] (List.getElem_mem hi')
 have hn : nth [] (L.map (·.1)) i = L[i].1 := by rw [nth_eq _ _ _ hi]; simp
 refine ⟨g, 0, L[i].2, e1, hg, ?_⟩
 rw [hn, Nat.zero_add]
 refine ⟨?_, hx.at⟩
 rcases hc i with h3 | h3
 . rw [h3]; simp [hi']
 . simp at h3; omega
end Go.Proofs.Ytgbgjljflgbcaaa
