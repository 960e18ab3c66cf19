/-
  slices.Insert and slices.BinarySearch over a row of one's own.
-/
import Derived.Test.YthllcbbjibfklaaG2
import Derived.Test.YthllcbbjibfklaaSh
namespace Go.Proofs.Ythllcbbjibfklaa
open Go.RowKit
set_option linter.unusedSimpArgs false
set_option linter.unusedVariables false

/-! ### rows that are written into -/
theorem put_list (l vs : List Value) (v : Value) (o : Nat) (h : o + (vs.length + 1) ≤ l.length) :
    (l.set o v).take (o + 1) ++ vs ++ (l.set o v).drop (o + 1 + vs.length) = l.take o ++ (v :: vs) ++ l.drop (o + (vs.length + 1)) := by
  have e : l.set o v = (l.take o ++ [v]) ++ l.drop (o + 1) := by
    rw [List.set_eq_take_append_cons_drop, if_pos (by omega)]; simp
  have hl : (l.take o ++ [v]).length = o + 1 := by simp; omega
  rw [e, List.take_left' hl, List.drop_append, List.drop_eq_nil_of_le (by omega), hl, List.drop_drop]
  rw [show o + 1 + (o + 1 + vs.length - (o + 1)) = o + (vs.length + 1) by omega]
  simp
theorem row_setCells {g : Nat} {e : TypeId} : ∀ (vs : List Value) (o : Nat) (w : World) (cur : Array Value), w.heap[g]? = some (.cells cur e (0, 0)) → o + vs.length ≤ cur.size →
    ∃ cur' : Array Value, (w.setCells g o vs).heap[g]? = some (.cells cur' e (0, 0)) ∧ cur'.toList = cur.toList.take o ++ vs ++ cur.toList.drop (o + vs.length) := by
  intro vs
  induction vs with
  | nil => intro o w cur hg _; exact ⟨cur, hg, by simp⟩
  | cons v vs ih =>
    intro o w cur hg hl
    simp only [List.length_cons] at hl
    have h1 : (w.setCell ⟨g, o, none⟩ v).heap[g]? = some (.cells (cur.setIfInBounds o v) e (0, 0)) := by
      simp [World.setCell, Array.getElem?_modify, hg]
    obtain ⟨cur', h2, h3⟩ := ih (o + 1) _ _ h1 (by simp; omega)
    refine ⟨cur', h2, ?_⟩
    rw [h3, Array.toList_setIfInBounds]
    exact put_list _ _ _ _ (by simpa using hl)
theorem FrS.setCells {S : Nat → Prop} {a : World} {b : Nat} (hp : S b) : ∀ (vs : List Value) (o : Nat) (w : World), FrS S a w → FrS S a (w.setCells b o vs) := by
  intro vs
  induction vs with
  | nil => intro o w h; exact h
  | cons v vs ih => intro o w h; exact ih _ _ (h.setCell (p := ⟨b, o, none⟩) hp v)
theorem FrS.setCells_new {S : Nat → Prop} {a : World} {b : Nat} (hb : a.heap.size ≤ b) (vs : List Value) (o : Nat) (w : World) (h : FrS S a w) : FrS S a (w.setCells b o vs) :=
  ⟨(World.os_setCells w b o vs).trans h.os, by
      have : ∀ (vs : List Value) (o : Nat) (w : World), (w.setCells b o vs).tape = w.tape := by
        intro vs; induction vs with
        | nil => intro o w; rfl
        | cons v vs ih => intro o w; exact ih _ _
      exact (this vs o w).trans h.tape, (World.output_setCells w b o vs).trans h.output, by
      have : ∀ (vs : List Value) (o : Nat) (w : World), (w.setCells b o vs).heap.size = w.heap.size := by
        intro vs; induction vs with
        | nil => intro o w; rfl
        | cons v vs ih => intro o w; rw [World.setCells, ih]; simp
      rw [this]; exact h.size, fun k hk hS => by
      rw [World.heap_setCells_other w b o vs (Nat.lt_of_lt_of_le hk h.size) (by omega)]; exact h.block k hk hS⟩

/-- what comes to lie where, if a list is shifted and one is put between -/
theorem shift_list (L cs : List Value) (x : Value) (n i : Nat) (hcs : L.take n = cs) (hcl : cs.length = n) (hi : i ≤ n) (hn : n + 1 ≤ L.length) (L1 L2 : List Value)
    (e1 : L1 = L.take (i + 1) ++ cs.drop i ++ L.drop (i + 1 + (cs.drop i).length)) (e2 : L2 = L1.take i ++ [x] ++ L1.drop (i + 1)) : L2.take (n + 1) = cs.take i ++ x :: cs.drop i ∧ L2.length = L.length := by
  have hd : (cs.drop i).length = n - i := by simp [hcl]
  have ht1 : (L.take (i + 1)).length = i + 1 := by simp; omega
  have h1 : L1.take i = cs.take i := by
    rw [e1, List.append_assoc, List.take_append_of_le_length (by omega), List.take_take, ← hcs, List.take_take]
    congr 1; omega
  have h2 : L1.drop (i + 1) = cs.drop i ++ L.drop (i + 1 + (n - i)) := by
    rw [e1, hd, List.append_assoc, List.drop_left' ht1]
  have hti : (cs.take i).length = i := by simp; omega
  rw [e2, h1, h2]
  constructor
  · rw [show cs.take i ++ [x] ++ (cs.drop i ++ L.drop (i + 1 + (n - i))) = (cs.take i ++ x :: cs.drop i) ++ L.drop (i + 1 + (n - i)) by simp]
    exact List.take_left' (by simp [hd, hti]; omega)
  · simp [hd, hti, hcl]; omega
theorem grow_list (L cs : List Value) (x : Value) (n i : Nat) (hcs : L.take i = cs.take i) (hcl : cs.length = n) (hi : i ≤ n) (hn : n + 1 ≤ L.length) (L1 L2 : List Value)
    (e1 : L1 = L.take i ++ [x] ++ L.drop (i + 1)) (e2 : L2 = L1.take (i + 1) ++ cs.drop i ++ L1.drop (i + 1 + (cs.drop i).length)) : L2.take (n + 1) = cs.take i ++ x :: cs.drop i ∧ L2.length = L.length := by
  have hd : (cs.drop i).length = n - i := by simp [hcl]
  have hti : (cs.take i).length = i := by simp; omega
  have hl1 : L1.length = L.length := by rw [e1, hcs]; simp [hti]; omega
  have h1 : L1.take (i + 1) = cs.take i ++ [x] := by
    rw [e1, hcs]; exact List.take_left' (by simp [hti])
  rw [e2, h1]
  constructor
  · rw [show cs.take i ++ [x] ++ cs.drop i ++ L1.drop (i + 1 + (cs.drop i).length) = (cs.take i ++ x :: cs.drop i) ++ L1.drop (i + 1 + (cs.drop i).length) by simp]
    exact List.take_left' (by simp [hd, hti]; omega)
  · simp [hd, hti, hcl, hl1]; omega

theorem row_cells {w : World} {g : Nat} {cur : Array Value} {e : TypeId} (hg : w.heap[g]? = some (.cells cur e (0, 0))) {n : Nat} {xs : List Value} (ht : cur.toList.take n = xs) : ∀ j v, xs[j]? = some v → w.cell? ⟨g, j, none⟩ = some v := fun j v hj => by
  rw [cell_of_row w g j cur e (0, 0) hg]
  rw [← ht, List.getElem?_take] at hj
  split at hj
  · simpa using hj
  · cases hj

theorem own_row {w : World} {B g cap n : Nat} {cur : Array Value} {xs : List Int} (hg : w.heap[g]? = some (.cells cur 3 (0, 0))) (hB : B ≤ g) (hn : xs.length = n) (hc : n ≤ cap) (hm : cap ≤ maxLen) (hs : cur.size = cap) (ht : cur.toList.take n = xs.map (Value.int .i64)) :
    OwnInt B w (.slice (some ⟨g, 0, none⟩) n cap) xs := by
  subst hn
  exact ⟨by simp, .inr ⟨g, cap, cur, rfl, hB, hg, hc, hm, by omega, by simpa using ht⟩⟩

set_option maxHeartbeats 1000000 in
theorem insert_any (B : Nat) (xs : List Int) (x : Int) (i vb vc : Nat) (v : Value) (w : World) (h : OwnInt B w v xs) (hB : B ≤ w.heap.size) (hi : i ≤ xs.length) (hl : xs.length ≤ 1000000)
    (hv : w.heap[vb]? = some (.cells #[.int .i64 x] 3 (0, 0))) (hne : v.ownBlock ≠ some vb) :
    Calls Try.prog 62 #[v, .int .i64 (i : Int), .slice (some ⟨vb, 0, none⟩) 1 vc] w fun e w' => ∃ v', e = .returned v' ∧ OwnInt B w' v' (xs.take i ++ x :: xs.drop i) ∧ FrS (fun k => v.ownBlock = some k) w w' ∧ (v'.ownBlock = v.ownBlock ∨ v'.ownBlock = some w.heap.size) := by
  have hlen : (xs.take i ++ x :: xs.drop i).length = xs.length + 1 := by simp; omega
  have hmap : (xs.take i ++ x :: xs.drop i).map (Value.int .i64) = (xs.map (Value.int .i64)).take i ++ Value.int .i64 x :: (xs.map (Value.int .i64)).drop i := by simp [List.map_take, List.map_drop]
  have hcl : (xs.map (Value.int .i64)).length = xs.length := by simp
  have hvs : ∀ j u, [Value.int .i64 x][j]? = some u → w.cell? ⟨vb, 0 + j, none⟩ = some u := fun j u hj => by
    rw [Nat.zero_add, cell_of_row w vb j _ _ (0, 0) hv]
    simpa using hj
  have h1v : ∀ u ∈ [Value.int .i64 x], u.oneCell' = true := fun u hu => by simp at hu; subst hu; rfl
  have h1c : ∀ u ∈ xs.map (Value.int .i64), u.oneCell' = true := ints_one xs
  have hend : i = xs.length → xs.take i ++ x :: xs.drop i = xs ++ [x] := fun e => by subst e; simp
  have hnew : ∀ (cur : Array Value) (c : Nat) (hcc : xs.length ≤ c) (hr : c < xs.length + 1), i = xs.length → OwnInt B (w.drew.alloc (.cells ((xs.map (Value.int .i64) ++ [Value.int .i64 x]).toArray ++ Builtin.zeroCells (Value.int .i64 0).cells (grownCap w (xs.length + 1) c 3 - (xs.length + 1))) 3)) (.slice (some ⟨w.heap.size, 0, none⟩) (xs.length + 1) (grownCap w (xs.length + 1) c 3)) (xs.take i ++ x :: xs.drop i) := by
    intro cur c hcc hr e
    have hge := grownCap_ge w (xs.length + 1) c 3
    refine own_row (cur := (xs.map (Value.int .i64) ++ [Value.int .i64 x]).toArray ++ Builtin.zeroCells (Value.int .i64 0).cells (grownCap w (xs.length + 1) c 3 - (xs.length + 1))) (heap_alloc_new w.drew _) hB hlen hge (grownCap_le_maxLen w _ _ _ (by unfold maxLen; omega)) ?_ ?_
    · simp [Builtin.zeroCells, Value.cells]; omega
    · rw [hend e, Array.toList_append, List.map_append]
      exact List.take_left' (by simp)
  rcases h.2 with ⟨rfl, h0⟩ | ⟨g, cap, cur, rfl, hb, hg, hnc, hcm, hcs, htake⟩
  · have hx : xs = [] := List.eq_nil_of_length_eq_zero h0
    subst hx
    have hi0 : i = 0 := by simpa using hi
    subst hi0
    refine (Any2.slices_Insert_int_end_grow Try.laysNm221 none 0 0 vb 0 1 vc [] [Value.int .i64 x] w (by omega) (by omega) (by omega) (by omega) rfl rfl (fun _ => rfl) (fun a e => by cases e) hvs h1v).mono ?_
    rintro e w' ⟨rfl, rfl⟩
    exact ⟨_, rfl, hnew #[] 0 (by simp) (by simp) rfl, ((FrS.refl _ _).drew).alloc _, .inr rfl⟩
  · have htk : cur.toList.take xs.length = xs.map (Value.int .i64) := by simpa using htake
    have hcs' : cur.size = cap := by omega
    have hcells : ∀ j u, (xs.map (Value.int .i64))[j]? = some u → w.cell? ⟨g, 0 + j, none⟩ = some u := fun j u hj => by rw [Nat.zero_add]; exact row_cells hg htk j u hj
    have hgne : vb ≠ g := fun e => hne (by rw [e]; rfl)
    have hcap63 : cap ≤ 9223372036854775807 := by unfold maxLen at hcm; omega
    by_cases hroom : xs.length + 1 ≤ cap
    · by_cases he : i = xs.length
      · rw [hend he] at hlen hmap ⊢
        subst he
        refine (Any2.slices_Insert_int_end_room Try.laysNm221 g 0 xs.length cap vb 0 1 vc [Value.int .i64 x] w (by omega) hroom hcap63 rfl (fun j hj => ?_) (fun j hj => frozen_of_row w g _ cur _ hg) hvs h1v).mono ?_
        · rw [cell_of_row w g _ cur _ (0, 0) hg, Array.getElem?_eq_getElem (by omega)]; rfl
        · rintro e w' ⟨rfl, rfl⟩
          obtain ⟨cur', h2, h3⟩ := row_setCells [Value.int .i64 x] xs.length w cur hg (by simp; omega)
          rw [Nat.zero_add]
          refine ⟨_, rfl, own_row h2 hb hlen hroom hcm ?_ ?_, FrS.setCells (S := fun k => (Value.slice (some ⟨g, 0, none⟩) xs.length cap).ownBlock = some k) rfl _ _ _ (FrS.refl _ _), .inl rfl⟩
          · rw [← Array.length_toList, h3]; simp; omega
          · rw [h3, htk, List.map_append]
            exact List.take_left' (by simp)
      · have hlt : i < xs.length := by omega
        refine (Any2.slices_Insert_int_shift Try.laysNm221 g 0 xs.length cap i vb 0 1 vc (xs.map (Value.int .i64)) [Value.int .i64 x] w hlt (by omega) hroom hcap63 hgne hcl rfl hcells (fun j hj => ?_) (fun j hj => frozen_of_row w g _ cur _ hg) hvs h1c h1v 3 3 1 cap ?_ ?_ (by omega) (frozen_of_row w vb _ _ _ hv) (frozen_of_row w vb _ _ _ hv)).mono ?_
        · rw [cell_of_row w g _ cur _ (0, 0) hg, Array.getElem?_eq_getElem (by omega)]; rfl
        · simp [World.shape?, hv]
        · simp [World.shape?, hg, hcs']
        · rintro e w' ⟨rfl, rfl⟩
          have hdl : ((xs.map (Value.int .i64)).drop i).length = xs.length - i := by simp
          simp only [Nat.zero_add]
          obtain ⟨c1, g1, e1⟩ := row_setCells ((xs.map (Value.int .i64)).drop i) (i + 1) w.drew cur hg (by rw [hdl]; omega)
          have hc1 : c1.size = cap := by rw [← Array.length_toList, e1]; simp; omega
          obtain ⟨c2, g2, e2⟩ := row_setCells [Value.int .i64 x] i _ c1 g1 (by simp; omega)
          have hs := shift_list cur.toList (xs.map (Value.int .i64)) (Value.int .i64 x) xs.length i htk hcl hi (by simp; omega) c1.toList c2.toList e1 (by rw [e2]; rfl)
          refine ⟨_, rfl, own_row g2 hb hlen hroom hcm ?_ ?_, FrS.setCells (S := fun k => (Value.slice (some ⟨g, 0, none⟩) xs.length cap).ownBlock = some k) rfl _ _ _ (FrS.setCells (S := fun k => (Value.slice (some ⟨g, 0, none⟩) xs.length cap).ownBlock = some k) rfl _ _ _ (FrS.refl _ _).drew), .inl rfl⟩
          · rw [← Array.length_toList, hs.2]; simpa using hcs'
          · rw [hs.1, hmap]
    · by_cases he : i = xs.length
      · subst he
        refine (Any2.slices_Insert_int_end_grow Try.laysNm221 (some ⟨g, 0, none⟩) xs.length cap vb 0 1 vc (xs.map (Value.int .i64)) [Value.int .i64 x] w (by omega) hnc (by omega) (by omega) hcl rfl (fun e => by cases e) (fun a e j u hj => ?_) hvs h1v).mono ?_
        · injection e with e; subst e
          rw [Go.WideShapes.add_plain]; exact hcells j u hj
        · rintro e w' ⟨rfl, rfl⟩
          exact ⟨_, rfl, hnew #[] cap hnc (by omega) rfl, ((FrS.refl _ _).drew).alloc _, .inr rfl⟩
      · have hlt : i < xs.length := by omega
        refine (Any2.slices_Insert_int_grow Try.laysNm221 g 0 xs.length cap i vb 0 1 vc (xs.map (Value.int .i64)) [Value.int .i64 x] w hlt (by omega) hnc (by omega) (by omega) hcl rfl hcells hvs h1c h1v).mono ?_
        rintro e w' ⟨rfl, rfl⟩
        have hge := grownCap_ge w (xs.length + 1) cap 3
        have hdl : ((xs.map (Value.int .i64)).drop i).length = xs.length - i := by simp
        obtain ⟨G, hG⟩ : ∃ G, G = grownCap w (xs.length + 1) cap 3 := ⟨_, rfl⟩
        have hGm : G ≤ maxLen := by rw [hG]; exact grownCap_le_maxLen w _ _ _ (by unfold maxLen; omega)
        obtain ⟨ROW, hROW⟩ : ∃ ROW : Array Value, ROW = ((xs.map (Value.int .i64)).take i).toArray ++ Builtin.zeroCells (Value.int .i64 0).cells (xs.length + 1 - i) ++ Builtin.zeroCells (Value.int .i64 0).cells (G - (xs.length + 1)) := ⟨_, rfl⟩
        have hRs : ROW.size = G := by rw [hROW]; simp [Builtin.zeroCells, Value.cells]; omega
        have hRt : ROW.toList.take i = (xs.map (Value.int .i64)).take i := by
          rw [hROW]; simp only [Array.toList_append, List.append_assoc]
          exact List.take_left' (by simp; omega)
        have key : ∃ cur', ((((w.alloc (.cells ROW 3)).drew.setCells w.heap.size i [Value.int .i64 x]).drew).setCells w.heap.size (i + 1) ((xs.map (Value.int .i64)).drop i)).heap[w.heap.size]? = some (.cells cur' 3 (0, 0)) ∧ cur'.size = G ∧ cur'.toList.take (xs.length + 1) = (xs.take i ++ x :: xs.drop i).map (Value.int .i64) := by
          obtain ⟨c1, g1, e1⟩ := row_setCells [Value.int .i64 x] i (w.alloc (.cells ROW 3)).drew ROW (heap_alloc_new w _) (by simp; omega)
          have hc1 : c1.size = G := by rw [← Array.length_toList, e1]; simp; omega
          obtain ⟨c2, g2, e2⟩ := row_setCells ((xs.map (Value.int .i64)).drop i) (i + 1) (((w.alloc (.cells ROW 3)).drew.setCells w.heap.size i [Value.int .i64 x]).drew) c1 g1 (by rw [hdl]; omega)
          have hs := grow_list ROW.toList (xs.map (Value.int .i64)) (Value.int .i64 x) xs.length i hRt hcl hi (by simp; omega) c1.toList c2.toList (by rw [e1]; rfl) e2
          exact ⟨c2, g2, by rw [← Array.length_toList, hs.2]; simpa using hRs, by rw [hs.1, hmap]⟩
        have hfr : FrS (fun k => (Value.slice (some ⟨g, 0, none⟩) xs.length cap).ownBlock = some k) w ((((w.alloc (.cells ROW 3)).drew.setCells w.heap.size i [Value.int .i64 x]).drew).setCells w.heap.size (i + 1) ((xs.map (Value.int .i64)).drop i)) :=
          FrS.setCells_new (Nat.le_refl _) _ _ _ ((FrS.setCells_new (Nat.le_refl _) _ _ _ ((FrS.refl _ _).alloc _).drew).drew)
        obtain ⟨cur', g2, hs2, ht2⟩ := key
        subst hROW
        subst hG
        exact ⟨_, rfl, own_row g2 hB hlen hge hGm hs2 ht2, hfr, .inr rfl⟩

theorem own_getD {B : Nat} {w : World} {v : Value} {xs : List Int} (h : OwnInt B w v xs) (h0 : 0 < xs.length) : ∃ g cap, v = .slice (some ⟨g, 0, none⟩) xs.length cap ∧ ∀ j, j < xs.length → w.cell? ⟨g, 0 + j, none⟩ = some (.int .i64 (xs.getD j 0)) := by
  obtain ⟨g, cap, rfl, _, _, _, _, hc⟩ := h.get 0 h0
  refine ⟨g, cap, rfl, fun j hj => ?_⟩
  rw [Nat.zero_add, (hc j hj).1]
  simp [nth, List.getD_eq_getElem?_getD]

set_option maxHeartbeats 400000 in
theorem search_any (B : Nat) (xs : List Int) (x : Int) (v : Value) (w : World) (h : OwnInt B w v xs) (hl : xs.length ≤ 1000000) (hs : xs.Pairwise (· ≤ ·)) :
    Calls Try.prog 57 #[v, .int .i64 x] w fun e w' => e = .returned (.tuple #[.int .i64 (xs.countP (· < x) : Nat), .bool (xs.contains x)]) ∧ ∃ q, w' = w.drewN q := by
  by_cases h0 : 0 < xs.length
  · obtain ⟨g, cap, rfl, hc⟩ := own_getD h h0
    have := Try.slices_BinarySearch_int g 0 xs.length cap xs x w (Nat.le_refl _) (by omega) hc (by rw [List.take_length]; exact hs)
    rw [List.take_length] at this
    exact this
  · have hx : xs = [] := List.eq_nil_of_length_eq_zero (by omega)
    subst hx
    obtain ⟨a, cap, rfl, _⟩ := own_shape h
    refine (Try.slices_BinarySearch_int_empty a cap x w).mono ?_
    rintro e w' ⟨rfl, rfl⟩
    exact ⟨rfl, 0, rfl⟩

end Go.Proofs.Ythllcbbjibfklaa
