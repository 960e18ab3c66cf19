import Derived.Test.YtgbgjljflgbcaaaSo27
import Derived.Test.YtgbgjljflgbcaaaSo26
import Derived.Test.YtgbgjljflgbcaaaSo14
namespace Go.Proofs.Ytgbgjljflgbcaaa
open Go.RowKit
set_option linter.unusedSimpArgs false
set_option linter.unusedVariables false
theorem OwnSy.setZ {f : Nat -> Key} {B : Nat} {w : World} {cv tv lv : Value} {cs : List Ce} {T : List TT} {L : List EE} (h : OwnSy f B w cv tv lv cs T L) {X o : Nat} (hz : f X = .z) (v : Value) : OwnSy f B (w.setCell ⟨X, o, none⟩ v) cv tv lv cs T L := by
 have hk : ∀ g, f g ≠ .z -> (w.setCell ⟨X, o, none⟩ v).heap[g]? = w.heap[g]? := fun g hg => heap_set_ne w _ v g (fun e => hg (by rw [e]; exact hz))
 exact ⟨h.c.move (fun _ _ _ e => e) (fun g _ _ e => hk g (by rw [e]; simp)), h.t.move (fun _ _ _ e => e) (fun g _ _ e => hk g (by rw [e]; simp)), h.l.move (fun _ _ _ e => e) (fun g _ _ e => hk g (by rw [e]; simp)),
  fun i hi => (h.ti i hi).move (fun _ _ _ => rfl) (fun g _ _ e => hk g (by rcases e with e | e | e | e <;> rw [e] <;> simp)), fun j hj => (h.li j hj).move (fun _ _ _ => rfl) (fun g _ _ e => hk g (by rcases e with e | e <;> rw [e] <;> simp))⟩
structure CB (X B : Nat) (w : World) (s : Sy) : Prop where
 ex : ∃ f cv tv lv T L, OwnSy f B w cv tv lv s.cells T L /\ T.map (·.1) = s.tasks /\ L.map (·.1) = s.log /\ f X = .z /\ w.heap[X]? = some (.cells #[cv, tv, .int .i64 s.clock, lv] 32 (0, 0))
 le : B <= X
theorem bx_lt {w : World} {X : Nat} {o : Obj} (h : w.heap[X]? = some o) : X < w.heap.size := (Array.getElem?_eq_some_iff.1 h).1
theorem CB.taskA {X B : Nat} {w0 w1 w2 : World} {s : Sy} (hX : B <= X) (hb : Below w0.heap.size w0 w1) {f f' : Nat -> Key} {cv tv lv tv' : Value} {T : List TT} {L : List EE} (ho : OwnSy f B w0 cv tv lv s.cells T L) (hT : T.map (·.1) = s.tasks) (hL : L.map (·.1) = s.log) (hz : f X = .z) (hbx : w0.heap[X]? = some (.cells #[cv, tv, .int .i64 s.clock, lv] 32 (0, 0)))
   {t : Ta} {V : TV} (hfo : ∀ g, g < w0.heap.size -> f' g = f g) (hti : TIn f' B w1 T.length (t, V))
   (hl : w2.ownsRow B 70 13 tv' (T.length + 1) (T.flatMap taC ++ taC (t, V))) (hg : w1.grownBy w2 tv.ownBlock) (hlb : ∀ g, tv'.ownBlock = some g -> tv.ownBlock = some g \/ w1.heap.size <= g) :
   CB X B (w2.setCell ⟨X, 1, none⟩ tv') { s with tasks := s.tasks ++ [t] } := by
 have hX0 := bx_lt hbx
 have hX1 : X < w1.heap.size := Nat.lt_of_lt_of_le hX0 hb.size
 have hlv : ∀ g, tv.ownBlock = some g -> B <= g /\ g < w0.heap.size /\ f g = .t := fun g hg => ⟨(ho.t.1.lt g hg).1, (ho.t.1.lt g hg).2, ho.t.2 g hg⟩
 have bl : ∀ k, k < w0.heap.size -> f k ≠ .t -> w2.heap[k]? = w0.heap[k]? := fun k hk hf => by
   rw [hg.block k (Nat.lt_of_lt_of_le hk hb.size) (fun e => hf (hlv k e.symm).2.2)]
   exact hb.block k hk
 have H := ho.addT (f' := fun b => if b < w1.heap.size then f' b else .t) (w' := w2) (tv' := tv') (t, V) (fun b _ hb1 => (if_pos (Nat.lt_of_lt_of_le hb1 hb.size)).trans (hfo b hb1)) (fun b _ hb1 hf => bl b hb1 hf)
   ⟨hl, fun g hg' => by
     rcases hlb g hg' with h1 | h1
     . show (if g < w1.heap.size then f' g else _) = _
       rw [if_pos (Nat.lt_of_lt_of_le (hlv g h1).2.1 hb.size), hfo g (hlv g h1).2.1]; exact (hlv g h1).2.2
     . show (if g < w1.heap.size then f' g else _) = _
       rw [if_neg (by omega)]⟩
   (hti.move (fun g _ hg1 => if_pos hg1) (fun g _ hg1 hk => hg.block g hg1 (fun e => by
     have h1 := hlv g e.symm
     have h2 := hfo g h1.2.1
     rw [h1.2.2] at h2
     rcases hk with q | q | q | q <;> rw [h2] at q <;> cases q)))
 have hz' : (fun b => if b < w1.heap.size then f' b else Key.t) X = .z := by
   show (if X < w1.heap.size then f' X else _) = _
   rw [if_pos hX1, hfo X hX0]; exact hz
 refine ⟨⟨_, cv, tv', lv, T ++ [(t, V)], L, H.setZ hz' tv', by rw [List.map_append, hT]; rfl, hL, hz', ?_⟩, hX⟩
 rw [heap_setCell_same w2 X 1 _ _ tv' ((bl X hX0 (by rw [hz]; simp)).trans hbx)]
 rfl
theorem CB.logA {X B : Nat} {w0 w1 w2 : World} {s : Sy} (hX : B <= X) (hb : Below w0.heap.size w0 w1) {f f' : Nat -> Key} {cv tv lv lv' : Value} {T : List TT} {L : List EE} (ho : OwnSy f B w0 cv tv lv s.cells T L) (hT : T.map (·.1) = s.tasks) (hL : L.map (·.1) = s.log) (hz : f X = .z) (hbx : w0.heap[X]? = some (.cells #[cv, tv, .int .i64 s.clock, lv] 32 (0, 0)))
   {t : En} {V : EV} (hfo : ∀ g, g < w0.heap.size -> f' g = f g) (hti : EIn f' B w1 L.length (t, V))
   (hl : w2.ownsRow B 55 6 lv' (L.length + 1) (L.flatMap enC ++ enC (t, V))) (hg : w1.grownBy w2 lv.ownBlock) (hlb : ∀ g, lv'.ownBlock = some g -> lv.ownBlock = some g \/ w1.heap.size <= g) :
   CB X B (w2.setCell ⟨X, 3, none⟩ lv') { s with log := s.log ++ [t] } := by
 have hX0 := bx_lt hbx
 have hX1 : X < w1.heap.size := Nat.lt_of_lt_of_le hX0 hb.size
 have hlv : ∀ g, lv.ownBlock = some g -> B <= g /\ g < w0.heap.size /\ f g = .l := fun g hg => ⟨(ho.l.1.lt g hg).1, (ho.l.1.lt g hg).2, ho.l.2 g hg⟩
 have bl : ∀ k, k < w0.heap.size -> f k ≠ .l -> w2.heap[k]? = w0.heap[k]? := fun k hk hf => by
   rw [hg.block k (Nat.lt_of_lt_of_le hk hb.size) (fun e => hf (hlv k e.symm).2.2)]
   exact hb.block k hk
 have H := ho.addL (f' := fun b => if b < w1.heap.size then f' b else .l) (w' := w2) (lv' := lv') (t, V) (fun b _ hb1 => (if_pos (Nat.lt_of_lt_of_le hb1 hb.size)).trans (hfo b hb1)) (fun b _ hb1 hf => bl b hb1 hf)
   ⟨hl, fun g hg' => by
     rcases hlb g hg' with h1 | h1
     . show (if g < w1.heap.size then f' g else _) = _
       rw [if_pos (Nat.lt_of_lt_of_le (hlv g h1).2.1 hb.size), hfo g (hlv g h1).2.1]; exact (hlv g h1).2.2
     . show (if g < w1.heap.size then f' g else _) = _
       rw [if_neg (by omega)]⟩
   (hti.move (fun g _ hg1 => if_pos hg1) (fun g _ hg1 hk => hg.block g hg1 (fun e => by
     have h1 := hlv g e.symm
     have h2 := hfo g h1.2.1
     rw [h1.2.2] at h2
     rcases hk with q | q <;> rw [h2] at q <;> cases q)))
 have hz' : (fun b => if b < w1.heap.size then f' b else Key.l) X = .z := by
   show (if X < w1.heap.size then f' X else _) = _
   rw [if_pos hX1, hfo X hX0]; exact hz
 refine ⟨⟨_, cv, tv, lv', T, L ++ [(t, V)], H.setZ hz' lv', hT, by rw [List.map_append, hL]; rfl, hz', ?_⟩, hX⟩
 rw [heap_setCell_same w2 X 3 _ _ lv' ((bl X hX0 (by rw [hz]; simp)).trans hbx)]
 rfl
theorem ces_src {w : World} {v : Value} {cs : List Ce} (h : CesAt w v cs) : ∃ a cap, v = .slice a cs.length cap /\ cs.length <= cap /\ cap <= 9223372036854775807 /\ (cs.length = 0 \/ ∃ b off, a = some ⟨b, off, none⟩ /\ b < w.heap.size /\ ∀ j u, (cs.flatMap ceC)[j]? = some u -> w.cell? ((⟨b, off, none⟩ : Addr).add j) = some u) := by
 obtain ⟨a, cap, rfl, hm, hc⟩ := h
 refine ⟨a, cap, rfl, hm.1, hm.2, ?_⟩
 by_cases h0 : cs.length = 0
 . exact .inl h0
 obtain ⟨b, off, e, hb, _⟩ := hc 0 (by omega)
 refine .inr ⟨b, off, e, hb, fun j u hj => ?_⟩
 have hl := flat_len 3 ceC ceC_len cs
 have hjl : j < (cs.flatMap ceC).length := by
   rcases Nat.lt_or_ge j (cs.flatMap ceC).length with q | q
   . exact q
   . rw [List.getElem?_eq_none q] at hj; cases hj
 have hi : j / 3 < cs.length := by omega
 have hr : j % 3 < 3 := Nat.mod_lt _ (by omega)
 have ej : j = j / 3 * 3 + j % 3 := by omega
 obtain ⟨b', off', e', _, c0, c1, c2⟩ := hc (j / 3) hi
 rw [e] at e'
 injection e' with e2
 injection e2 with e3 e4
 subst e3 e4
 rw [ej, flat_at 3 ceC ceC_len Ce.z (j % 3) hr cs (j / 3) hi] at hj
 rw [Go.WideShapes.add_plain]
 have ea : off + j = off + j / 3 * 3 + j % 3 := by omega
 rw [ea]
 rcases (by omega : j % 3 = 0 \/ j % 3 = 1 \/ j % 3 = 2) with q | q | q <;> rw [q] at hj ⊢ <;> simp [ceC] at hj <;> subst hj
 . exact c0
 . exact c1
 . exact c2
structure Mc (n : Nat) (xs : List Value) (V W : World) (o0 : Option Nat) (o3 : Option Value) (o4 o7 o9 : Option Nat) : Prop where
 bel : Below V.heap.size V W
 p0 : ∀ g, o0 = some g -> W.ownsRow V.heap.size 45 3 (.slice (some ⟨g, 0, none⟩) 0 0) 0 []
 p3 : ∀ v, o3 = some v -> W.ownsRow V.heap.size 45 3 v n xs
 p4 : ∀ g, o4 = some g -> W.ownsRow V.heap.size 70 13 (.slice (some ⟨g, 0, none⟩) 0 0) 0 []
 p7 : ∀ g, o7 = some g -> W.ownsRow V.heap.size 55 6 (.slice (some ⟨g, 0, none⟩) 0 0) 0 []
 p9 : ∀ g, o9 = some g -> W.heap[g]? = some (.cells #[.slice none 0 0, .slice none 0 0, .int .i64 0, .slice none 0 0] 32 (0, 0)) /\ V.heap.size <= g
theorem Mc.start (n : Nat) (xs : List Value) (V : World) : Mc n xs V V.drew none none none none none :=
 ⟨(Below.refl _ _).drew, by simp, by simp, by simp, by simp, by simp⟩
theorem Mc.keep9 {n : Nat} {xs : List Value} {V W : World} {o0 : Option Nat} {o3 : Option Value} {o4 o7 o9 : Option Nat} (h : Mc n xs V W o0 o3 o4 o7 o9) (o : Obj) : ∀ g, o9 = some g -> (W.alloc o).heap[g]? = some (.cells #[.slice none 0 0, .slice none 0 0, .int .i64 0, .slice none 0 0] 32 (0, 0)) /\ V.heap.size <= g := fun g hg => ⟨(Below.heap_alloc W o g (bx_lt (h.p9 g hg).1)).trans (h.p9 g hg).1, (h.p9 g hg).2⟩
theorem Mc.mk0 {n : Nat} {xs : List Value} {V W : World} {o4 o7 o9 : Option Nat} (h : Mc n xs V W none none o4 o7 o9) : Mc n xs V (W.alloc (.cells #[] 45)) (some W.heap.size) none o4 o7 o9 :=
 ⟨h.bel.alloc h.bel.size _, fun g hg => by injection hg with hg; subst hg; exact World.ownsRow_made W #[] 0 h.bel.size (by unfold maxLen; omega) (by simp), by simp, fun g hg => (h.p4 g hg).alloc _, fun g hg => (h.p7 g hg).alloc _, h.keep9 _⟩
theorem Mc.mk4 {n : Nat} {xs : List Value} {V W : World} {o0 : Option Nat} {o3 : Option Value} {o7 o9 : Option Nat} (h : Mc n xs V W o0 o3 none o7 o9) : Mc n xs V (W.alloc (.cells #[] 70)) o0 o3 (some W.heap.size) o7 o9 :=
 ⟨h.bel.alloc h.bel.size _, fun g hg => (h.p0 g hg).alloc _, fun g hg => (h.p3 g hg).alloc _, fun g hg => by injection hg with hg; subst hg; exact World.ownsRow_made W #[] 0 h.bel.size (by unfold maxLen; omega) (by simp), fun g hg => (h.p7 g hg).alloc _, h.keep9 _⟩
theorem Mc.mk7 {n : Nat} {xs : List Value} {V W : World} {o0 : Option Nat} {o3 : Option Value} {o4 o9 : Option Nat} (h : Mc n xs V W o0 o3 o4 none o9) : Mc n xs V (W.alloc (.cells #[] 55)) o0 o3 o4 (some W.heap.size) o9 :=
 ⟨h.bel.alloc h.bel.size _, fun g hg => (h.p0 g hg).alloc _, fun g hg => (h.p3 g hg).alloc _, fun g hg => (h.p4 g hg).alloc _, fun g hg => by injection hg with hg; subst hg; exact World.ownsRow_made W #[] 0 h.bel.size (by unfold maxLen; omega) (by simp), h.keep9 _⟩
theorem Mc.mk9 {n : Nat} {xs : List Value} {V W : World} {o0 : Option Nat} {o3 : Option Value} {o4 o7 : Option Nat} (h : Mc n xs V W o0 o3 o4 o7 none) : Mc n xs V (W.alloc (.cells #[.slice none 0 0, .slice none 0 0, .int .i64 0, .slice none 0 0] 32)) o0 o3 o4 o7 (some W.heap.size) :=
 ⟨h.bel.alloc h.bel.size _, fun g hg => (h.p0 g hg).alloc _, fun g hg => (h.p3 g hg).alloc _, fun g hg => (h.p4 g hg).alloc _, fun g hg => (h.p7 g hg).alloc _, fun g hg => by injection hg with hg; subst hg; exact ⟨heap_alloc_new W _, h.bel.size⟩⟩
theorem Mc.app3 {n g0 : Nat} {xs : List Value} {V W W' : World} {v : Value} {o4 o7 o9 : Option Nat} (h : Mc n xs V W (some g0) none o4 o7 o9)
  (ho : W'.ownsRow V.heap.size 45 3 v (0 + n) ([] ++ xs)) (hg : W.grownBy W' (Value.slice (some ⟨g0, 0, none⟩) 0 0).ownBlock) : Mc n xs V W' none (some v) o4 o7 o9 := by
 have h2 := h.p0 g0 rfl
 have TK := TagKept.grown h2 hg
 rw [Nat.zero_add, List.nil_append] at ho
 exact ⟨h.bel.grown hg h.bel.size (fun b e => (h2.lt b e).1), by simp, fun q hq => by injection hq with hq; subst hq; exact ho, fun g h4 => own_tag (h.p4 g h4) TK (by decide), fun g h7 => own_tag (h.p7 g h7) TK (by decide), fun g h9 => ⟨(TK g _ _ (h.p9 g h9).1 (by decide)).trans (h.p9 g h9).1, (h.p9 g h9).2⟩⟩
theorem Mc.src {n : Nat} {xs : List Value} {V W : World} {aa : Option Addr} {o0 : Option Nat} {o3 : Option Value} {o4 o7 o9 : Option Nat} (h : Mc n xs V W o0 o3 o4 o7 o9) (hs : n = 0 \/ ∃ b off, aa = some ⟨b, off, none⟩ /\ b < V.heap.size /\ ∀ j u, xs[j]? = some u -> V.cell? ((⟨b, off, none⟩ : Addr).add j) = some u) : n = 0 \/ ∃ ad, aa = some ad /\ ∀ j u, xs[j]? = some u -> W.cell? (ad.add j) = some u := by
 rcases hs with h0 | ⟨b, off, e, hb, hc⟩
 . exact .inl h0
 . refine .inr ⟨⟨b, off, none⟩, e, fun j u hj => ?_⟩
   have h1 := hc j u hj
   rw [Go.WideShapes.add_plain] at h1 ⊢
   rw [h.bel.cell (p := ⟨b, _, none⟩) hb]; exact h1
theorem Mc.S {n Y : Nat} {xs : List Value} {V W : World} {o0 : Option Nat} {o3 : Option Value} {o4 o7 o9 : Option Nat} {a b : Value} (h : Mc n xs V W o0 o3 o4 o7 o9) (hY : Y < V.heap.size /\ V.cell? ⟨Y, 0, none⟩ = some a /\ V.cell? ⟨Y, 2, none⟩ = some b) : W.cell? ⟨Y, 0, none⟩ = some a /\ W.cell? ⟨Y, 2, none⟩ = some b :=
 ⟨(h.bel.cell (p := ⟨Y, 0, none⟩) hY.1).trans hY.2.1, (h.bel.cell (p := ⟨Y, 2, none⟩) hY.1).trans hY.2.2⟩
theorem box4 {w : World} {X : Nat} {a0 a1 a2 a3 b0 b1 b2 b3 : Value} {t : TypeId} (h : w.heap[X]? = some (.cells #[a0, a1, a2, a3] t (0, 0))) :
  ((((w.setCell ⟨X, 0, none⟩ b0).setCell ⟨X, 1, none⟩ b1).setCell ⟨X, 2, none⟩ b2).setCell ⟨X, 3, none⟩ b3).heap[X]? = some (.cells #[b0, b1, b2, b3] t (0, 0)) /\ TagKept t w ((((w.setCell ⟨X, 0, none⟩ b0).setCell ⟨X, 1, none⟩ b1).setCell ⟨X, 2, none⟩ b2).setCell ⟨X, 3, none⟩ b3) := by
 have h0 := heap_setCell_same w X 0 _ _ b0 h
 have h1 := heap_setCell_same _ X 1 _ _ b1 h0
 have h2 := heap_setCell_same _ X 2 _ _ b2 h1
 have h3 := heap_setCell_same _ X 3 _ _ b3 h2
 refine ⟨h3, fun g cur e hg he => ?_⟩
 have hne : g ≠ X := fun q => by
  rw [q, h] at hg
  injection hg with hg
  injection hg with _ h5 _
  exact he h5.symm
 rw [heap_set_ne _ _ _ g hne, heap_set_ne _ _ _ g hne, heap_set_ne _ _ _ g hne, heap_set_ne _ _ _ g hne]
theorem box4c {w : World} {X : Nat} {a0 a1 a2 a3 : Value} {t : TypeId} (h : w.heap[X]? = some (.cells #[a0, a1, a2, a3] t (0, 0))) : (w.cell? ⟨X, 0, none⟩ = some a0 /\ w.cell? ⟨X, 1, none⟩ = some a1 /\ w.cell? ⟨X, 2, none⟩ = some a2 /\ w.cell? ⟨X, 3, none⟩ = some a3) /\ (w.frozen? ⟨X, 0, none⟩ = false /\ w.frozen? ⟨X, 1, none⟩ = false /\ w.frozen? ⟨X, 2, none⟩ = false /\ w.frozen? ⟨X, 3, none⟩ = false) /\ X < w.heap.size := by
 refine ⟨⟨?_, ?_, ?_, ?_⟩, ⟨?_, ?_, ?_, ?_⟩, bx_lt h⟩
 . rw [cell_of_row w X 0 _ _ (0, 0) h]; rfl
 . rw [cell_of_row w X 1 _ _ (0, 0) h]; rfl
 . rw [cell_of_row w X 2 _ _ (0, 0) h]; rfl
 . rw [cell_of_row w X 3 _ _ (0, 0) h]; rfl
 . simp [World.frozen?, h]
 . simp [World.frozen?, h]
 . simp [World.frozen?, h]
 . simp [World.frozen?, h]
noncomputable def tagKey (w : World) (g : Nat) : Key := match w.heap[g]? with
 | some (.cells _ t _) => if t = 45 then .c else if t = 70 then .t else if t = 55 then .l else .z
 | _ => .z
theorem tag_of {w : World} {B : Nat} {e : TypeId} {size : Nat} {v : Value} {n : Nat} {xs : List Value} {κ : Key} (h : w.ownsRow B e size v n xs) (hk : (if e = 45 then Key.c else if e = 70 then .t else if e = 55 then .l else .z) = κ) : Row (tagKey w) κ B w e size v n xs := by
 refine ⟨h, fun g hg => ?_⟩
 rcases h.2 with ⟨rfl, _⟩ | ⟨g', cap, cur, rfl, hb, hgg, _⟩
 . simp [Value.ownBlock] at hg
 . simp [Value.ownBlock] at hg
   subst hg
   unfold tagKey
   rw [hgg]
   exact hk
theorem CB.first {X B : Nat} {w : World} {cs : List Ce} {k : Int} {cv tv lv : Value} (hc : w.ownsRow B 45 3 cv cs.length (cs.flatMap ceC)) (ht : w.ownsRow B 70 13 tv 0 []) (hl : w.ownsRow B 55 6 lv 0 []) (hb : w.heap[X]? = some (.cells #[cv, tv, .int .i64 k, lv] 32 (0, 0))) (hX : B <= X) : CB X B w ⟨cs, [], k, []⟩ :=
 ⟨⟨tagKey w, cv, tv, lv, [], [], ⟨tag_of hc rfl, tag_of ht rfl, tag_of hl rfl, fun i hi => absurd hi (by simp), fun i hi => absurd hi (by simp)⟩, rfl, rfl, by unfold tagKey; rw [hb]; exact (rfl : (if 32 = 45 then Key.c else if 32 = 70 then .t else if 32 = 55 then .l else .z) = Key.z), hb⟩, hX⟩
section
variable {P : Program} {ops : Array Oper} {Q : Exit -> Act -> World -> Prop} {md : Region.Mode} {S : World -> Prop} {z : Nat}
theorem till_four {i j m n : Nat} {o o' o2 o3 : Oper} {k : Nat} {d : Array Bool} {a : Act} {w : World} (hi : ops[i]? = some o) (hj : ops[j]? = some o') (hm : ops[m]? = some o2) (hn : ops[n]? = some o3) (hr : Region.ready md ops d = [i, j, m, n])
   (h : ∀ K : Act -> World -> Prop, Hid (∀ a w, (i ≠ z -> S w) -> AnyTill P md ops Q S z k (d.setIfInBounds i true) a w -> K a w) -> if Region.wanted o (yielded ops a.tmps) = true then Oper.wp P o a w K Q else K (a.put o.dst undef) w)
   (h' : ∀ K : Act -> World -> Prop, Hid (∀ a w, (j ≠ z -> S w) -> AnyTill P md ops Q S z k (d.setIfInBounds j true) a w -> K a w) -> if Region.wanted o' (yielded ops a.tmps) = true then Oper.wp P o' a w K Q else K (a.put o'.dst undef) w)
   (h2 : ∀ K : Act -> World -> Prop, Hid (∀ a w, (m ≠ z -> S w) -> AnyTill P md ops Q S z k (d.setIfInBounds m true) a w -> K a w) -> if Region.wanted o2 (yielded ops a.tmps) = true then Oper.wp P o2 a w K Q else K (a.put o2.dst undef) w)
   (h3 : ∀ K : Act -> World -> Prop, Hid (∀ a w, (n ≠ z -> S w) -> AnyTill P md ops Q S z k (d.setIfInBounds n true) a w -> K a w) -> if Region.wanted o3 (yielded ops a.tmps) = true then Oper.wp P o3 a w K Q else K (a.put o3.dst undef) w) : AnyTill P md ops Q S z (k + 1) d a w := by
 refine ⟨fun h0 => (by rw [hr] at h0; cases h0), fun l hl => ?_⟩
 rw [hr] at hl
 simp only [List.mem_cons, List.not_mem_nil, or_false] at hl
 rcases hl with rfl | rfl | rfl | rfl
 . exact wpOp_step hi fun K hK => h K (fun a w h1 h2 => hK a w ⟨h1, h2⟩)
 . exact wpOp_step hj fun K hK => h' K (fun a w h1 h2 => hK a w ⟨h1, h2⟩)
 . exact wpOp_step hm fun K hK => h2 K (fun a w h1 h2 => hK a w ⟨h1, h2⟩)
 . exact wpOp_step hn fun K hK => h3 K (fun a w h1 h2 => hK a w ⟨h1, h2⟩)
end
def regAt (k : Nat) : Code -> Option Code
 | .region i ops b => if i = k then some (.region i ops b) else none
 | .seq a b => match regAt k a with
  | some c => some c
  | none => regAt k b
 | .block _ c => regAt k c
 | .loop c => regAt k c
 | .scope c => regAt k c
 | .cond _ a b => match regAt k a with
  | some c => some c
  | none => regAt k b
 | _ => none
end Go.Proofs.Ytgbgjljflgbcaaa
