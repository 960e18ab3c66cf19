import Derived.Test.YtgbgjljflgbcaaaSo11
import Derived.Deep.Upon
import Derived.Deep.Slices
import Derived.Test.YtgbgjljflgbcaaaSo04
namespace Go.Proofs.Ytgbgjljflgbcaaa
open Go.RowKit
set_option linter.unusedSimpArgs false
set_option linter.unusedVariables false
structure FrS (S : Nat -> Prop) (w w' : World) : Prop where
 os : w'.os = w.os
 tape : w'.tape = w.tape
 output : w'.output = w.output
 size : w.heap.size <= w'.heap.size
 block : ∀ k, k < w.heap.size -> ¬ S k -> w'.heap[k]? = w.heap[k]?
theorem FrS.refl (S : Nat -> Prop) (w : World) : FrS S w w := ⟨rfl, rfl, rfl, Nat.le_refl _, fun _ _ _ => rfl⟩
theorem FrS.trans {S : Nat -> Prop} {a b c : World} (h : FrS S a b) (k : FrS S b c) : FrS S a c :=
 ⟨k.os.trans h.os, k.tape.trans h.tape, k.output.trans h.output, Nat.le_trans h.size k.size, fun i hi hS => (k.block i (Nat.lt_of_lt_of_le hi h.size) hS).trans (h.block i hi hS)⟩
theorem FrS.of_below {S : Nat -> Prop} {w w' : World} (h : Below w.heap.size w w') : FrS S w w' := ⟨h.os, h.tape, h.output, h.size, fun k hk _ => h.block k hk⟩
theorem FrS.alloc {S : Nat -> Prop} {a w : World} (h : FrS S a w) (o : Obj) : FrS S a (w.alloc o) := h.trans (.of_below ((Below.refl _ _).alloc (Nat.le_refl _) o))
theorem FrS.drew {S : Nat -> Prop} {a w : World} (h : FrS S a w) : FrS S a w.drew := h.trans (.of_below (Below.refl _ _).drew)
theorem FrS.setCell {S : Nat -> Prop} {a w : World} (h : FrS S a w) {p : Addr} (hp : S p.block) (u : Value) : FrS S a (w.setCell p u) :=
 h.trans ⟨rfl, rfl, rfl, by simp, fun k _ hS => Below.heap_setCell w p u k (fun e => hS (by rw [e]; exact hp))⟩
theorem FrS.below {S : Nat -> Prop} {w w' : World} {B : Nat} (h : FrS S w w') (hS : ∀ k, S k -> B <= k) (hB : B <= w.heap.size) : Below B w w' :=
 ⟨h.os, h.tape, h.output, h.size, fun k hk => h.block k (by omega) (fun e => by have := hS k e; omega)⟩
theorem FrS.cell {S : Nat -> Prop} {w w' : World} (h : FrS S w w') {b o : Nat} (hb : b < w.heap.size) (hS : ¬ S b) : w'.cell? ⟨b, o, none⟩ = w.cell? ⟨b, o, none⟩ := World.cell?_of_block (w := w) (h.block b hb hS)
theorem wpList_append_src {P : Program} {w : World} {ops : Array Oper} {rest : List Oper} {o : Oper} {a : Act} {Q : Exit -> Act -> World -> Prop} (hgd : o.guard = none) (s x : Operand) (t : TypeId)
   (ho : o.op = .call { callee := .builtin .append, args := #[s, x], argTypes := #[t, t] })
   (base : Nat) (e : TypeId) (i : TypeInfo) (z : Value) (size bytes : Nat) (ht : P.underlying t = some (.slice e)) (hi : P.info? e = some i) (hz : i.zero = some z)
   (hsize : i.size = size) (hby : i.bytes = bytes) (hzs : z.cells.size = size) (hsz : 0 < size)
   (v : Value) (n : Nat) (xs : List Value) (hs : a.eval s = v) (hown : w.ownsRow base e size v n xs)
   (ao : Option Addr) (m c : Nat) (news : List Value) (hx : a.eval x = .slice ao m c) (hl : news.length = m * size) (hsrc : m = 0 \/ ∃ ad, ao = some ad /\ ∀ j u, news[j]? = some u -> w.cell? (ad.add j) = some u) (h1 : ∀ u ∈ news, u.oneCell' = true)
   (h63 : n + m <= maxLen) (hbytes : (n + m) * bytes <= 140737488355328) (hbase : base <= w.heap.size)
   (h : ∀ v' w', w'.ownsRow base e size v' (n + m) (xs ++ news) -> w.grownBy w' v.ownBlock -> wpList P ops Q rest (a.put o.dst v') w') : wpList P ops Q (o :: rest) a w := by
 refine wpList_plain hgd fun K hK => ?_
 by_cases hm : m = 0
 . subst hm
   have hnil : news = [] := by cases news with | nil => rfl | cons y ys => simp at hl
   subst hnil
   obtain ⟨b, cap, hv, hcap, _⟩ := own_shape hown
   have hr := run_append_nothing (P := P) w t t o.type e i ht hi b n cap hcap (.slice ao 0 c) (by
     cases ao with
     | none => exact Src.ofNil w ht c
     | some ad => exact Src.ofSlice w ht ad 0 c [] (by simp) (by simp) (by simp))
   unfold Oper.wp execOp
   simp only [ho, resolve, invoke, builtin, Sem.run_bind, Sem.run_pure, Result.andThen_ok, List.map_toArray, List.map_cons, List.map_nil, hs, hx, hv, hr]
   exact hK _ _ (h _ w (by rw [List.append_nil, Nat.add_zero, <- hv]; exact hown) (World.grownBy.refl _ _))
 . obtain ⟨ad, rfl, hnews⟩ : ∃ ad, ao = some ad /\ ∀ j u, news[j]? = some u -> w.cell? (ad.add j) = some u := by
     rcases hsrc with h0 | h0
     . exact absurd h0 hm
     . exact h0
   exact wp_append_own w s x t ho base e i z size bytes ht hi hz hsize hby hzs hsz v n xs hs hown ad m c news hx hl hnews h1 h63 hbytes hbase (fun v' w' a1 a2 _ => hK _ _ (h v' w' a1 a2))
theorem ints_src {w : World} {v : Value} {xs : List Int} (h : IntsAt w v xs) : ∃ ao c, v = .slice ao xs.length c /\ (xs.map (Value.int .i64)).length = xs.length * 1 /\
   (xs.length = 0 \/ ∃ ad, ao = some ad /\ ∀ j u, (xs.map (Value.int .i64))[j]? = some u -> w.cell? (ad.add j) = some u) /\ (∀ u ∈ xs.map (Value.int .i64), u.oneCell' = true) := by
 obtain ⟨a, cap, rfl, hm, hc⟩ := h
 refine ⟨a, cap, rfl, by simp, ?_, fun u hu => ?_⟩
 . by_cases h0 : xs.length = 0
   . exact .inl h0
   . obtain ⟨b, off, e, _⟩ := hc 0 (by omega)
     subst e
     refine .inr ⟨_, rfl, fun j u hj => ?_⟩
     have hjl : j < xs.length := by
       rcases Nat.lt_or_ge j xs.length with h | h
       . exact h
       . rw [List.getElem?_eq_none (by simpa using h)] at hj; cases hj
     obtain ⟨b', off', e', _, c0⟩ := hc j hjl
     injection e' with e2
     injection e2 with e3 e4
     subst e3 e4
     rw [Go.WideShapes.add_plain, c0, nth_eq 0 xs j hjl]
     simpa [hjl] using hj
 . obtain ⟨x, _, rfl⟩ := List.mem_map.1 hu
   rfl
theorem ints_from {w : World} {a : Option Addr} {n cap : Nat} {xs : List Int} (h : IntsAt w (.slice a n cap) xs) : n = 0 \/ ∃ ad, a = some ad /\ ∀ j u, (xs.map (Value.int .i64))[j]? = some u -> w.cell? (ad.add j) = some u := by
 obtain ⟨ao, c, e, _, h2, _⟩ := ints_src h
 injection e with e1 e2 e3
 subst e1 e2
 exact h2
theorem ints_one (xs : List Int) : ∀ u ∈ xs.map (Value.int .i64), u.oneCell' = true := fun u hu => by
 obtain ⟨x, _, rfl⟩ := List.mem_map.1 hu
 rfl

inductive Key where
 | c | t | l | z
 | r (i : Nat) | o (i : Nat) | d (i : Nat) | u (i : Nat)
 | ed (j : Nat) | eu (j : Nat)
def Row (f : Nat -> Key) (κ : Key) (B : Nat) (w : World) (e : TypeId) (size : Nat) (v : Value) (n : Nat) (xs : List Value) : Prop :=
 w.ownsRow B e size v n xs /\ ∀ g, v.ownBlock = some g -> f g = κ
theorem row_heap {w w' : World} {B : Nat} {e : TypeId} {size : Nat} {v : Value} {n : Nat} {xs : List Value} (h : w.ownsRow B e size v n xs) (hk : ∀ g, v.ownBlock = some g -> w'.heap[g]? = w.heap[g]?) : w'.ownsRow B e size v n xs := by
 refine ⟨h.1, ?_⟩
 rcases h.2 with hn | ⟨g, cap, cur, rfl, hb, hgg, rest⟩
 . exact .inl hn
 . exact .inr ⟨g, cap, cur, rfl, hb, by rw [hk g rfl]; exact hgg, rest⟩
theorem Row.move {f f' : Nat -> Key} {κ κ' : Key} {B : Nat} {w w' : World} {e : TypeId} {size : Nat} {v : Value} {n : Nat} {xs : List Value} (h : Row f κ B w e size v n xs)
  (hf : ∀ g, B <= g -> g < w.heap.size -> f g = κ -> f' g = κ') (hk : ∀ g, B <= g -> g < w.heap.size -> f g = κ -> w'.heap[g]? = w.heap[g]?) : Row f' κ' B w' e size v n xs :=
 ⟨row_heap h.1 fun g hg => hk g (h.1.lt g hg).1 (h.1.lt g hg).2 (h.2 g hg), fun g hg => hf g (h.1.lt g hg).1 (h.1.lt g hg).2 (h.2 g hg)⟩
structure TV where
 r : Value
 o : Value
 d : Value
 u : Value
abbrev TT := Ta × TV
def TT.z : TT := (Ta.z, ⟨.slice none 0 0, .slice none 0 0, .slice none 0 0, .slice none 0 0⟩)
structure EV where
 d : Value
 u : Value
abbrev EE := En × EV
def EE.z : EE := (En.z, ⟨.slice none 0 0, .slice none 0 0⟩)
def taC (x : TT) : List Value := [.int .i64 x.1.body, .int .i64 x.1.pc, .int .i64 x.1.up, x.2.r, .int .i64 x.1.way, .int .i64 x.1.stage, .int .i64 x.1.at_, .int .i64 x.1.since, x.2.o, x.2.d, x.2.u, .int .i64 x.1.when_, .int .i64 x.1.from_]
def enC (x : EE) : List Value := [.int .i64 x.1.task, .int .i64 x.1.act, .int .i64 x.1.when_, x.2.d, x.2.u, .int .i64 x.1.from_]
def ceC (x : Ce) : List Value := [.int .i64 x.num, .int .i64 x.time, .int .i64 x.lock]
def puC (x : Pu) : List Value := [.int .i64 x.c, .int .i64 x.n]
def iR (f : Nat -> Key) (κ : Key) (B : Nat) (w : World) (v : Value) (xs : List Int) : Prop := Row f κ B w 3 1 v xs.length (xs.map (Value.int .i64))
def pR (f : Nat -> Key) (κ : Key) (B : Nat) (w : World) (v : Value) (xs : List Pu) : Prop := Row f κ B w 52 2 v xs.length (xs.flatMap puC)
structure TIn (f : Nat -> Key) (B : Nat) (w : World) (i : Nat) (x : TT) : Prop where
 r : iR f (.r i) B w x.2.r x.1.regs
 o : iR f (.o i) B w x.2.o x.1.old
 d : pR f (.d i) B w x.2.d x.1.reads
 u : pR f (.u i) B w x.2.u x.1.puts
structure EIn (f : Nat -> Key) (B : Nat) (w : World) (j : Nat) (x : EE) : Prop where
 d : pR f (.ed j) B w x.2.d x.1.reads
 u : pR f (.eu j) B w x.2.u x.1.puts
structure OwnSy (f : Nat -> Key) (B : Nat) (w : World) (cv tv lv : Value) (cs : List Ce) (T : List TT) (L : List EE) : Prop where
 c : Row f .c B w 45 3 cv cs.length (cs.flatMap ceC)
 t : Row f .t B w 70 13 tv T.length (T.flatMap taC)
 l : Row f .l B w 55 6 lv L.length (L.flatMap enC)
 ti : ∀ i, i < T.length -> TIn f B w i (nth TT.z T i)
 li : ∀ j, j < L.length -> EIn f B w j (nth EE.z L j)
theorem TIn.move {f f' : Nat -> Key} {B : Nat} {w w' : World} {i : Nat} {x : TT} (h : TIn f B w i x) (hf : ∀ g, B <= g -> g < w.heap.size -> f' g = f g)
   (hk : ∀ g, B <= g -> g < w.heap.size -> f g = .r i \/ f g = .o i \/ f g = .d i \/ f g = .u i -> w'.heap[g]? = w.heap[g]?) : TIn f' B w' i x :=
 ⟨h.r.move (fun g a b e => (hf g a b).trans e) (fun g a b e => hk g a b (.inl e)), h.o.move (fun g a b e => (hf g a b).trans e) (fun g a b e => hk g a b (.inr (.inl e))),
  h.d.move (fun g a b e => (hf g a b).trans e) (fun g a b e => hk g a b (.inr (.inr (.inl e)))), h.u.move (fun g a b e => (hf g a b).trans e) (fun g a b e => hk g a b (.inr (.inr (.inr e))))⟩
theorem EIn.move {f f' : Nat -> Key} {B : Nat} {w w' : World} {i : Nat} {x : EE} (h : EIn f B w i x) (hf : ∀ g, B <= g -> g < w.heap.size -> f' g = f g)
  (hk : ∀ g, B <= g -> g < w.heap.size -> f g = .ed i \/ f g = .eu i -> w'.heap[g]? = w.heap[g]?) : EIn f' B w' i x :=
 ⟨h.d.move (fun g a b e => (hf g a b).trans e) (fun g a b e => hk g a b (.inl e)), h.u.move (fun g a b e => (hf g a b).trans e) (fun g a b e => hk g a b (.inr e))⟩
theorem OwnSy.ext {f f' : Nat -> Key} {B : Nat} {w w' : World} {cv tv lv : Value} {cs : List Ce} {T : List TT} {L : List EE} (h : OwnSy f B w cv tv lv cs T L)
   (hf : ∀ g, B <= g -> g < w.heap.size -> f' g = f g) (hk : ∀ g, B <= g -> g < w.heap.size -> w'.heap[g]? = w.heap[g]?) : OwnSy f' B w' cv tv lv cs T L :=
 ⟨h.c.move (fun g a b e => (hf g a b).trans e) (fun g a b _ => hk g a b), h.t.move (fun g a b e => (hf g a b).trans e) (fun g a b _ => hk g a b), h.l.move (fun g a b e => (hf g a b).trans e) (fun g a b _ => hk g a b),
  fun i hi => (h.ti i hi).move hf (fun g a b _ => hk g a b), fun j hj => (h.li j hj).move hf (fun g a b _ => hk g a b)⟩
theorem heap_set_ne (w : World) (p : Addr) (v : Value) (g : Nat) (h : g ≠ p.block) : (w.setCell p v).heap[g]? = w.heap[g]? := Below.heap_setCell w p v g h
theorem OwnSy.setX {f : Nat -> Key} {B : Nat} {w : World} {cv tv lv : Value} {cs : List Ce} {T : List TT} {L : List EE} (h : OwnSy f B w cv tv lv cs T L) {X o : Nat} (hX : X < B) (v : Value) : OwnSy f B (w.setCell ⟨X, o, none⟩ v) cv tv lv cs T L :=
 h.ext (fun _ _ _ => rfl) fun g hg _ => heap_set_ne w _ v g (by simp; omega)
theorem flat_len {α : Type} (c : Nat) (f : α -> List Value) (hf : ∀ x, (f x).length = c) (L : List α) : (L.flatMap f).length = L.length * c := by
 induction L with
 | nil => simp
 | cons x L ih => rw [List.flatMap_cons, List.length_append, hf, ih, List.length_cons, Nat.succ_mul]; omega
theorem flat_at {α : Type} (c : Nat) (f : α -> List Value) (hf : ∀ x, (f x).length = c) (z : α) (j : Nat) (hj : j < c) (L : List α) (i : Nat) (hi : i < L.length) : (L.flatMap f)[i * c + j]? = (f (nth z L i))[j]? := by
 rw [nth_eq z L i hi]
 induction L generalizing i with
 | nil => simp at hi
 | cons x L ih =>
  rw [List.flatMap_cons]
  cases i with
  | zero => rw [Nat.zero_mul, Nat.zero_add, List.getElem?_append_left (by rw [hf]; exact hj)]; rfl
  | succ i =>
   rw [List.getElem?_append_right (by rw [hf, Nat.succ_mul]; omega), hf]
   have : (i + 1) * c + j - c = i * c + j := by rw [Nat.succ_mul]; omega
   rw [this]
   exact ih i (by simpa using hi)
theorem flat_set {α : Type} (c : Nat) (f : α -> List Value) (hf : ∀ x, (f x).length = c) (z : α) (j : Nat) (hj : j < c) (x : Value) (y : α) (L : List α) (i : Nat) (hi : i < L.length) (hy : f y = (f (nth z L i)).set j x) : (L.flatMap f).set (i * c + j) x = (L.set i y).flatMap f := by
 rw [nth_eq z L i hi] at hy
 induction L generalizing i with
 | nil => simp at hi
 | cons a L ih =>
  rw [List.flatMap_cons]
  cases i with
  | zero => rw [Nat.zero_mul, Nat.zero_add, List.set_append_left _ _ (by rw [hf]; exact hj), List.set_cons_zero, List.flatMap_cons, hy]; rfl
  | succ i =>
   rw [List.set_append_right _ _ (by rw [hf, Nat.succ_mul]; omega), hf, List.set_cons_succ, List.flatMap_cons]
   have : (i + 1) * c + j - c = i * c + j := by rw [Nat.succ_mul]; omega
   rw [this, ih i (by simpa using hi) (by simpa using hy)]
theorem nth_set' {α : Type} (z : α) (L : List α) (i k : Nat) (y : α) (hi : i < L.length) : nth z (L.set i y) k = if i = k then y else nth z L k := by
 unfold nth
 rw [List.getD_eq_getElem?_getD, List.getD_eq_getElem?_getD, List.getElem?_set]
 by_cases e : i = k
 . subst e; simp [hi]
 . simp [e]
theorem taC_len (x : TT) : (taC x).length = 13 := rfl
theorem enC_len (x : EE) : (enC x).length = 6 := rfl
theorem ceC_len (x : Ce) : (ceC x).length = 3 := rfl
theorem puC_len (x : Pu) : (puC x).length = 2 := rfl
theorem OwnSy.setT {f : Nat -> Key} {B : Nat} {w : World} {cv lv : Value} {g n cap : Nat} {cs : List Ce} {T : List TT} {L : List EE} (h : OwnSy f B w cv (.slice (some ⟨g, 0, none⟩) n cap) lv cs T L)
   {i j : Nat} {x : Value} (y : TT) (hi : i < T.length) (hj : j < 13) (hy : TIn f B w i y) (hc : taC y = (taC (nth TT.z T i)).set j x) :
   OwnSy f B (w.setCell ⟨g, i * 13 + j, none⟩ x) cv (.slice (some ⟨g, 0, none⟩) n cap) lv cs (T.set i y) L := by
 have hg : f g = .t := h.t.2 g rfl
 have K : ∀ k, f k ≠ .t -> (w.setCell ⟨g, i * 13 + j, none⟩ x).heap[k]? = w.heap[k]? := fun k hk => heap_set_ne w _ x k (by intro e; simp at e; subst e; exact hk hg)
 have hn : n = T.length := by obtain ⟨a, c, e, _⟩ := own_shape h.t.1; injection e
 refine ⟨h.c.move (fun _ _ _ e => e) fun k _ _ e => K k (by rw [e]; simp), ?_, h.l.move (fun _ _ _ e => e) fun k _ _ e => K k (by rw [e]; simp), fun k hk => ?_, fun k hk => (h.li k hk).move (fun _ _ _ => rfl) fun b _ _ e => K b (by rcases e with e | e <;> rw [e] <;> simp)⟩
 . subst hn
   refine ⟨?_, h.t.2⟩
   rw [List.length_set, <- flat_set 13 taC taC_len TT.z j hj x y T i hi hc]
   exact (h.t.1.stored _ x).1
 . rw [List.length_set] at hk
   rw [nth_set' TT.z T i k y hi]
   have M : ∀ x', TIn f B w k x' -> TIn f B (w.setCell ⟨g, i * 13 + j, none⟩ x) k x' := fun x' hx => hx.move (fun _ _ _ => rfl) fun b _ _ e => K b (by rcases e with e | e | e | e <;> rw [e] <;> simp)
   by_cases e : i = k
   . subst e; rw [if_pos rfl]; exact M _ hy
   . rw [if_neg e]; exact M _ (h.ti k hk)
theorem OwnSy.setR {f : Nat -> Key} {B : Nat} {w : World} {cv tv lv : Value} {g n cap : Nat} {cs : List Ce} {T : List TT} {L : List EE} (h : OwnSy f B w cv tv lv cs T L)
   {i a : Nat} (hi : i < T.length) (hr : (nth TT.z T i).2.r = .slice (some ⟨g, 0, none⟩) n cap) (x : Int) :
   OwnSy f B (w.setCell ⟨g, a, none⟩ (.int .i64 x)) cv tv lv cs (T.set i ({ (nth TT.z T i).1 with regs := (nth TT.z T i).1.regs.set a x }, (nth TT.z T i).2)) L := by
 have hT := h.ti i hi
 have hg : f g = .r i := hT.r.2 g (by rw [hr]; rfl)
 have K : ∀ k, f k ≠ .r i -> (w.setCell ⟨g, a, none⟩ (.int .i64 x)).heap[k]? = w.heap[k]? := fun k hk => heap_set_ne w _ _ k (by intro e; simp at e; subst e; exact hk hg)
 have E : (T.set i ({ (nth TT.z T i).1 with regs := (nth TT.z T i).1.regs.set a x }, (nth TT.z T i).2)).flatMap taC = T.flatMap taC := by
   rw [<- flat_set 13 taC taC_len TT.z 0 (by omega) (.int .i64 (nth TT.z T i).1.body) _ T i hi (by rfl)]
   apply List.ext_getElem?
   intro k
   rw [List.getElem?_set]
   split
   . rename_i e
     subst e
     have := flat_at 13 taC taC_len TT.z 0 (by omega) T i hi
     rw [this]
     split
     . rfl
     . rename_i h2
       rw [flat_len 13 taC taC_len] at h2
       have : i * 13 < T.length * 13 := Nat.mul_lt_mul_of_pos_right hi (by omega)
       omega
   . rfl
 refine ⟨h.c.move (fun _ _ _ e => e) fun k _ _ e => K k (by rw [e]; simp), ?_, h.l.move (fun _ _ _ e => e) fun k _ _ e => K k (by rw [e]; simp), fun k hk => ?_, fun k hk => (h.li k hk).move (fun _ _ _ => rfl) fun b _ _ e => K b (by rcases e with e | e <;> rw [e] <;> simp)⟩
 . rw [E, List.length_set]
   exact h.t.move (fun _ _ _ e => e) fun k _ _ e => K k (by rw [e]; simp)
 . rw [List.length_set] at hk
   rw [nth_set' TT.z T i k _ hi]
   by_cases e : i = k
   . subst e
     rw [if_pos rfl]
     refine ⟨⟨?_, hT.r.2⟩, hT.o.move (fun _ _ _ e => e) fun b _ _ e => K b (by rw [e]; simp), hT.d.move (fun _ _ _ e => e) fun b _ _ e => K b (by rw [e]; simp), hT.u.move (fun _ _ _ e => e) fun b _ _ e => K b (by rw [e]; simp)⟩
     have h1 := hT.r.1
     rw [hr] at h1
     have hn : n = (nth TT.z T i).1.regs.length := by obtain ⟨_, _, e, _⟩ := own_shape h1; injection e
     subst hn
     show World.ownsRow _ _ _ _ (nth TT.z T i).2.r ((nth TT.z T i).1.regs.set a x).length (((nth TT.z T i).1.regs.set a x).map _)
     rw [List.length_set, List.map_set, hr]
     exact (h1.stored a (.int .i64 x)).1
   . rw [if_neg e]
     exact (h.ti k hk).move (fun _ _ _ => rfl) fun b _ _ e' => K b (by rcases e' with e' | e' | e' | e' <;> rw [e'] <;> simp; exact fun q => e q.symm)
theorem OwnSy.setC {f : Nat -> Key} {B : Nat} {w : World} {tv lv : Value} {g n cap : Nat} {cs : List Ce} {T : List TT} {L : List EE} (h : OwnSy f B w (.slice (some ⟨g, 0, none⟩) n cap) tv lv cs T L)
  {i j : Nat} {x : Value} (y : Ce) (hi : i < cs.length) (hj : j < 3) (hc : ceC y = (ceC (nth Ce.z cs i)).set j x) :
  OwnSy f B (w.setCell ⟨g, i * 3 + j, none⟩ x) (.slice (some ⟨g, 0, none⟩) n cap) tv lv (cs.set i y) T L := by
 have hg : f g = .c := h.c.2 g rfl
 have K : ∀ k, f k ≠ .c -> (w.setCell ⟨g, i * 3 + j, none⟩ x).heap[k]? = w.heap[k]? := fun k hk => heap_set_ne w _ x k (by intro e; simp at e; subst e; exact hk hg)
 have hn : n = cs.length := by obtain ⟨a, c, e, _⟩ := own_shape h.c.1; injection e
 refine ⟨?_, h.t.move (fun _ _ _ e => e) fun k _ _ e => K k (by rw [e]; simp), h.l.move (fun _ _ _ e => e) fun k _ _ e => K k (by rw [e]; simp), fun k hk => (h.ti k hk).move (fun _ _ _ => rfl) fun b _ _ e => K b (by rcases e with e | e | e | e <;> rw [e] <;> simp), fun k hk => (h.li k hk).move (fun _ _ _ => rfl) fun b _ _ e => K b (by rcases e with e | e <;> rw [e] <;> simp)⟩
 subst hn
 refine ⟨?_, h.c.2⟩
 rw [List.length_set, <- flat_set 3 ceC ceC_len Ce.z j hj x y cs i hi hc]
 exact (h.c.1.stored _ x).1
theorem OwnSy.addL {f f' : Nat -> Key} {B : Nat} {w w' : World} {cv tv lv lv' : Value} {cs : List Ce} {T : List TT} {L : List EE} (h : OwnSy f B w cv tv lv cs T L) (y : EE)
   (hf : ∀ g, B <= g -> g < w.heap.size -> f' g = f g) (hk : ∀ g, B <= g -> g < w.heap.size -> f g ≠ .l -> w'.heap[g]? = w.heap[g]?)
   (hl : Row f' .l B w' 55 6 lv' (L.length + 1) (L.flatMap enC ++ enC y)) (hy : EIn f' B w' L.length y) : OwnSy f' B w' cv tv lv' cs T (L ++ [y]) := by
 refine ⟨h.c.move (fun g a b e => (hf g a b).trans e) fun k a b e => hk k a b (by rw [e]; simp), h.t.move (fun g a b e => (hf g a b).trans e) fun k a b e => hk k a b (by rw [e]; simp), ?_, fun k hk' => (h.ti k hk').move hf fun b p q e => hk b p q (by rcases e with e | e | e | e <;> rw [e] <;> simp), fun k hk' => ?_⟩
 . rw [List.length_append, List.flatMap_append]; simpa using hl
 . rw [List.length_append] at hk'
   by_cases e : k < L.length
   . have : nth EE.z (L ++ [y]) k = nth EE.z L k := by simp [nth, List.getElem?_append_left e]
     rw [this]
     exact (h.li k e).move hf fun b p q e => hk b p q (by rcases e with e | e <;> rw [e] <;> simp)
   . have e : k = L.length := by simp at hk'; omega
     subst e
     have : nth EE.z (L ++ [y]) L.length = y := by simp [nth]
     rw [this]; exact hy
theorem OwnSy.addT {f f' : Nat -> Key} {B : Nat} {w w' : World} {cv tv lv tv' : Value} {cs : List Ce} {T : List TT} {L : List EE} (h : OwnSy f B w cv tv lv cs T L) (y : TT)
   (hf : ∀ g, B <= g -> g < w.heap.size -> f' g = f g) (hk : ∀ g, B <= g -> g < w.heap.size -> f g ≠ .t -> w'.heap[g]? = w.heap[g]?)
   (hl : Row f' .t B w' 70 13 tv' (T.length + 1) (T.flatMap taC ++ taC y)) (hy : TIn f' B w' T.length y) : OwnSy f' B w' cv tv' lv cs (T ++ [y]) L := by
 refine ⟨h.c.move (fun g a b e => (hf g a b).trans e) fun k a b e => hk k a b (by rw [e]; simp), ?_, h.l.move (fun g a b e => (hf g a b).trans e) fun k a b e => hk k a b (by rw [e]; simp), fun k hk' => ?_, fun k hk' => (h.li k hk').move hf fun b p q e => hk b p q (by rcases e with e | e <;> rw [e] <;> simp)⟩
 . rw [List.length_append, List.flatMap_append]; simpa using hl
 . rw [List.length_append] at hk'
   by_cases e : k < T.length
   . have : nth TT.z (T ++ [y]) k = nth TT.z T k := by simp [nth, List.getElem?_append_left e]
     rw [this]
     exact (h.ti k e).move hf fun b p q e => hk b p q (by rcases e with e | e | e | e <;> rw [e] <;> simp)
   . have e : k = T.length := by simp at hk'; omega
     subst e
     have : nth TT.z (T ++ [y]) T.length = y := by simp [nth]
     rw [this]; exact hy
theorem row_cells {f : Nat -> Key} {κ : Key} {B : Nat} {w : World} {e : TypeId} {size : Nat} {v : Value} {n : Nat} {xs : List Value} (h : Row f κ B w e size v n xs) (hs : 0 < size) (h0 : 0 < n) :
   ∃ g cap, v = .slice (some ⟨g, 0, none⟩) n cap /\ B <= g /\ g < w.heap.size /\ n <= cap /\ cap <= 9223372036854775807 /\ f g = κ /\ (∀ j, j < xs.length -> w.cell? ⟨g, j, none⟩ = xs[j]?) /\ ∀ j, w.frozen? ⟨g, j, none⟩ = false := by
 have hl := h.1.1
 rcases h.1.2 with ⟨rfl, rfl⟩ | ⟨g, cap, cur, rfl, hb, hg, h1, h2, h3, h4⟩
 . omega
 . refine ⟨g, cap, rfl, hb, (Array.getElem?_eq_some_iff.1 hg).1, h1, by unfold maxLen at h2; omega, h.2 g rfl, fun j hj => ?_, fun j => frozen_of_row w g j cur _ hg⟩
   rw [cell_of_row w g j cur _ (0, 0) hg, <- h4, List.getElem?_take, if_pos (by omega)]
   simp
end Go.Proofs.Ytgbgjljflgbcaaa
