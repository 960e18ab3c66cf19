/-
  Two rows of numbers of one's own: cells and registers; what each kind of deed does to them.
-/
import Derived.Test.YtpehlekjfnkhoaaDoorC1
import Derived.Deep.Upon
import Derived.Deep.Slices
namespace Go.Proofs.YtpehlekjfnkhoaaDoor
open Go.RowKit
set_option linter.unusedSimpArgs false
set_option linter.unusedVariables false

theorem OwnInt.get {B : Nat} {w : World} {v : Value} {xs : List Int} (h : OwnInt B w v xs) (i : Nat) (hi : i < xs.length) :
    ∃ g cap, v = .slice (some ⟨g, 0, none⟩) xs.length cap ∧ B ≤ g ∧ g < w.heap.size ∧ xs.length ≤ cap ∧ cap ≤ 9223372036854775807 ∧ ∀ j, j < xs.length → w.cell? ⟨g, j, none⟩ = some (.int .i64 (nth 0 xs j)) ∧ w.frozen? ⟨g, j, none⟩ = false := by
  rcases h.2 with ⟨rfl, h0⟩ | ⟨g, cap, cur, rfl, hb, hg, h1, h2, h3, h4⟩
  · omega
  · refine ⟨g, cap, rfl, hb, (Array.getElem?_eq_some_iff.1 hg).1, h1, by unfold maxLen at h2; omega, fun j hj => ⟨?_, frozen_of_row w g j cur _ hg⟩⟩
    have := World.ownsRow.cellAt h j (by omega)
    rw [this, nth_eq 0 xs j hj]
    simp [hj]
theorem OwnInt.alloc {B : Nat} {w : World} {v : Value} {xs : List Int} (h : OwnInt B w v xs) (o : Obj) : OwnInt B (w.alloc o) v xs := World.ownsRow.alloc h o
theorem OwnInt.drew {B : Nat} {w : World} {v : Value} {xs : List Int} (h : OwnInt B w v xs) : OwnInt B w.drew v xs := h
theorem OwnInt.below {B C : Nat} {w w' : World} {v : Value} {xs : List Int} (h : OwnInt B w v xs) (hb : Below C w w') (hC : w.heap.size ≤ C) : OwnInt B w' v xs :=
  own_heap h fun g hg => hb.block g (Nat.lt_of_lt_of_le (h.lt g hg).2 hC)
theorem OwnInt.set_same {B : Nat} {w : World} {g n cap : Nat} {xs : List Int} (h : OwnInt B w (.slice (some ⟨g, 0, none⟩) n cap) xs) (i : Nat) (x : Int) : OwnInt B (w.setCell ⟨g, i, none⟩ (.int .i64 x)) (.slice (some ⟨g, 0, none⟩) n cap) (xs.set i x) := by
  have hn : n = xs.length := by
    obtain ⟨a, c, e, _⟩ := own_shape h
    injection e
  subst hn
  have := (World.ownsRow.stored h i (.int .i64 x)).1
  unfold OwnInt
  rw [List.length_set, List.map_set]
  exact this
theorem OwnInt.set_other {B : Nat} {w : World} {g i : Nat} {v : Value} {xs : List Int} (h : OwnInt B w v xs) (hne : v.ownBlock ≠ some g) (u : Value) : OwnInt B (w.setCell ⟨g, i, none⟩ u) v xs :=
  own_heap h fun k hk => Below.heap_setCell w ⟨g, i, none⟩ u k (fun e => hne (by rw [hk]; exact congrArg some e))

/-- two rows of one's own that are two -/
def Two (B : Nat) (w : World) (cv rv : Value) (c r : List Int) : Prop := OwnInt B w cv c ∧ OwnInt B w rv r ∧ ∀ g, cv.ownBlock = some g → rv.ownBlock ≠ some g
theorem Two.alloc {B : Nat} {w : World} {cv rv : Value} {c r : List Int} (h : Two B w cv rv c r) (o : Obj) : Two B (w.alloc o) cv rv c r := ⟨h.1.alloc o, h.2.1.alloc o, h.2.2⟩
theorem Two.drew {B : Nat} {w : World} {cv rv : Value} {c r : List Int} (h : Two B w cv rv c r) : Two B w.drew cv rv c r := h
theorem Two.below {B C : Nat} {w w' : World} {cv rv : Value} {c r : List Int} (h : Two B w cv rv c r) (hb : Below C w w') (hC : w.heap.size ≤ C) : Two B w' cv rv c r := ⟨h.1.below hb hC, h.2.1.below hb hC, h.2.2⟩
theorem Two.setR {B : Nat} {w : World} {cv : Value} {g n cap : Nat} {c r : List Int} (h : Two B w cv (.slice (some ⟨g, 0, none⟩) n cap) c r) (i : Nat) (x : Int) : Two B (w.setCell ⟨g, i, none⟩ (.int .i64 x)) cv (.slice (some ⟨g, 0, none⟩) n cap) c (r.set i x) :=
  ⟨h.1.set_other (fun e => h.2.2 g e rfl) _, h.2.1.set_same i x, h.2.2⟩
theorem Two.setC {B : Nat} {w : World} {rv : Value} {g n cap : Nat} {c r : List Int} (h : Two B w (.slice (some ⟨g, 0, none⟩) n cap) rv c r) (i : Nat) (x : Int) : Two B (w.setCell ⟨g, i, none⟩ (.int .i64 x)) (.slice (some ⟨g, 0, none⟩) n cap) rv (c.set i x) r :=
  ⟨h.1.set_same i x, h.2.1.set_other (fun e => h.2.2 g rfl e) _, h.2.2⟩

/-- all is as it was, but in certain blocks, and in new ones -/
structure FrS (S : Nat → Prop) (w w' : World) : Prop where
  os : w'.os = w.os
  tape : w'.tape = w.tape
  output : w'.output = w.output
  size : w.heap.size ≤ w'.heap.size
  block : ∀ k, k < w.heap.size → ¬ S k → w'.heap[k]? = w.heap[k]?
theorem FrS.refl (S : Nat → Prop) (w : World) : FrS S w w := ⟨rfl, rfl, rfl, Nat.le_refl _, fun _ _ _ => rfl⟩
theorem FrS.trans {S : Nat → Prop} {a b c : World} (h : FrS S a b) (k : FrS S b c) : FrS S a c :=
  ⟨k.os.trans h.os, k.tape.trans h.tape, k.output.trans h.output, Nat.le_trans h.size k.size, fun i hi hS => (k.block i (Nat.lt_of_lt_of_le hi h.size) hS).trans (h.block i hi hS)⟩
theorem FrS.of_below {S : Nat → Prop} {w w' : World} (h : Below w.heap.size w w') : FrS S w w' := ⟨h.os, h.tape, h.output, h.size, fun k hk _ => h.block k hk⟩
theorem FrS.alloc {S : Nat → Prop} {a w : World} (h : FrS S a w) (o : Obj) : FrS S a (w.alloc o) := h.trans (.of_below ((Below.refl _ _).alloc (Nat.le_refl _) o))
theorem FrS.drew {S : Nat → Prop} {a w : World} (h : FrS S a w) : FrS S a w.drew := h.trans (.of_below (Below.refl _ _).drew)
theorem FrS.setCell {S : Nat → Prop} {a w : World} (h : FrS S a w) {p : Addr} (hp : S p.block) (u : Value) : FrS S a (w.setCell p u) :=
  h.trans ⟨rfl, rfl, rfl, by simp, fun k _ hS => Below.heap_setCell w p u k (fun e => hS (by rw [e]; exact hp))⟩
theorem FrS.below {S : Nat → Prop} {w w' : World} {B : Nat} (h : FrS S w w') (hS : ∀ k, S k → B ≤ k) (hB : B ≤ w.heap.size) : Below B w w' :=
  ⟨h.os, h.tape, h.output, h.size, fun k hk => h.block k (by omega) (fun e => by have := hS k e; omega)⟩
theorem FrS.cell {S : Nat → Prop} {w w' : World} (h : FrS S w w') {b o : Nat} (hb : b < w.heap.size) (hS : ¬ S b) : w'.cell? ⟨b, o, none⟩ = w.cell? ⟨b, o, none⟩ := World.cell?_of_block (w := w) (h.block b hb hS)
/-- the blocks of two rows -/
def ownS (cv rv : Value) (k : Nat) : Prop := cv.ownBlock = some k ∨ rv.ownBlock = some k
theorem Two.ge {B : Nat} {w : World} {cv rv : Value} {c r : List Int} (h : Two B w cv rv c r) : ∀ k, ownS cv rv k → B ≤ k ∧ k < w.heap.size := fun k hk => by
  rcases hk with h1 | h1
  · exact h.1.lt k h1
  · exact h.2.1.lt k h1

/-! ### append, from whatever slice -/
theorem wpList_append_src {P : Program} {w : World} {ops : Array Oper} {rest : List Oper} {o : Oper} {a : Act} {Q : Exit → Act → World → Prop} (hgd : o.guard = none) (s x : Operand) (t : TypeId)
    (ho : o.op = .call { callee := .builtin .append, args := #[s, x], argTypes := #[t, t] })
    (base : Nat) (e : TypeId) (i : TypeInfo) (z : Value) (size bytes : Nat) (ht : P.underlying t = some (.slice e)) (hi : P.info? e = some i) (hz : i.zero = some z)
    (hsize : i.size = size) (hby : i.bytes = bytes) (hzs : z.cells.size = size) (hsz : 0 < size)
    (v : Value) (n : Nat) (xs : List Value) (hs : a.eval s = v) (hown : w.ownsRow base e size v n xs)
    (ao : Option Addr) (m c : Nat) (news : List Value) (hx : a.eval x = .slice ao m c) (hl : news.length = m * size) (hsrc : m = 0 ∨ ∃ ad, ao = some ad ∧ ∀ j u, news[j]? = some u → w.cell? (ad.add j) = some u) (h1 : ∀ u ∈ news, u.oneCell' = true)
    (h63 : n + m ≤ maxLen) (hbytes : (n + m) * bytes ≤ 140737488355328) (hbase : base ≤ w.heap.size)
    (h : ∀ v' w', w'.ownsRow base e size v' (n + m) (xs ++ news) → w.grownBy w' v.ownBlock → wpList P ops Q rest (a.put o.dst v') w') : wpList P ops Q (o :: rest) a w := by
  refine wpList_plain hgd fun K hK => ?_
  by_cases hm : m = 0
  · subst hm
    have hnil : news = [] := by cases news with | nil => rfl | cons y ys => simp at hl
    subst hnil
    obtain ⟨b, cap, hv, hcap, _⟩ := own_shape hown
    have hr := run_append_nothing (P := P) w t t o.type e i ht hi b n cap hcap (.slice ao 0 c) (by
      cases ao with
      | none => exact Src.ofNil w ht c
      | some ad => exact Src.ofSlice w ht ad 0 c [] (by simp) (by simp) (by simp))
    unfold Oper.wp execOp
    simp only [ho, resolve, invoke, builtin, Sem.run_bind, Sem.run_pure, Result.andThen_ok, List.map_toArray, List.map_cons, List.map_nil, hs, hx, hv, hr]
    exact hK _ _ (h _ w (by rw [List.append_nil, Nat.add_zero, ← hv]; exact hown) (World.grownBy.refl _ _))
  · obtain ⟨ad, rfl, hnews⟩ : ∃ ad, ao = some ad ∧ ∀ j u, news[j]? = some u → w.cell? (ad.add j) = some u := by
      rcases hsrc with h0 | h0
      · exact absurd h0 hm
      · exact h0
    exact wp_append_own w s x t ho base e i z size bytes ht hi hz hsize hby hzs hsz v n xs hs hown ad m c news hx hl hnews h1 h63 hbytes hbase (fun v' w' a1 a2 _ => hK _ _ (h v' w' a1 a2))
theorem ints_src {w : World} {v : Value} {xs : List Int} (h : IntsAt w v xs) : ∃ ao c, v = .slice ao xs.length c ∧ (xs.map (Value.int .i64)).length = xs.length * 1 ∧
    (xs.length = 0 ∨ ∃ ad, ao = some ad ∧ ∀ j u, (xs.map (Value.int .i64))[j]? = some u → w.cell? (ad.add j) = some u) ∧ (∀ u ∈ xs.map (Value.int .i64), u.oneCell' = true) := by
  obtain ⟨a, cap, rfl, hm, hc⟩ := h
  refine ⟨a, cap, rfl, by simp, ?_, fun u hu => ?_⟩
  · by_cases h0 : xs.length = 0
    · exact .inl h0
    · obtain ⟨b, off, e, _⟩ := hc 0 (by omega)
      subst e
      refine .inr ⟨_, rfl, fun j u hj => ?_⟩
      have hjl : j < xs.length := by
        rcases Nat.lt_or_ge j xs.length with h | h
        · exact h
        · rw [List.getElem?_eq_none (by simpa using h)] at hj; cases hj
      obtain ⟨b', off', e', _, c0⟩ := hc j hjl
      injection e' with e2
      injection e2 with e3 e4
      subst e3 e4
      rw [Go.WideShapes.add_plain, c0, nth_eq 0 xs j hjl]
      simpa [hjl] using hj
  · obtain ⟨x, _, rfl⟩ := List.mem_map.1 hu
    rfl

theorem ints_from {w : World} {a : Option Addr} {n cap : Nat} {xs : List Int} (h : IntsAt w (.slice a n cap) xs) : n = 0 ∨ ∃ ad, a = some ad ∧ ∀ j u, (xs.map (Value.int .i64))[j]? = some u → w.cell? (ad.add j) = some u := by
  obtain ⟨ao, c, e, _, h2, _⟩ := ints_src h
  injection e with e1 e2 e3
  subst e1 e2
  exact h2
theorem ints_one (xs : List Int) : ∀ u ∈ xs.map (Value.int .i64), u.oneCell' = true := fun u hu => by
  obtain ⟨x, _, rfl⟩ := List.mem_map.1 hu
  rfl
theorem OwnInt.grown {B : Nat} {w w' : World} {v : Value} {xs : List Int} (h : OwnInt B w v xs) (hg : w.grownBy w' none) : OwnInt B w' v xs :=
  World.ownsRow.kept h hg (by
    cases hv : v.ownBlock with
    | none => exact .inl rfl
    | some g => exact .inr (by simp))

/-! ### each kind of deed -/
set_option maxHeartbeats 1000000 in
theorem changeLoad_any (B : Nat) (a b : Nat) (k : Int) (c r : List Int) (cv rv : Value) (w : World) (h : Two B w cv rv c r) (ha : a < r.length) (hb : b < c.length) :
    Calls Tryd.prog 75 #[cv, rv, .agg #[.int .i64 k, .int .i64 (a : Int), .int .i64 (b : Int)]] w fun e w' => e = .returned (.bool true) ∧ Two B w' cv rv c (r.set a (nth 0 c b)) ∧ FrS (ownS cv rv) w w' := by
  obtain ⟨gc, capc, rfl, bc, gcw, hcc, hcm, hc⟩ := h.1.get b hb
  obtain ⟨gr, capr, rfl, br, grw, hrc, hrm, hr⟩ := h.2.1.get a ha
  have c0 := (hc b hb).1
  have r0 := (hr a ha).1
  have r1 := (hr a ha).2
  have hai : (a : Int) < (r.length : Int) := by omega
  have hbi : (b : Int) < (c.length : Int) := by omega
  have H2 := (show Hid (Two _ _ _ _ _ _) from h)
  clear h hc hr
  go_enter Tryd.func75, Tryd.ntmps75
  go_wp2_with fail
  go_region
  all_goals
    go_wp2_with fail
    go_ret
    exact ⟨rfl, ((H2.out.setR a _).alloc _).drew, (by repeat (first | exact FrS.refl _ _ | refine FrS.alloc ?_ _ | refine FrS.drew ?_ | refine FrS.setCell ?_ (by simp [ownS, Value.ownBlock]) _))⟩

set_option maxHeartbeats 1000000 in
theorem changeStore_any (B : Nat) (a b : Nat) (k : Int) (c r : List Int) (cv rv : Value) (w : World) (h : Two B w cv rv c r) (ha : a < c.length) (hb : b < r.length) :
    Calls Tryd.prog 76 #[cv, rv, .agg #[.int .i64 k, .int .i64 (a : Int), .int .i64 (b : Int)]] w fun e w' => e = .returned (.bool true) ∧ Two B w' cv rv (c.set a (nth 0 r b)) r ∧ FrS (ownS cv rv) w w' := by
  obtain ⟨gc, capc, rfl, bc, gcw, hcc, hcm, hc⟩ := h.1.get a ha
  obtain ⟨gr, capr, rfl, br, grw, hrc, hrm, hr⟩ := h.2.1.get b hb
  have c0 := (hc a ha).1
  have c1 := (hc a ha).2
  have r0 := (hr b hb).1
  have hai : (a : Int) < (c.length : Int) := by omega
  have hbi : (b : Int) < (r.length : Int) := by omega
  have H2 := (show Hid (Two _ _ _ _ _ _) from h)
  clear h hc hr
  go_enter Tryd.func76, Tryd.ntmps76
  go_wp2_with fail
  go_region
  all_goals
    go_wp2_with fail
    go_ret
    exact ⟨rfl, ((H2.out.setC a _).alloc _).drew, (by repeat (first | exact FrS.refl _ _ | refine FrS.alloc ?_ _ | refine FrS.drew ?_ | refine FrS.setCell ?_ (by simp [ownS, Value.ownBlock]) _))⟩

set_option maxHeartbeats 1000000 in
theorem changeNum_any (B : Nat) (a : Nat) (b : Int) (k : Int) (c r : List Int) (cv rv : Value) (w : World) (h : Two B w cv rv c r) (ha : a < r.length) :
    Calls Tryd.prog 77 #[cv, rv, .agg #[.int .i64 k, .int .i64 (a : Int), .int .i64 b]] w fun e w' => e = .returned (.bool true) ∧ Two B w' cv rv c (r.set a b) ∧ FrS (ownS cv rv) w w' := by
  obtain ⟨gr, capr, rfl, br, grw, hrc, hrm, hr⟩ := h.2.1.get a ha
  obtain ⟨ac, cc, rfl, _⟩ := own_shape h.1
  have r0 := (hr a ha).1
  have r1 := (hr a ha).2
  have hai : (a : Int) < (r.length : Int) := by omega
  have H2 := (show Hid (Two _ _ _ _ _ _) from h)
  clear h hr
  go_enter Tryd.func77, Tryd.ntmps77
  go_wp2_with fail
  go_ret
  exact ⟨rfl, (H2.out.setR a _).alloc _, (by repeat (first | exact FrS.refl _ _ | refine FrS.alloc ?_ _ | refine FrS.drew ?_ | refine FrS.setCell ?_ (by simp [ownS, Value.ownBlock]) _))⟩

set_option maxHeartbeats 1000000 in
theorem changeNeed_any (B : Nat) (a : Nat) (k b : Int) (c r : List Int) (cv rv : Value) (w : World) (h : Two B w cv rv c r) (ha : a < r.length) :
    Calls Tryd.prog 79 #[cv, rv, .agg #[.int .i64 k, .int .i64 (a : Int), .int .i64 b]] w fun e w' => e = .returned (.bool (nth 0 r a != 0)) ∧ Two B w' cv rv c r ∧ FrS (ownS cv rv) w w' := by
  obtain ⟨gr, capr, rfl, br, grw, hrc, hrm, hr⟩ := h.2.1.get a ha
  obtain ⟨ac, cc, rfl, _⟩ := own_shape h.1
  have r0 := (hr a ha).1
  have hai : (a : Int) < (r.length : Int) := by omega
  have H2 := (show Hid (Two _ _ _ _ _ _) from h)
  clear h hr
  go_enter Tryd.func79, Tryd.ntmps79
  go_wp2_with fail
  go_ret
  exact ⟨rfl, H2.out.alloc _, (by repeat (first | exact FrS.refl _ _ | refine FrS.alloc ?_ _ | refine FrS.drew ?_ | refine FrS.setCell ?_ (by simp [ownS, Value.ownBlock]) _))⟩

set_option maxHeartbeats 4000000 in
theorem changeAdd_any (B : Nat) (a b : Nat) (k : Int) (c r : List Int) (cv rv : Value) (w : World) (h : Two B w cv rv c r) (ha : a < r.length) (hb : b < r.length) (hr0 : ∀ i, 0 ≤ nth 0 r i ∧ nth 0 r i ≤ 99) :
    Calls Tryd.prog 78 #[cv, rv, .agg #[.int .i64 k, .int .i64 (a : Int), .int .i64 (b : Int)]] w fun e w' => e = .returned (.bool true) ∧ Two B w' cv rv c (r.set a ((nth 0 r a + nth 0 r b) % 100)) ∧ FrS (ownS cv rv) w w' := by
  obtain ⟨gr, capr, rfl, br, grw, hrc, hrm, hr⟩ := h.2.1.get a ha
  obtain ⟨ac, cc, rfl, _⟩ := own_shape h.1
  have r0 := (hr a ha).1
  have r1 := (hr a ha).2
  have r2 := (hr b hb).1
  have hai : (a : Int) < (r.length : Int) := by omega
  have hbi : (b : Int) < (r.length : Int) := by omega
  obtain ⟨n0, n1⟩ := hr0 a
  obtain ⟨n2, n3⟩ := hr0 b
  have H2 := (show Hid (Two _ _ _ _ _ _) from h)
  clear h hr hr0
  go_enter Tryd.func78, Tryd.ntmps78
  go_wp2_with fail
  go_region
  all_goals
    go_wp2_with fail
    go_ret
    exact ⟨rfl, ((H2.out.setR a _).alloc _).drew, (by repeat (first | exact FrS.refl _ _ | refine FrS.alloc ?_ _ | refine FrS.drew ?_ | refine FrS.setCell ?_ (by simp [ownS, Value.ownBlock]) _))⟩

set_option maxHeartbeats 1000000 in
theorem l2Reg_num (B : Nat) (a : Nat) (b : Int) (c r : List Int) (cv rv : Value) (w : World) (h : Two B w cv rv c r) (ha : a < r.length) :
    Calls Tryd.prog 53 #[rv, .agg #[.int .i64 3, .int .i64 (a : Int), .int .i64 b]] w fun e w' => e = .returned (.tuple #[]) ∧ Two B w' cv rv c (r.set a b) ∧ FrS (ownS cv rv) w w' := by
  obtain ⟨gr, capr, rfl, br, grw, hrc, hrm, hr⟩ := h.2.1.get a ha
  have r0 := (hr a ha).1
  have r1 := (hr a ha).2
  have hai : (a : Int) < (r.length : Int) := by omega
  have H2 := (show Hid (Two _ _ _ _ _ _) from h)
  clear h hr
  go_enter Tryd.func53, Tryd.ntmps53
  go_wp2_with fail
  go_end0
  exact ⟨rfl, (H2.out.setR a _).alloc _, (by repeat (first | exact FrS.refl _ _ | refine FrS.alloc ?_ _ | refine FrS.drew ?_ | refine FrS.setCell ?_ (by simp [ownS, Value.ownBlock]) _))⟩

set_option maxHeartbeats 4000000 in
theorem l2Reg_add (B : Nat) (a b : Nat) (c r : List Int) (cv rv : Value) (w : World) (h : Two B w cv rv c r) (ha : a < r.length) (hb : b < r.length) (hr0 : ∀ i, 0 ≤ nth 0 r i ∧ nth 0 r i ≤ 99) :
    Calls Tryd.prog 53 #[rv, .agg #[.int .i64 4, .int .i64 (a : Int), .int .i64 (b : Int)]] w fun e w' => e = .returned (.tuple #[]) ∧ Two B w' cv rv c (r.set a ((nth 0 r a + nth 0 r b) % 100)) ∧ FrS (ownS cv rv) w w' := by
  obtain ⟨gr, capr, rfl, br, grw, hrc, hrm, hr⟩ := h.2.1.get a ha
  have r0 := (hr a ha).1
  have r1 := (hr a ha).2
  have r2 := (hr b hb).1
  have hai : (a : Int) < (r.length : Int) := by omega
  have hbi : (b : Int) < (r.length : Int) := by omega
  obtain ⟨n0, n1⟩ := hr0 a
  obtain ⟨n2, n3⟩ := hr0 b
  have H2 := (show Hid (Two _ _ _ _ _ _) from h)
  clear h hr hr0
  go_enter Tryd.func53, Tryd.ntmps53
  go_wp2_with fail
  go_region
  all_goals
    go_wp2_with fail
    go_end0
    exact ⟨rfl, ((H2.out.setR a _).alloc _).drew, (by repeat (first | exact FrS.refl _ _ | refine FrS.alloc ?_ _ | refine FrS.drew ?_ | refine FrS.setCell ?_ (by simp [ownS, Value.ownBlock]) _))⟩

end Go.Proofs.YtpehlekjfnkhoaaDoor
