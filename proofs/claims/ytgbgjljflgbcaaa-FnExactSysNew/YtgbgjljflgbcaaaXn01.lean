import Derived.Test.YtgbgjljflgbcaaaRows
import Derived.WalkKit
import Derived.WalkSpells
import Derived.WalkLawsBesides
namespace Go.Proofs.Ytgbgjljflgbcaaa
open Go.RowKit
structure De where
  k : Int
  a : Int
  b : Int
structure Ac where
  k : Int
  ds : List De
  ks : List Int
  r : Int
structure Pr where
  cells : List Int
  bodies : List (List Ac)
def De.z : De := ⟨0, 0, 0⟩
def Ac.z : Ac := ⟨0, [], [], 0⟩
def nth {α : Type} (z : α) (l : List α) (i : Nat) : α := l.getD i z
def inB (n lo hi : Int) : Bool := decide (lo ≤ n ∧ n ≤ hi)
def plB (n e : Int) : Bool := decide (0 ≤ n ∧ n < e)
theorem in_pl (n e : Int) : inB n 0 (e - 1) = plB n e := by
  unfold inB plB; exact decide_eq_decide.2 (by omega)
theorem in_pl3 (n : Int) : inB n 0 2 = plB n 3 := by
  unfold inB plB; exact decide_eq_decide.2 (by omega)
theorem in_pl100 (n : Int) : inB n 0 99 = plB n 100 := by
  unfold inB plB; exact decide_eq_decide.2 (by omega)
def deB (d : De) (c : Int) : Bool :=
  if d.k = 1 then plB d.a 3 && plB d.b c
  else if d.k = 2 then plB d.a c && plB d.b 3
  else if d.k = 3 then plB d.a 3 && plB d.b 100
  else if d.k = 4 then plB d.a 3 && plB d.b 3
  else if d.k = 5 then plB d.a 3 && decide (d.b = 0)
  else false
def dsB (ds : List De) (c : Int) : Bool := decide (ds.length ≤ 5) && ds.all (deB · c)
def csB (cs : List Int) : Bool := decide (cs.length ≤ 3) && cs.all (plB · 100)
def kidB (body nb : Int) (k : Int) : Bool := inB k (body + 1) (nb - 1)
def ksB (ks : List Int) (body nb : Int) : Bool := inB ks.length 1 2 && ks.all (kidB body nb)
def acB (a : Ac) (nc body nb : Int) : Bool :=
  if a.k = 1 then decide (a.ks.length = 0) && decide (a.r = 0) && dsB a.ds nc
  else if a.k = 2 then decide (a.ds.length = 0) && decide (a.r = 0) && ksB a.ks body nb
  else if a.k = 3 then decide (a.ds.length = 0) && decide (a.ks.length = 0) && decide (a.r = 0)
  else if a.k = 4 then decide (a.ds.length = 0) && decide (a.ks.length = 0) && plB a.r 3
  else false
def boB (p : Pr) (i : Nat) : Bool := decide ((nth [] p.bodies i).length ≤ 4) && (nth [] p.bodies i).all (acB · p.cells.length i p.bodies.length)
def foB (p : Pr) : Bool := csB p.cells && inB p.bodies.length 1 4 && (List.range p.bodies.length).all (boB p)
def trKs (g : Nat → Nat) (ks : List Int) : Nat := (ks.map fun k => g k.toNat).sum
def trAs (g : Nat → Nat) (acts : List Ac) : Nat := (acts.map fun a => trKs g a.ks).sum
def tr (p : Pr) : Nat → Nat → Nat
  | 0, _ => 1
  | f + 1, i => 1 + trAs (tr p f) (nth [] p.bodies i)
def okB (p : Pr) : Bool := foB p && decide (tr p 4 0 ≤ 7)
theorem nth_eq {α : Type} (z : α) (l : List α) (i : Nat) (h : i < l.length) : nth z l i = l[i] := by simp [nth, h]
theorem nth_mem {α : Type} (z : α) (l : List α) (i : Nat) (h : i < l.length) : nth z l i ∈ l := by rw [nth_eq z l i h]; exact List.getElem_mem h
theorem all_nth {α : Type} (z : α) (p : α → Bool) (l : List α) (h : ∀ j, j < l.length → p (nth z l j) = true) : l.all p = true := by
  rw [List.all_eq_true]
  intro x hx
  obtain ⟨j, hj, rfl⟩ := List.getElem_of_mem hx
  rw [← nth_eq z l j hj]; exact h j hj
theorem not_all_nth {α : Type} (z : α) (p : α → Bool) (l : List α) (j : Nat) (hj : j < l.length) (h : p (nth z l j) = false) : l.all p = false := by
  rw [nth_eq z l j hj] at h
  rw [List.all_eq_false]
  exact ⟨l[j], List.getElem_mem hj, by simp [h]⟩
theorem so_far {p : Nat → Prop} {k : Nat} (h : ∀ j, j < k → p j) (hk : p k) : ∀ j, j < k + 1 → p j := fun j hj => by
  rcases Nat.lt_succ_iff_lt_or_eq.1 hj with h1 | rfl
  · exact h j h1
  · exact hk
theorem take_nth {α : Type} (z : α) (l : List α) (k : Nat) (h : k < l.length) : l.take (k + 1) = l.take k ++ [nth z l k] := by
  rw [nth_eq z l k h]; exact List.take_succ_eq_append_getElem h
theorem below_after {B : Nat} {w x z : World} {o : Obj} (h : Below B w x) (hB : B ≤ x.heap.size) (h2 : Below (x.alloc o).heap.size (x.alloc o) z) : Below B w z :=
  h.trans (((Below.refl _ _).alloc hB o).trans (h2.mono (by simp; omega)))
theorem below_after2 {B : Nat} {w x z : World} {o o2 : Obj} (h : Below B w x) (hB : B ≤ x.heap.size) (h2 : Below ((x.alloc o).alloc o2).heap.size ((x.alloc o).alloc o2) z) : Below B w z :=
  h.trans ((((Below.refl _ _).alloc hB o).alloc (by simp; omega) o2).trans (h2.mono (by simp; omega)))
theorem below_then {B : Nat} {w x z : World} (h : Below B w x) (hB : B ≤ x.heap.size) (h2 : Below x.heap.size x z) : Below B w z :=
  h.trans (h2.mono hB)
theorem below_drewed {B : Nat} {w x z : World} (h : Below B w x) (hB : B ≤ x.heap.size) (h2 : Below x.drew.heap.size x.drew z) : Below B w z := h.drew.trans (h2.mono hB)
theorem bcell {W w1 : World} (hb : Below W.heap.size W w1) : (∀ b o, b < W.heap.size → w1.cell? ⟨b, o, none⟩ = W.cell? ⟨b, o, none⟩) ∧ (∀ b o, b < W.heap.size → w1.frozen? ⟨b, o, none⟩ = W.frozen? ⟨b, o, none⟩) :=
  ⟨fun b o h => hb.cell (p := ⟨b, o, none⟩) h, fun b o h => hb.frozen (p := ⟨b, o, none⟩) h⟩
def IntsAt (w : World) (v : Value) (xs : List Int) : Prop :=
  ∃ a cap, v = .slice a xs.length cap ∧ xs.length ≤ 9223372036854775807 ∧ ∀ i, i < xs.length → ∃ b off, a = some ⟨b, off, none⟩ ∧ b < w.heap.size ∧
    w.cell? ⟨b, off + i, none⟩ = some (.int .i64 (nth 0 xs i))
def DeedsAt (w : World) (v : Value) (ds : List De) : Prop :=
  ∃ a cap, v = .slice a ds.length cap ∧ ds.length ≤ 9223372036854775807 ∧ ∀ i, i < ds.length → ∃ b off, a = some ⟨b, off, none⟩ ∧ b < w.heap.size ∧
    w.cell? ⟨b, off + i * 3, none⟩ = some (.int .i64 (nth De.z ds i).k) ∧ w.cell? ⟨b, off + i * 3 + 1, none⟩ = some (.int .i64 (nth De.z ds i).a) ∧ w.cell? ⟨b, off + i * 3 + 2, none⟩ = some (.int .i64 (nth De.z ds i).b)
def ActsAt (w : World) (v : Value) (acts : List Ac) : Prop :=
  ∃ a cap, v = .slice a acts.length cap ∧ acts.length ≤ 9223372036854775807 ∧ ∀ i, i < acts.length → ∃ b off dv kv, a = some ⟨b, off, none⟩ ∧ b < w.heap.size ∧
    w.cell? ⟨b, off + i * 4, none⟩ = some (.int .i64 (nth Ac.z acts i).k) ∧ w.cell? ⟨b, off + i * 4 + 1, none⟩ = some dv ∧ w.cell? ⟨b, off + i * 4 + 2, none⟩ = some kv ∧ w.cell? ⟨b, off + i * 4 + 3, none⟩ = some (.int .i64 (nth Ac.z acts i).r) ∧
    DeedsAt w dv (nth Ac.z acts i).ds ∧ IntsAt w kv (nth Ac.z acts i).ks
def BodiesAt (w : World) (v : Value) (bs : List (List Ac)) : Prop :=
  ∃ a cap, v = .slice a bs.length cap ∧ bs.length ≤ 9223372036854775807 ∧ ∀ i, i < bs.length → ∃ b off av, a = some ⟨b, off, none⟩ ∧ b < w.heap.size ∧
    w.cell? ⟨b, off + i, none⟩ = some av ∧ ActsAt w av (nth [] bs i)
theorem IntsAt.mono {w w' : World} {v : Value} {xs : List Int} (h : IntsAt w v xs) (hb : Below w.heap.size w w') : IntsAt w' v xs := by
  obtain ⟨a, cap, rfl, hm, hc⟩ := h
  refine ⟨a, cap, rfl, hm, fun i hi => ?_⟩
  obtain ⟨b, off, rfl, hbw, c0⟩ := hc i hi
  exact ⟨b, off, rfl, Nat.lt_of_lt_of_le hbw hb.size, by rw [hb.cell (p := ⟨b, _, none⟩) hbw]; exact c0⟩
theorem DeedsAt.mono {w w' : World} {v : Value} {xs : List De} (h : DeedsAt w v xs) (hb : Below w.heap.size w w') : DeedsAt w' v xs := by
  obtain ⟨a, cap, rfl, hm, hc⟩ := h
  refine ⟨a, cap, rfl, hm, fun i hi => ?_⟩
  obtain ⟨b, off, rfl, hbw, c0, c1, c2⟩ := hc i hi
  rw [← hb.cell (p := ⟨b, _, none⟩) hbw] at c0 c1 c2
  exact ⟨b, off, rfl, Nat.lt_of_lt_of_le hbw hb.size, c0, c1, c2⟩
theorem ActsAt.mono {w w' : World} {v : Value} {xs : List Ac} (h : ActsAt w v xs) (hb : Below w.heap.size w w') : ActsAt w' v xs := by
  obtain ⟨a, cap, rfl, hm, hc⟩ := h
  refine ⟨a, cap, rfl, hm, fun i hi => ?_⟩
  obtain ⟨b, off, dv, kv, rfl, hbw, c0, c1, c2, c3, hd, hk⟩ := hc i hi
  rw [← hb.cell (p := ⟨b, _, none⟩) hbw] at c0 c1 c2 c3
  exact ⟨b, off, dv, kv, rfl, Nat.lt_of_lt_of_le hbw hb.size, c0, c1, c2, c3, hd.mono hb, hk.mono hb⟩
theorem BodiesAt.mono {w w' : World} {v : Value} {xs : List (List Ac)} (h : BodiesAt w v xs) (hb : Below w.heap.size w w') : BodiesAt w' v xs := by
  obtain ⟨a, cap, rfl, hm, hc⟩ := h
  refine ⟨a, cap, rfl, hm, fun i hi => ?_⟩
  obtain ⟨b, off, av, rfl, hbw, c0, ha⟩ := hc i hi
  rw [← hb.cell (p := ⟨b, _, none⟩) hbw] at c0
  exact ⟨b, off, av, rfl, Nat.lt_of_lt_of_le hbw hb.size, c0, ha.mono hb⟩
theorem IntsAt.shape {w : World} {v : Value} {xs : List Int} (h : IntsAt w v xs) : ∃ a cap, v = .slice a xs.length cap ∧ xs.length ≤ 9223372036854775807 := let ⟨a, c, h1, h2, _⟩ := h; ⟨a, c, h1, h2⟩
theorem DeedsAt.shape {w : World} {v : Value} {xs : List De} (h : DeedsAt w v xs) : ∃ a cap, v = .slice a xs.length cap ∧ xs.length ≤ 9223372036854775807 := let ⟨a, c, h1, h2, _⟩ := h; ⟨a, c, h1, h2⟩
theorem ActsAt.shape {w : World} {v : Value} {xs : List Ac} (h : ActsAt w v xs) : ∃ a cap, v = .slice a xs.length cap ∧ xs.length ≤ 9223372036854775807 := let ⟨a, c, h1, h2, _⟩ := h; ⟨a, c, h1, h2⟩
theorem BodiesAt.shape {w : World} {v : Value} {xs : List (List Ac)} (h : BodiesAt w v xs) : ∃ a cap, v = .slice a xs.length cap ∧ xs.length ≤ 9223372036854775807 := let ⟨a, c, h1, h2, _⟩ := h; ⟨a, c, h1, h2⟩
end Go.Proofs.Ytgbgjljflgbcaaa
