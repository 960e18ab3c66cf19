import Derived.Test.YtgbgjljflgbcaaaRows
import Derived.WalkKit
import Derived.WalkSpells
import Derived.WalkLawsBesides
namespace Go.Proofs.Ytgbgjljflgbcaaa
open Go.RowKit
structure De where
  k : Int
  a : Int
  b : Int
structure Ac where
  k : Int
  ds : List De
  ks : List Int
  r : Int
structure Pr where
  cells : List Int
  bodies : List (List Ac)
def De.z : De := ⟨0, 0, 0⟩
def Ac.z : Ac := ⟨0, [], [], 0⟩
def nth {α : Type} (z : α) (l : List α) (i : Nat) : α := l.getD i z
def inB (n lo hi : Int) : Bool := decide (lo ≤ n ∧ n ≤ hi)
def plB (n e : Int) : Bool := decide (0 ≤ n ∧ n < e)
theorem in_pl (n e : Int) : inB n 0 (e - 1) = plB n e := by
  unfold inB plB; exact decide_eq_decide.2 (by omega)
theorem in_pl3 (n : Int) : inB n 0 2 = plB n 3 := by
  unfold inB plB; exact decide_eq_decide.2 (by omega)
theorem in_pl100 (n : Int) : inB n 0 99 = plB n 100 := by
  unfold inB plB; exact decide_eq_decide.2 (by omega)
def deB (d : De) (c : Int) : Bool :=
  if d.k = 1 then plB d.a 3 && plB d.b c
  else if d.k = 2 then plB d.a c && plB d.b 3
  else if d.k = 3 then plB d.a 3 && plB d.b 100
  else if d.k = 4 then plB d.a 3 && plB d.b 3
  else if d.k = 5 then plB d.a 3 && decide (d.b = 0)
  else false
def dsB (ds : List De) (c : Int) : Bool := decide (ds.length ≤ 5) && ds.all (deB · c)
def csB (cs : List Int) : Bool := decide (cs.length ≤ 3) && cs.all (plB · 100)
def kidB (body nb : Int) (k : Int) : Bool := inB k (body + 1) (nb - 1)
def ksB (ks : List Int) (body nb : Int) : Bool := inB ks.length 1 2 && ks.all (kidB body nb)
def acB (a : Ac) (nc body nb : Int) : Bool :=
  if a.k = 1 then decide (a.ks.length = 0) && decide (a.r = 0) && dsB a.ds nc
  else if a.k = 2 then decide (a.ds.length = 0) && decide (a.r = 0) && ksB a.ks body nb
  else if a.k = 3 then decide (a.ds.length = 0) && decide (a.ks.length = 0) && decide (a.r = 0)
  else if a.k = 4 then decide (a.ds.length = 0) && decide (a.ks.length = 0) && plB a.r 3
  else false
def boB (p : Pr) (i : Nat) : Bool := decide ((nth [] p.bodies i).length ≤ 4) && (nth [] p.bodies i).all (acB · p.cells.length i p.bodies.length)
def foB (p : Pr) : Bool := csB p.cells && inB p.bodies.length 1 4 && (List.range p.bodies.length).all (boB p)
def trKs (g : Nat → Nat) (ks : List Int) : Nat := (ks.map fun k => g k.toNat).sum
def trAs (g : Nat → Nat) (acts : List Ac) : Nat := (acts.map fun a => trKs g a.ks).sum
def tr (p : Pr) : Nat → Nat → Nat
  | 0, _ => 1
  | f + 1, i => 1 + trAs (tr p f) (nth [] p.bodies i)
def okB (p : Pr) : Bool := foB p && decide (tr p 4 0 ≤ 7)
theorem nth_eq {α : Type} (z : α) (l : List α) (i : Nat) (h : i < l.length) : nth z l i = l[i] := by simp [nth, h]
theorem nth_mem {α : Type} (z : α) (l : List α) (i : Nat) (h : i < l.length) : nth z l i ∈ l := by rw [nth_eq z l i h]; exact List.getElem_mem h
theorem all_nth {α : Type} (z : α) (p : α → Bool) (l : List α) (h : ∀ j, j < l.length → p (nth z l j) = true) : l.all p = true := by
  rw [List.all_eq_true]
  intro x hx
  obtain ⟨j, hj, rfl⟩ := List.getElem_of_mem hx
  rw [← nth_eq z l j hj]; exact h j hj
theorem not_all_nth {α : Type} (z : α) (p : α → Bool) (l : List α) (j : Nat) (hj : j < l.length) (h : p (nth z l j) = false) : l.all p = false := by
  rw [nth_eq z l j hj] at h
  rw [List.all_eq_false]
  exact ⟨l[j], List.getElem_mem hj, by simp [h]⟩
theorem so_far {p : Nat → Prop} {k : Nat} (h : ∀ j, j < k → p j) (hk : p k) : ∀ j, j < k + 1 → p j := fun j hj => by
  rcases Nat.lt_succ_iff_lt_or_eq.1 hj with h1 | rfl
  · exact h j h1
  · exact hk
theorem take_nth {α : Type} (z : α) (l : List α) (k : Nat) (h : k < l.length) : l.take (k + 1) = l.take k ++ [nth z l k] := by
  rw [nth_eq z l k h]; exact List.take_succ_eq_append_getElem h
theorem below_after {B : Nat} {w x z : World} {o : Obj} (h : Below B w x) (hB : B ≤ x.heap.size) (h2 : Below (x.alloc o).heap.size (x.alloc o) z) : Below B w z :=
  h.trans (((Below.refl _ _).alloc hB o).trans (h2.mono (by simp; omega)))
theorem below_after2 {B : Nat} {w x z : World} {o o2 : Obj} (h : Below B w x) (hB : B ≤ x.heap.size) (h2 : Below ((x.alloc o).alloc o2).heap.size ((x.alloc o).alloc o2) z) : Below B w z :=
  h.trans ((((Below.refl _ _).alloc hB o).alloc (by simp; omega) o2).trans (h2.mono (by simp; omega)))
theorem below_then {B : Nat} {w x z : World} (h : Below B w x) (hB : B ≤ x.heap.size) (h2 : Below x.heap.size x z) : Below B w z :=
  h.trans (h2.mono hB)
theorem below_drewed {B : Nat} {w x z : World} (h : Below B w x) (hB : B ≤ x.heap.size) (h2 : Below x.drew.heap.size x.drew z) : Below B w z := h.drew.trans (h2.mono hB)
theorem bcell {W w1 : World} (hb : Below W.heap.size W w1) : (∀ b o, b < W.heap.size → w1.cell? ⟨b, o, none⟩ = W.cell? ⟨b, o, none⟩) ∧ (∀ b o, b < W.heap.size → w1.frozen? ⟨b, o, none⟩ = W.frozen? ⟨b, o, none⟩) :=
  ⟨fun b o h => hb.cell (p := ⟨b, o, none⟩) h, fun b o h => hb.frozen (p := ⟨b, o, none⟩) h⟩
def IntsAt (w : World) (v : Value) (xs : List Int) : Prop :=
  ∃ a cap, v = .slice a xs.length cap ∧ xs.length ≤ 9223372036854775807 ∧ ∀ i, i < xs.length → ∃ b off, a = some ⟨b, off, none⟩ ∧ b < w.heap.size ∧
    w.cell? ⟨b, off + i, none⟩ = some (.int .i64 (nth 0 xs i))
def DeedsAt (w : World) (v : Value) (ds : List De) : Prop :=
  ∃ a cap, v = .slice a ds.length cap ∧ ds.length ≤ 9223372036854775807 ∧ ∀ i, i < ds.length → ∃ b off, a = some ⟨b, off, none⟩ ∧ b < w.heap.size ∧
    w.cell? ⟨b, off + i * 3, none⟩ = some (.int .i64 (nth De.z ds i).k) ∧ w.cell? ⟨b, off + i * 3 + 1, none⟩ = some (.int .i64 (nth De.z ds i).a) ∧ w.cell? ⟨b, off + i * 3 + 2, none⟩ = some (.int .i64 (nth De.z ds i).b)
def ActsAt (w : World) (v : Value) (acts : List Ac) : Prop :=
  ∃ a cap, v = .slice a acts.length cap ∧ acts.length ≤ 9223372036854775807 ∧ ∀ i, i < acts.length → ∃ b off dv kv, a = some ⟨b, off, none⟩ ∧ b < w.heap.size ∧
    w.cell? ⟨b, off + i * 4, none⟩ = some (.int .i64 (nth Ac.z acts i).k) ∧ w.cell? ⟨b, off + i * 4 + 1, none⟩ = some dv ∧ w.cell? ⟨b, off + i * 4 + 2, none⟩ = some kv ∧ w.cell? ⟨b, off + i * 4 + 3, none⟩ = some (.int .i64 (nth Ac.z acts i).r) ∧
    DeedsAt w dv (nth Ac.z acts i).ds ∧ IntsAt w kv (nth Ac.z acts i).ks
def BodiesAt (w : World) (v : Value) (bs : List (List Ac)) : Prop :=
  ∃ a cap, v = .slice a bs.length cap ∧ bs.length ≤ 9223372036854775807 ∧ ∀ i, i < bs.length → ∃ b off av, a = some ⟨b, off, none⟩ ∧ b < w.heap.size ∧
    w.cell? ⟨b, off + i, none⟩ = some av ∧ ActsAt w av (nth [] bs i)
theorem IntsAt.mono {w w' : World} {v : Value} {xs : List Int} (h : IntsAt w v xs) (hb : Below w.heap.size w w') : IntsAt w' v xs := by
  obtain ⟨a, cap, rfl, hm, hc⟩ := h
  refine ⟨a, cap, rfl, hm, fun i hi => ?_⟩
  obtain ⟨b, off, rfl, hbw, c0⟩ := hc i hi
  exact ⟨b, off, rfl, Nat.lt_of_lt_of_le hbw hb.size, by rw [hb.cell (p := ⟨b, _, none⟩) hbw]; exact c0⟩
theorem DeedsAt.mono {w w' : World} {v : Value} {xs : List De} (h : DeedsAt w v xs) (hb : Below w.heap.size w w') : DeedsAt w' v xs := by
  obtain ⟨a, cap, rfl, hm, hc⟩ := h
  refine ⟨a, cap, rfl, hm, fun i hi => ?_⟩
  obtain ⟨b, off, rfl, hbw, c0, c1, c2⟩ := hc i hi
  rw [← hb.cell (p := ⟨b, _, none⟩) hbw] at c0 c1 c2
  exact ⟨b, off, rfl, Nat.lt_of_lt_of_le hbw hb.size, c0, c1, c2⟩
theorem ActsAt.mono {w w' : World} {v : Value} {xs : List Ac} (h : ActsAt w v xs) (hb : Below w.heap.size w w') : ActsAt w' v xs := by
  obtain ⟨a, cap, rfl, hm, hc⟩ := h
  refine ⟨a, cap, rfl, hm, fun i hi => ?_⟩
  obtain ⟨b, off, dv, kv, rfl, hbw, c0, c1, c2, c3, hd, hk⟩ := hc i hi
  rw [← hb.cell (p := ⟨b, _, none⟩) hbw] at c0 c1 c2 c3
  exact ⟨b, off, dv, kv, rfl, Nat.lt_of_lt_of_le hbw hb.size, c0, c1, c2, c3, hd.mono hb, hk.mono hb⟩
theorem BodiesAt.mono {w w' : World} {v : Value} {xs : List (List Ac)} (h : BodiesAt w v xs) (hb : Below w.heap.size w w') : BodiesAt w' v xs := by
  obtain ⟨a, cap, rfl, hm, hc⟩ := h
  refine ⟨a, cap, rfl, hm, fun i hi => ?_⟩
  obtain ⟨b, off, av, rfl, hbw, c0, ha⟩ := hc i hi
  rw [← hb.cell (p := ⟨b, _, none⟩) hbw] at c0
  exact ⟨b, off, av, rfl, Nat.lt_of_lt_of_le hbw hb.size, c0, ha.mono hb⟩
theorem IntsAt.shape {w : World} {v : Value} {xs : List Int} (h : IntsAt w v xs) : ∃ a cap, v = .slice a xs.length cap ∧ xs.length ≤ 9223372036854775807 := let ⟨a, c, h1, h2, _⟩ := h; ⟨a, c, h1, h2⟩
theorem DeedsAt.shape {w : World} {v : Value} {xs : List De} (h : DeedsAt w v xs) : ∃ a cap, v = .slice a xs.length cap ∧ xs.length ≤ 9223372036854775807 := let ⟨a, c, h1, h2, _⟩ := h; ⟨a, c, h1, h2⟩
theorem BodiesAt.shape {w : World} {v : Value} {xs : List (List Ac)} (h : BodiesAt w v xs) : ∃ a cap, v = .slice a xs.length cap ∧ xs.length ≤ 9223372036854775807 := let ⟨a, c, h1, h2, _⟩ := h; ⟨a, c, h1, h2⟩
end Go.Proofs.Ytgbgjljflgbcaaa

namespace Go.Proofs.Ytgbgjljflgbcaaa
open Go.RowKit
set_option maxHeartbeats 400000 in
theorem isPlace_any (n e : Int) (w : World) :
    Calls Try.prog 45 #[.int .i64 n, .int .i64 e] w fun r w' => r = .returned (.bool (plB n e)) ∧ w' = w := by
  by_cases h1 : 0 ≤ n
  · go_enter Try.func45, Try.ntmps45
    go_wp2
    go_ret
    exact ⟨by simp [plB]; try omega, rfl⟩
  · have h2 : decide (0 ≤ n) = false := by simpa using h1
    go_enter Try.func45, Try.ntmps45
    go_wp2
    go_ret
    exact ⟨by simp [plB]; try omega, rfl⟩
set_option maxHeartbeats 400000 in
theorem l6In_any (n lo hi : Int) (w : World) :
    Calls Try.prog 52 #[.int .i64 n, .int .i64 lo, .int .i64 hi] w fun r w' => r = .returned (.bool (inB n lo hi)) ∧ w' = w := by
  by_cases h1 : lo ≤ n
  · go_enter Try.func52, Try.ntmps52
    go_wp2
    go_ret
    exact ⟨by simp [inB]; try omega, rfl⟩
  · have h2 : decide (lo ≤ n) = false := by simpa using h1
    go_enter Try.func52, Try.ntmps52
    go_wp2
    go_ret
    exact ⟨by simp [inB]; try omega, rfl⟩
end Go.Proofs.Ytgbgjljflgbcaaa

namespace Go.Proofs.Ytgbgjljflgbcaaa
open Go.RowKit
@[go_sem] theorem as_deedLoad_deedLoad (v : Value) (w : World) : (Instr.typeAssert (.iface 188 v) 162 188 true).run Try.prog w = .ok (.tuple #[v, .bool true]) w := by kernel_rfl
@[go_sem] theorem as_deedStore_deedLoad (v : Value) (w : World) : (Instr.typeAssert (.iface 190 v) 162 188 true).run Try.prog w = .ok (.tuple #[.agg #[.int .i64 0, .int .i64 0], .bool false]) w := by kernel_rfl
@[go_sem] theorem as_deedStore_deedStore (v : Value) (w : World) : (Instr.typeAssert (.iface 190 v) 162 190 true).run Try.prog w = .ok (.tuple #[v, .bool true]) w := by kernel_rfl
@[go_sem] theorem as_deedNum_deedLoad (v : Value) (w : World) : (Instr.typeAssert (.iface 192 v) 162 188 true).run Try.prog w = .ok (.tuple #[.agg #[.int .i64 0, .int .i64 0], .bool false]) w := by kernel_rfl
@[go_sem] theorem as_deedNum_deedStore (v : Value) (w : World) : (Instr.typeAssert (.iface 192 v) 162 190 true).run Try.prog w = .ok (.tuple #[.agg #[.int .i64 0, .int .i64 0], .bool false]) w := by kernel_rfl
@[go_sem] theorem as_deedNum_deedNum (v : Value) (w : World) : (Instr.typeAssert (.iface 192 v) 162 192 true).run Try.prog w = .ok (.tuple #[v, .bool true]) w := by kernel_rfl
@[go_sem] theorem as_deedAdd_deedLoad (v : Value) (w : World) : (Instr.typeAssert (.iface 194 v) 162 188 true).run Try.prog w = .ok (.tuple #[.agg #[.int .i64 0, .int .i64 0], .bool false]) w := by kernel_rfl
@[go_sem] theorem as_deedAdd_deedStore (v : Value) (w : World) : (Instr.typeAssert (.iface 194 v) 162 190 true).run Try.prog w = .ok (.tuple #[.agg #[.int .i64 0, .int .i64 0], .bool false]) w := by kernel_rfl
@[go_sem] theorem as_deedAdd_deedNum (v : Value) (w : World) : (Instr.typeAssert (.iface 194 v) 162 192 true).run Try.prog w = .ok (.tuple #[.agg #[.int .i64 0, .int .i64 0], .bool false]) w := by kernel_rfl
@[go_sem] theorem as_deedAdd_deedAdd (v : Value) (w : World) : (Instr.typeAssert (.iface 194 v) 162 194 true).run Try.prog w = .ok (.tuple #[v, .bool true]) w := by kernel_rfl
@[go_sem] theorem as_deedNeed_deedLoad (v : Value) (w : World) : (Instr.typeAssert (.iface 195 v) 162 188 true).run Try.prog w = .ok (.tuple #[.agg #[.int .i64 0, .int .i64 0], .bool false]) w := by kernel_rfl
@[go_sem] theorem as_deedNeed_deedStore (v : Value) (w : World) : (Instr.typeAssert (.iface 195 v) 162 190 true).run Try.prog w = .ok (.tuple #[.agg #[.int .i64 0, .int .i64 0], .bool false]) w := by kernel_rfl
@[go_sem] theorem as_deedNeed_deedNum (v : Value) (w : World) : (Instr.typeAssert (.iface 195 v) 162 192 true).run Try.prog w = .ok (.tuple #[.agg #[.int .i64 0, .int .i64 0], .bool false]) w := by kernel_rfl
@[go_sem] theorem as_deedNeed_deedAdd (v : Value) (w : World) : (Instr.typeAssert (.iface 195 v) 162 194 true).run Try.prog w = .ok (.tuple #[.agg #[.int .i64 0, .int .i64 0], .bool false]) w := by kernel_rfl
@[go_sem] theorem as_deedNeed_deedNeed (v : Value) (w : World) : (Instr.typeAssert (.iface 195 v) 162 195 true).run Try.prog w = .ok (.tuple #[v, .bool true]) w := by kernel_rfl
@[go_sem] theorem as_progNone_deedLoad (v : Value) (w : World) : (Instr.typeAssert (.iface 181 v) 162 188 true).run Try.prog w = .ok (.tuple #[.agg #[.int .i64 0, .int .i64 0], .bool false]) w := by kernel_rfl
@[go_sem] theorem as_progNone_deedStore (v : Value) (w : World) : (Instr.typeAssert (.iface 181 v) 162 190 true).run Try.prog w = .ok (.tuple #[.agg #[.int .i64 0, .int .i64 0], .bool false]) w := by kernel_rfl
@[go_sem] theorem as_progNone_deedNum (v : Value) (w : World) : (Instr.typeAssert (.iface 181 v) 162 192 true).run Try.prog w = .ok (.tuple #[.agg #[.int .i64 0, .int .i64 0], .bool false]) w := by kernel_rfl
@[go_sem] theorem as_progNone_deedAdd (v : Value) (w : World) : (Instr.typeAssert (.iface 181 v) 162 194 true).run Try.prog w = .ok (.tuple #[.agg #[.int .i64 0, .int .i64 0], .bool false]) w := by kernel_rfl
@[go_sem] theorem as_progNone_deedNeed (v : Value) (w : World) : (Instr.typeAssert (.iface 181 v) 162 195 true).run Try.prog w = .ok (.tuple #[.agg #[.int .i64 0], .bool false]) w := by kernel_rfl
@[go_sem] theorem as_actTry_actTry (v : Value) (w : World) : (Instr.typeAssert (.iface 165 v) 162 165 true).run Try.prog w = .ok (.tuple #[v, .bool true]) w := by kernel_rfl
@[go_sem] theorem as_actTry_actFork (v : Value) (w : World) : (Instr.typeAssert (.iface 165 v) 162 168 true).run Try.prog w = .ok (.tuple #[.agg #[.slice none 0 0], .bool false]) w := by kernel_rfl
@[go_sem] theorem as_actFork_actTry (v : Value) (w : World) : (Instr.typeAssert (.iface 168 v) 162 165 true).run Try.prog w = .ok (.tuple #[.agg #[.slice none 0 0], .bool false]) w := by kernel_rfl
@[go_sem] theorem as_actFork_actFork (v : Value) (w : World) : (Instr.typeAssert (.iface 168 v) 162 168 true).run Try.prog w = .ok (.tuple #[v, .bool true]) w := by kernel_rfl
@[go_sem] theorem as_actFail_actTry (v : Value) (w : World) : (Instr.typeAssert (.iface 170 v) 162 165 true).run Try.prog w = .ok (.tuple #[.agg #[.slice none 0 0], .bool false]) w := by kernel_rfl
@[go_sem] theorem as_actFail_actFork (v : Value) (w : World) : (Instr.typeAssert (.iface 170 v) 162 168 true).run Try.prog w = .ok (.tuple #[.agg #[.slice none 0 0], .bool false]) w := by kernel_rfl
@[go_sem] theorem as_actFail_actFail (v : Value) (w : World) : (Instr.typeAssert (.iface 170 v) 162 170 true).run Try.prog w = .ok (.tuple #[v, .bool true]) w := by kernel_rfl
@[go_sem] theorem as_actFailIf_actTry (v : Value) (w : World) : (Instr.typeAssert (.iface 172 v) 162 165 true).run Try.prog w = .ok (.tuple #[.agg #[.slice none 0 0], .bool false]) w := by kernel_rfl
@[go_sem] theorem as_actFailIf_actFork (v : Value) (w : World) : (Instr.typeAssert (.iface 172 v) 162 168 true).run Try.prog w = .ok (.tuple #[.agg #[.slice none 0 0], .bool false]) w := by kernel_rfl
@[go_sem] theorem as_actFailIf_actFail (v : Value) (w : World) : (Instr.typeAssert (.iface 172 v) 162 170 true).run Try.prog w = .ok (.tuple #[.agg #[], .bool false]) w := by kernel_rfl
@[go_sem] theorem as_actFailIf_actFailIf (v : Value) (w : World) : (Instr.typeAssert (.iface 172 v) 162 172 true).run Try.prog w = .ok (.tuple #[v, .bool true]) w := by kernel_rfl
@[go_sem] theorem as_progNone_actTry (v : Value) (w : World) : (Instr.typeAssert (.iface 181 v) 162 165 true).run Try.prog w = .ok (.tuple #[.agg #[.slice none 0 0], .bool false]) w := by kernel_rfl
@[go_sem] theorem as_progNone_actFork (v : Value) (w : World) : (Instr.typeAssert (.iface 181 v) 162 168 true).run Try.prog w = .ok (.tuple #[.agg #[.slice none 0 0], .bool false]) w := by kernel_rfl
@[go_sem] theorem as_progNone_actFail (v : Value) (w : World) : (Instr.typeAssert (.iface 181 v) 162 170 true).run Try.prog w = .ok (.tuple #[.agg #[], .bool false]) w := by kernel_rfl
@[go_sem] theorem as_progNone_actFailIf (v : Value) (w : World) : (Instr.typeAssert (.iface 181 v) 162 172 true).run Try.prog w = .ok (.tuple #[.agg #[.int .i64 0], .bool false]) w := by kernel_rfl
set_option maxHeartbeats 400000 in
theorem deedInForm_any (d : De) (c : Int) (w : World) :
    Calls Try.prog 156 #[.agg #[.int .i64 d.k, .int .i64 d.a, .int .i64 d.b], .int .i64 c] w fun r w' => r = .returned (.bool (deB d c)) ∧ Below w.heap.size w w' := by
  obtain ⟨k, a, b⟩ := d
  dsimp only
  by_cases h1 : k = 1
  · subst h1
    cases hp : plB a 3
    all_goals
      go_enter Try.func156, Try.ntmps156
      go_wp2_with (first | (go_at_call 45; refine (isPlace_any _ _ _).mono ?_; rintro e w' ⟨rfl, rfl⟩) | go_in)
      go_ret
      exact ⟨by simp [deB, hp], (by repeat (first | exact Below.refl _ _ | refine Below.alloc ?_ (by simp; try omega) _ | refine Below.drew ?_ | refine Below.setCell ?_ (by simp; try omega) _))⟩
  by_cases h2 : k = 2
  · subst h2
    cases hp : plB a c
    all_goals
      go_enter Try.func156, Try.ntmps156
      go_wp2_with (first | (go_at_call 45; refine (isPlace_any _ _ _).mono ?_; rintro e w' ⟨rfl, rfl⟩) | go_in)
      go_ret
      exact ⟨by simp [deB, hp], (by repeat (first | exact Below.refl _ _ | refine Below.alloc ?_ (by simp; try omega) _ | refine Below.drew ?_ | refine Below.setCell ?_ (by simp; try omega) _))⟩
  by_cases h3 : k = 3
  · subst h3
    cases hp : plB a 3
    all_goals
      go_enter Try.func156, Try.ntmps156
      go_wp2_with (first | (go_at_call 45; refine (isPlace_any _ _ _).mono ?_; rintro e w' ⟨rfl, rfl⟩) | go_in)
      go_ret
      exact ⟨by simp [deB, hp], (by repeat (first | exact Below.refl _ _ | refine Below.alloc ?_ (by simp; try omega) _ | refine Below.drew ?_ | refine Below.setCell ?_ (by simp; try omega) _))⟩
  by_cases h4 : k = 4
  · subst h4
    cases hp : plB a 3
    all_goals
      go_enter Try.func156, Try.ntmps156
      go_wp2_with (first | (go_at_call 45; refine (isPlace_any _ _ _).mono ?_; rintro e w' ⟨rfl, rfl⟩) | go_in)
      go_ret
      exact ⟨by simp [deB, hp], (by repeat (first | exact Below.refl _ _ | refine Below.alloc ?_ (by simp; try omega) _ | refine Below.drew ?_ | refine Below.setCell ?_ (by simp; try omega) _))⟩
  have g1 : (k == 1) = false := by simp [h1]
  have g2 : (k == 2) = false := by simp [h2]
  have g3 : (k == 3) = false := by simp [h3]
  have g4 : (k == 4) = false := by simp [h4]
  by_cases h5 : k = 5
  · by_cases h6 : b = 0
    · subst h5 h6
      go_enter Try.func156, Try.ntmps156
      go_wp2_with (first | (go_at_call 45; refine (isPlace_any _ _ _).mono ?_; rintro e w' ⟨rfl, rfl⟩) | go_in)
      go_ret
      exact ⟨by simp [deB], (by repeat (first | exact Below.refl _ _ | refine Below.alloc ?_ (by simp; try omega) _ | refine Below.drew ?_ | refine Below.setCell ?_ (by simp; try omega) _))⟩
    · have g6 : (b == 0) = false := by simp [h6]
      have HF : Hid (deB ⟨k, a, b⟩ c = false) := by simp [Hid, deB, h5, h6]
      clear h1 h2 h3 h4 h6
      subst h5
      go_enter Try.func156, Try.ntmps156
      go_wp2_with (first | (go_at_call 45; refine (isPlace_any _ _ _).mono ?_; rintro e w' ⟨rfl, rfl⟩) | go_in)
      go_ret
      exact ⟨by rw [HF.out]; rfl, (by repeat (first | exact Below.refl _ _ | refine Below.alloc ?_ (by simp; try omega) _ | refine Below.drew ?_ | refine Below.setCell ?_ (by simp; try omega) _))⟩
  · have g5 : (k == 5) = false := by simp [h5]
    have HF : Hid (deB ⟨k, a, b⟩ c = false) := by simp [Hid, deB, h1, h2, h3, h4, h5]
    clear h1 h2 h3 h4 h5
    go_enter Try.func156, Try.ntmps156
    go_wp2_with (first | (go_at_call 45; refine (isPlace_any _ _ _).mono ?_; rintro e w' ⟨rfl, rfl⟩) | go_in)
    go_ret
    exact ⟨by rw [HF.out]; rfl, (by repeat (first | exact Below.refl _ _ | refine Below.alloc ?_ (by simp; try omega) _ | refine Below.drew ?_ | refine Below.setCell ?_ (by simp; try omega) _))⟩
end Go.Proofs.Ytgbgjljflgbcaaa

namespace Go.Proofs.Ytgbgjljflgbcaaa
open Go.RowKit
set_option maxHeartbeats 400000 in
theorem deedsInForm_any (v : Value) (ds : List De) (c : Int) (w : World) (h : DeedsAt w v ds) :
    Calls Try.prog 145 #[v, .int .i64 c] w fun r w' => r = .returned (.bool (dsB ds c)) ∧ Below w.heap.size w w' := by
  obtain ⟨a, cap, rfl, hm, hc⟩ := h
  by_cases h5 : ds.length ≤ 5
  · have h5' : ¬ (5 : Int) < (ds.length : Int) := by omega
    go_enter Try.func145, Try.ntmps145
    go_wp2_with fail
    go_loopw [12] (fun i w' => ∃ k : Nat, k ≤ ds.length ∧ i = .int .i64 k ∧ Below w.heap.size w w' ∧ (∀ j, j < k → deB (nth De.z ds j) c = true)) (fun i _ => ds.length - (intOf i).toNat)
    case atStart => exact ⟨0, Nat.zero_le _, rfl, Below.refl _ _, fun j hj => absurd hj (Nat.not_lt_zero _)⟩
    case round =>
      obtain ⟨k, hk, rfl, hb, hall⟩ := hrel
      by_cases hlt : k < ds.length
      · obtain ⟨b, off, rfl, hbw, c0, c1, c2⟩ := hc k hlt
        rw [← hb.cell (p := ⟨b, _, none⟩) hbw] at c0 c1 c2
        go_wp2_with fail
        refine (deedInForm_any (nth De.z ds k) c _).mono ?_
        rintro e w1 ⟨rfl, hb1⟩
        have HB : Hid (Below w.heap.size w w1) := below_after hb hb.size hb1
        clear hb hb1 c0 c1 c2 hc
        cases hd : deB (nth De.z ds k) c
        · have HF : Hid (dsB ds c = false) := by simp [Hid, dsB, not_all_nth De.z (deB · c) ds k hlt hd]
          clear hd hall
          go_wp2
          go_ret
          exact ⟨by rw [HF.out]; rfl, HB.out⟩
        · have HA : Hid (∀ j, j < k + 1 → deB (nth De.z ds j) c = true) := fun j hj => by
            rcases Nat.lt_succ_iff_lt_or_eq.1 hj with h | rfl
            · exact hall j h
            · exact hd
          clear hd hall
          go_wp2
          go_roundw
          case rel => exact ⟨k + 1, by omega, by go_num, HB.out, HA.out⟩
          case measure => simp [intOf]; omega
      · have HF : Hid (dsB ds c = true) := by
          have := all_nth De.z (deB · c) ds (fun j hj => hall j (by omega))
          simp [Hid, dsB, this, h5]
        clear hall hc
        go_wp2
        go_ret
        exact ⟨by rw [HF.out]; rfl, hb⟩
  · have h5' : (5 : Int) < (ds.length : Int) := by omega
    have HF : Hid (dsB ds c = false) := by simp [Hid, dsB, h5]
    clear hc
    go_enter Try.func145, Try.ntmps145
    go_wp2
    go_ret
    exact ⟨by rw [HF.out]; rfl, Below.refl _ _⟩
end Go.Proofs.Ytgbgjljflgbcaaa

namespace Go.Proofs.Ytgbgjljflgbcaaa
open Go.RowKit
def nsB (xs : List Int) : Bool := xs.all (plB · 100)
set_option maxHeartbeats 400000 in
theorem numsInForm_any (v : Value) (xs : List Int) (w : World) (h : IntsAt w v xs) :
    Calls Try.prog 120 #[v] w fun r w' => r = .returned (.bool (nsB xs)) ∧ w' = w := by
  obtain ⟨a, cap, rfl, hm, hc⟩ := h
  go_enter Try.func120, Try.ntmps120
  go_wp2_with fail
  go_loop [7] (fun i => ∃ k : Nat, k ≤ xs.length ∧ i = .int .i64 k ∧ (∀ j, j < k → plB (nth 0 xs j) 100 = true)) (fun i => xs.length - (intOf i).toNat)
  case atStart => exact ⟨0, Nat.zero_le _, rfl, fun j hj => absurd hj (Nat.not_lt_zero _)⟩
  case round =>
    obtain ⟨k, hk, rfl, hall⟩ := hrel
    by_cases hlt : k < xs.length
    · obtain ⟨b, off, rfl, hbw, c0⟩ := hc k hlt
      cases hd : plB (nth 0 xs k) 100
      · have HF : Hid (nsB xs = false) := not_all_nth 0 (plB · 100) xs k hlt hd
        clear hc hall
        go_wp2_with (go_at_call 45; refine (isPlace_any _ _ _).mono ?_; rintro e w' ⟨rfl, rfl⟩)
        go_ret
        exact ⟨by rw [HF.out]; rfl, rfl⟩
      · have HA : Hid (∀ j, j < k + 1 → plB (nth 0 xs j) 100 = true) := so_far hall hd
        clear hc hall
        go_wp2_with (go_at_call 45; refine (isPlace_any _ _ _).mono ?_; rintro e w' ⟨rfl, rfl⟩)
        go_round
        case rel => exact ⟨k + 1, by omega, by go_num, HA.out⟩
        case measure => simp [intOf]; omega
    · have HF : Hid (nsB xs = true) := all_nth 0 (plB · 100) xs (fun j hj => hall j (by omega))
      clear hall hc
      go_wp2
      go_ret
      exact ⟨by rw [HF.out]; rfl, rfl⟩
set_option maxHeartbeats 400000 in
theorem cellsInForm_any (v : Value) (xs : List Int) (w : World) (h : IntsAt w v xs) :
    Calls Try.prog 83 #[v] w fun r w' => r = .returned (.bool (csB xs)) ∧ w' = w := by
  obtain ⟨a, cap, rfl, hm⟩ := h.shape
  have HI := (show Hid (IntsAt _ _ _) from h)
  clear h
  by_cases h5 : xs.length ≤ 3
  · have h5' : decide ((xs.length : Int) ≤ 3) = true := by simp; omega
    have HF : Hid (csB xs = nsB xs) := by simp [Hid, csB, nsB, h5]
    go_enter Try.func83, Try.ntmps83
    go_wp2_with (go_at_call 120; refine (numsInForm_any _ xs _ HI.out).mono ?_; rintro e w' ⟨rfl, rfl⟩)
    go_ret
    exact ⟨by rw [HF.out]; rfl, rfl⟩
  · have h5' : decide ((xs.length : Int) ≤ 3) = false := by simp; omega
    have HF : Hid (csB xs = false) := by simp [Hid, csB, h5]
    clear HI
    go_enter Try.func83, Try.ntmps83
    go_wp2
    go_ret
    exact ⟨by rw [HF.out]; rfl, rfl⟩
set_option maxHeartbeats 400000 in
theorem kidsInForm_any (v : Value) (xs : List Int) (body nb : Int) (w : World) (h : IntsAt w v xs) :
    Calls Try.prog 146 #[v, .int .i64 body, .int .i64 nb] w fun r w' => r = .returned (.bool (ksB xs body nb)) ∧ w' = w := by
  obtain ⟨a, cap, rfl, hm, hc⟩ := h
  by_cases h1 : xs.length < 1
  · have h1' : decide ((xs.length : Int) < 1) = true := by simp; omega
    have HF : Hid (ksB xs body nb = false) := by simp [Hid, ksB, inB]; omega
    clear hc h1
    go_enter Try.func146, Try.ntmps146
    go_wp2
    go_ret
    exact ⟨by rw [HF.out]; rfl, rfl⟩
  have h1' : decide ((xs.length : Int) < 1) = false := by simp; omega
  by_cases h2 : 2 < xs.length
  · have h2' : (2 : Int) < xs.length := by omega
    have HF : Hid (ksB xs body nb = false) := by simp [Hid, ksB, inB]; omega
    clear hc h1 h2
    go_enter Try.func146, Try.ntmps146
    go_wp2
    go_ret
    exact ⟨by rw [HF.out]; rfl, rfl⟩
  have h2' : ¬ (2 : Int) < xs.length := by omega
  go_enter Try.func146, Try.ntmps146
  go_wp2_with fail
  go_loop [19] (fun i => ∃ k : Nat, k ≤ xs.length ∧ i = .int .i64 k ∧ (∀ j, j < k → kidB body nb (nth 0 xs j) = true)) (fun i => xs.length - (intOf i).toNat)
  case atStart => exact ⟨0, Nat.zero_le _, rfl, fun j hj => absurd hj (Nat.not_lt_zero _)⟩
  case round =>
    obtain ⟨k, hk, rfl, hall⟩ := hrel
    by_cases hlt : k < xs.length
    · obtain ⟨b, off, rfl, hbw, c0⟩ := hc k hlt
      by_cases hd1 : nth 0 xs k ≤ body
      · have HF : Hid (ksB xs body nb = false) := by
          simp [Hid, ksB, not_all_nth 0 (kidB body nb) xs k hlt (by simp [kidB, inB]; omega)]
        have hd1' : decide (nth 0 xs k ≤ body) = true := by simpa using hd1
        clear hc hall h1'
        go_wp2
        go_ret
        exact ⟨by rw [HF.out]; rfl, rfl⟩
      have hd1' : decide (nth 0 xs k ≤ body) = false := by simpa using hd1
      by_cases hd2 : nb ≤ nth 0 xs k
      · have HF : Hid (ksB xs body nb = false) := by
          simp [Hid, ksB, not_all_nth 0 (kidB body nb) xs k hlt (by simp [kidB, inB]; omega)]
        clear hc hall h1' hd1
        go_wp2
        go_ret
        exact ⟨by rw [HF.out]; rfl, rfl⟩
      · have HA : Hid (∀ j, j < k + 1 → kidB body nb (nth 0 xs j) = true) := so_far hall (by simp [kidB, inB]; omega)
        clear hc hall h1' hd1
        go_wp2
        go_round
        case rel => exact ⟨k + 1, by omega, by go_num, HA.out⟩
        case measure => simp [intOf]; omega
    · have HF : Hid (ksB xs body nb = true) := by
        have := all_nth 0 (kidB body nb) xs (fun j hj => hall j (by omega))
        simp [Hid, ksB, this, inB]; omega
      clear hall hc h1'
      go_wp2
      go_ret
      exact ⟨by rw [HF.out]; rfl, rfl⟩
end Go.Proofs.Ytgbgjljflgbcaaa
