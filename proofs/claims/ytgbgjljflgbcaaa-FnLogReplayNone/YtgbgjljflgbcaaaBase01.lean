import Derived.Test.YtgbgjljflgbcaaaRows
import Derived.WalkKit
import Derived.WalkSpells
import Derived.WalkLawsBesides
import Derived.Deep.QuietTactic
import Derived.BigQuiet
import Derived.Deep.Light
import Derived.Deep.RegionWith
namespace Go.Proofs.Ytgbgjljflgbcaaa
open Go.RowKit
structure De where
  k : Int
  a : Int
  b : Int
structure Ac where
  k : Int
  ds : List De
  ks : List Int
  r : Int
structure Pr where
  cells : List Int
  bodies : List (List Ac)
def De.z : De := ⟨0, 0, 0⟩
def Ac.z : Ac := ⟨0, [], [], 0⟩
def nth {α : Type} (z : α) (l : List α) (i : Nat) : α := l.getD i z
def inB (n lo hi : Int) : Bool := decide (lo ≤ n ∧ n ≤ hi)
def plB (n e : Int) : Bool := decide (0 ≤ n ∧ n < e)
theorem in_pl (n e : Int) : inB n 0 (e - 1) = plB n e := by
  unfold inB plB; exact decide_eq_decide.2 (by omega)
theorem in_pl3 (n : Int) : inB n 0 2 = plB n 3 := by
  unfold inB plB; exact decide_eq_decide.2 (by omega)
theorem in_pl100 (n : Int) : inB n 0 99 = plB n 100 := by
  unfold inB plB; exact decide_eq_decide.2 (by omega)
def deB (d : De) (c : Int) : Bool :=
  if d.k = 1 then plB d.a 3 && plB d.b c
  else if d.k = 2 then plB d.a c && plB d.b 3
  else if d.k = 3 then plB d.a 3 && plB d.b 100
  else if d.k = 4 then plB d.a 3 && plB d.b 3
  else if d.k = 5 then plB d.a 3 && decide (d.b = 0)
  else false
def dsB (ds : List De) (c : Int) : Bool := decide (ds.length ≤ 5) && ds.all (deB · c)
def csB (cs : List Int) : Bool := decide (cs.length ≤ 3) && cs.all (plB · 100)
def kidB (body nb : Int) (k : Int) : Bool := inB k (body + 1) (nb - 1)
def ksB (ks : List Int) (body nb : Int) : Bool := inB ks.length 1 2 && ks.all (kidB body nb)
def acB (a : Ac) (nc body nb : Int) : Bool :=
  if a.k = 1 then decide (a.ks.length = 0) && decide (a.r = 0) && dsB a.ds nc
  else if a.k = 2 then decide (a.ds.length = 0) && decide (a.r = 0) && ksB a.ks body nb
  else if a.k = 3 then decide (a.ds.length = 0) && decide (a.ks.length = 0) && decide (a.r = 0)
  else if a.k = 4 then decide (a.ds.length = 0) && decide (a.ks.length = 0) && plB a.r 3
  else false
def boB (p : Pr) (i : Nat) : Bool := decide ((nth [] p.bodies i).length ≤ 4) && (nth [] p.bodies i).all (acB · p.cells.length i p.bodies.length)
def foB (p : Pr) : Bool := csB p.cells && inB p.bodies.length 1 4 && (List.range p.bodies.length).all (boB p)
def trKs (g : Nat → Nat) (ks : List Int) : Nat := (ks.map fun k => g k.toNat).sum
def trAs (g : Nat → Nat) (acts : List Ac) : Nat := (acts.map fun a => trKs g a.ks).sum
def tr (p : Pr) : Nat → Nat → Nat
  | 0, _ => 1
  | f + 1, i => 1 + trAs (tr p f) (nth [] p.bodies i)
def okB (p : Pr) : Bool := foB p && decide (tr p 4 0 ≤ 7)
theorem nth_eq {α : Type} (z : α) (l : List α) (i : Nat) (h : i < l.length) : nth z l i = l[i] := by simp [nth, h]
theorem nth_mem {α : Type} (z : α) (l : List α) (i : Nat) (h : i < l.length) : nth z l i ∈ l := by rw [nth_eq z l i h]; exact List.getElem_mem h
theorem all_nth {α : Type} (z : α) (p : α → Bool) (l : List α) (h : ∀ j, j < l.length → p (nth z l j) = true) : l.all p = true := by
  rw [List.all_eq_true]
  intro x hx
  obtain ⟨j, hj, rfl⟩ := List.getElem_of_mem hx
  rw [← nth_eq z l j hj]; exact h j hj
theorem nth_of_all {α : Type} (z : α) (p : α → Bool) (l : List α) (j : Nat) (hj : j < l.length) (h : l.all p = true) : p (nth z l j) = true := by
  rw [List.all_eq_true] at h
  exact h _ (nth_mem z l j hj)
theorem not_all_nth {α : Type} (z : α) (p : α → Bool) (l : List α) (j : Nat) (hj : j < l.length) (h : p (nth z l j) = false) : l.all p = false := by
  rw [nth_eq z l j hj] at h
  rw [List.all_eq_false]
  exact ⟨l[j], List.getElem_mem hj, by simp [h]⟩
theorem so_far {p : Nat → Prop} {k : Nat} (h : ∀ j, j < k → p j) (hk : p k) : ∀ j, j < k + 1 → p j := fun j hj => by
  rcases Nat.lt_succ_iff_lt_or_eq.1 hj with h1 | rfl
  · exact h j h1
  · exact hk
theorem take_nth {α : Type} (z : α) (l : List α) (k : Nat) (h : k < l.length) : l.take (k + 1) = l.take k ++ [nth z l k] := by
  rw [nth_eq z l k h]; exact List.take_succ_eq_append_getElem h
theorem below_after {B : Nat} {w x z : World} {o : Obj} (h : Below B w x) (hB : B ≤ x.heap.size) (h2 : Below (x.alloc o).heap.size (x.alloc o) z) : Below B w z :=
  h.trans (((Below.refl _ _).alloc hB o).trans (h2.mono (by simp; omega)))
theorem below_after2 {B : Nat} {w x z : World} {o o2 : Obj} (h : Below B w x) (hB : B ≤ x.heap.size) (h2 : Below ((x.alloc o).alloc o2).heap.size ((x.alloc o).alloc o2) z) : Below B w z :=
  h.trans ((((Below.refl _ _).alloc hB o).alloc (by simp; omega) o2).trans (h2.mono (by simp; omega)))
theorem below_then {B : Nat} {w x z : World} (h : Below B w x) (hB : B ≤ x.heap.size) (h2 : Below x.heap.size x z) : Below B w z :=
  h.trans (h2.mono hB)
theorem below_drewed {B : Nat} {w x z : World} (h : Below B w x) (hB : B ≤ x.heap.size) (h2 : Below x.drew.heap.size x.drew z) : Below B w z := h.drew.trans (h2.mono hB)
theorem bcell {W w1 : World} (hb : Below W.heap.size W w1) : (∀ b o, b < W.heap.size → w1.cell? ⟨b, o, none⟩ = W.cell? ⟨b, o, none⟩) ∧ (∀ b o, b < W.heap.size → w1.frozen? ⟨b, o, none⟩ = W.frozen? ⟨b, o, none⟩) :=
  ⟨fun b o h => hb.cell (p := ⟨b, o, none⟩) h, fun b o h => hb.frozen (p := ⟨b, o, none⟩) h⟩
def IntsAt (w : World) (v : Value) (xs : List Int) : Prop :=
  ∃ a cap, v = .slice a xs.length cap ∧ xs.length ≤ 9223372036854775807 ∧ ∀ i, i < xs.length → ∃ b off, a = some ⟨b, off, none⟩ ∧ b < w.heap.size ∧
    w.cell? ⟨b, off + i, none⟩ = some (.int .i64 (nth 0 xs i))
def DeedsAt (w : World) (v : Value) (ds : List De) : Prop :=
  ∃ a cap, v = .slice a ds.length cap ∧ ds.length ≤ 9223372036854775807 ∧ ∀ i, i < ds.length → ∃ b off, a = some ⟨b, off, none⟩ ∧ b < w.heap.size ∧
    w.cell? ⟨b, off + i * 3, none⟩ = some (.int .i64 (nth De.z ds i).k) ∧ w.cell? ⟨b, off + i * 3 + 1, none⟩ = some (.int .i64 (nth De.z ds i).a) ∧ w.cell? ⟨b, off + i * 3 + 2, none⟩ = some (.int .i64 (nth De.z ds i).b)
def ActsAt (w : World) (v : Value) (acts : List Ac) : Prop :=
  ∃ a cap, v = .slice a acts.length cap ∧ acts.length ≤ 9223372036854775807 ∧ ∀ i, i < acts.length → ∃ b off dv kv, a = some ⟨b, off, none⟩ ∧ b < w.heap.size ∧
    w.cell? ⟨b, off + i * 4, none⟩ = some (.int .i64 (nth Ac.z acts i).k) ∧ w.cell? ⟨b, off + i * 4 + 1, none⟩ = some dv ∧ w.cell? ⟨b, off + i * 4 + 2, none⟩ = some kv ∧ w.cell? ⟨b, off + i * 4 + 3, none⟩ = some (.int .i64 (nth Ac.z acts i).r) ∧
    DeedsAt w dv (nth Ac.z acts i).ds ∧ IntsAt w kv (nth Ac.z acts i).ks
def BodiesAt (w : World) (v : Value) (bs : List (List Ac)) : Prop :=
  ∃ a cap, v = .slice a bs.length cap ∧ bs.length ≤ 9223372036854775807 ∧ ∀ i, i < bs.length → ∃ b off av, a = some ⟨b, off, none⟩ ∧ b < w.heap.size ∧
    w.cell? ⟨b, off + i, none⟩ = some av ∧ ActsAt w av (nth [] bs i)
theorem IntsAt.mono {w w' : World} {v : Value} {xs : List Int} (h : IntsAt w v xs) (hb : Below w.heap.size w w') : IntsAt w' v xs := by
  obtain ⟨a, cap, rfl, hm, hc⟩ := h
  refine ⟨a, cap, rfl, hm, fun i hi => ?_⟩
  obtain ⟨b, off, rfl, hbw, c0⟩ := hc i hi
  exact ⟨b, off, rfl, Nat.lt_of_lt_of_le hbw hb.size, by rw [hb.cell (p := ⟨b, _, none⟩) hbw]; exact c0⟩
theorem DeedsAt.mono {w w' : World} {v : Value} {xs : List De} (h : DeedsAt w v xs) (hb : Below w.heap.size w w') : DeedsAt w' v xs := by
  obtain ⟨a, cap, rfl, hm, hc⟩ := h
  refine ⟨a, cap, rfl, hm, fun i hi => ?_⟩
  obtain ⟨b, off, rfl, hbw, c0, c1, c2⟩ := hc i hi
  rw [← hb.cell (p := ⟨b, _, none⟩) hbw] at c0 c1 c2
  exact ⟨b, off, rfl, Nat.lt_of_lt_of_le hbw hb.size, c0, c1, c2⟩
theorem ActsAt.mono {w w' : World} {v : Value} {xs : List Ac} (h : ActsAt w v xs) (hb : Below w.heap.size w w') : ActsAt w' v xs := by
  obtain ⟨a, cap, rfl, hm, hc⟩ := h
  refine ⟨a, cap, rfl, hm, fun i hi => ?_⟩
  obtain ⟨b, off, dv, kv, rfl, hbw, c0, c1, c2, c3, hd, hk⟩ := hc i hi
  rw [← hb.cell (p := ⟨b, _, none⟩) hbw] at c0 c1 c2 c3
  exact ⟨b, off, dv, kv, rfl, Nat.lt_of_lt_of_le hbw hb.size, c0, c1, c2, c3, hd.mono hb, hk.mono hb⟩
theorem BodiesAt.mono {w w' : World} {v : Value} {xs : List (List Ac)} (h : BodiesAt w v xs) (hb : Below w.heap.size w w') : BodiesAt w' v xs := by
  obtain ⟨a, cap, rfl, hm, hc⟩ := h
  refine ⟨a, cap, rfl, hm, fun i hi => ?_⟩
  obtain ⟨b, off, av, rfl, hbw, c0, ha⟩ := hc i hi
  rw [← hb.cell (p := ⟨b, _, none⟩) hbw] at c0
  exact ⟨b, off, av, rfl, Nat.lt_of_lt_of_le hbw hb.size, c0, ha.mono hb⟩
theorem IntsAt.shape {w : World} {v : Value} {xs : List Int} (h : IntsAt w v xs) : ∃ a cap, v = .slice a xs.length cap ∧ xs.length ≤ 9223372036854775807 := let ⟨a, c, h1, h2, _⟩ := h; ⟨a, c, h1, h2⟩
theorem DeedsAt.shape {w : World} {v : Value} {xs : List De} (h : DeedsAt w v xs) : ∃ a cap, v = .slice a xs.length cap ∧ xs.length ≤ 9223372036854775807 := let ⟨a, c, h1, h2, _⟩ := h; ⟨a, c, h1, h2⟩
theorem BodiesAt.shape {w : World} {v : Value} {xs : List (List Ac)} (h : BodiesAt w v xs) : ∃ a cap, v = .slice a xs.length cap ∧ xs.length ≤ 9223372036854775807 := let ⟨a, c, h1, h2, _⟩ := h; ⟨a, c, h1, h2⟩
end Go.Proofs.Ytgbgjljflgbcaaa

namespace Go.Proofs.Ytgbgjljflgbcaaa
open Go.RowKit
set_option maxHeartbeats 400000 in
theorem isPlace_any (n e : Int) (w : World) :
    Calls Try.prog 45 #[.int .i64 n, .int .i64 e] w fun r w' => r = .returned (.bool (plB n e)) ∧ w' = w := by
  by_cases h1 : 0 ≤ n
  · go_enter Try.func45, Try.ntmps45
    go_wp2
    go_ret
    exact ⟨by simp [plB]; try omega, rfl⟩
  · have h2 : decide (0 ≤ n) = false := by simpa using h1
    go_enter Try.func45, Try.ntmps45
    go_wp2
    go_ret
    exact ⟨by simp [plB]; try omega, rfl⟩
set_option maxHeartbeats 400000 in
theorem l6In_any (n lo hi : Int) (w : World) :
    Calls Try.prog 52 #[.int .i64 n, .int .i64 lo, .int .i64 hi] w fun r w' => r = .returned (.bool (inB n lo hi)) ∧ w' = w := by
  by_cases h1 : lo ≤ n
  · go_enter Try.func52, Try.ntmps52
    go_wp2
    go_ret
    exact ⟨by simp [inB]; try omega, rfl⟩
  · have h2 : decide (lo ≤ n) = false := by simpa using h1
    go_enter Try.func52, Try.ntmps52
    go_wp2
    go_ret
    exact ⟨by simp [inB]; try omega, rfl⟩
end Go.Proofs.Ytgbgjljflgbcaaa

namespace Go.Proofs.Ytgbgjljflgbcaaa
open Go.RowKit
end Go.Proofs.Ytgbgjljflgbcaaa

namespace Go.Proofs.Ytgbgjljflgbcaaa
open Go.RowKit
end Go.Proofs.Ytgbgjljflgbcaaa

namespace Go.Proofs.Ytgbgjljflgbcaaa
open Go.RowKit
end Go.Proofs.Ytgbgjljflgbcaaa

namespace Go.Proofs.Ytgbgjljflgbcaaa
open Go.RowKit
set_option maxHeartbeats 400000 in
theorem l1Deed_any (d : De) (c : Int) (w : World) (hc0 : 0 ≤ c) (hc1 : c ≤ 9223372036854775807) :
    Calls Try.prog 142 #[.agg #[.int .i64 d.k, .int .i64 d.a, .int .i64 d.b], .int .i64 c] w fun r w' => r = .returned (.bool (deB d c)) ∧ Below w.heap.size w w' := by
  obtain ⟨k, a, b⟩ := d
  dsimp only
  by_cases h1 : k = 1
  · subst h1
    cases hp : inB a 0 2
    all_goals
      have HP : Hid (plB a 3 = _) := (in_pl3 a).symm.trans hp
      go_enter Try.func142, Try.ntmps142
      go_wp2_with (go_at_call 52; refine (l6In_any _ _ _ _).mono ?_; rintro e w' ⟨rfl, rfl⟩)
      go_ret
      exact ⟨by simp [deB, HP.out, in_pl], (by repeat (first | exact Below.refl _ _ | refine Below.alloc ?_ (by simp; try omega) _ | refine Below.drew ?_ | refine Below.setCell ?_ (by simp; try omega) _))⟩
  by_cases h2 : k = 2
  · subst h2
    cases hp : inB a 0 (c - 1)
    all_goals
      have HP : Hid (plB a c = _) := (in_pl a c).symm.trans hp
      go_enter Try.func142, Try.ntmps142
      go_wp2_with (go_at_call 52; refine (l6In_any _ _ _ _).mono ?_; rintro e w' ⟨rfl, rfl⟩)
      go_ret
      exact ⟨by simp [deB, HP.out, in_pl3], (by repeat (first | exact Below.refl _ _ | refine Below.alloc ?_ (by simp; try omega) _ | refine Below.drew ?_ | refine Below.setCell ?_ (by simp; try omega) _))⟩
  by_cases h3 : k = 3
  · subst h3
    cases hp : inB a 0 2
    all_goals
      have HP : Hid (plB a 3 = _) := (in_pl3 a).symm.trans hp
      go_enter Try.func142, Try.ntmps142
      go_wp2_with (go_at_call 52; refine (l6In_any _ _ _ _).mono ?_; rintro e w' ⟨rfl, rfl⟩)
      go_ret
      exact ⟨by simp [deB, HP.out, in_pl100], (by repeat (first | exact Below.refl _ _ | refine Below.alloc ?_ (by simp; try omega) _ | refine Below.drew ?_ | refine Below.setCell ?_ (by simp; try omega) _))⟩
  by_cases h4 : k = 4
  · subst h4
    cases hp : inB a 0 2
    all_goals
      have HP : Hid (plB a 3 = _) := (in_pl3 a).symm.trans hp
      go_enter Try.func142, Try.ntmps142
      go_wp2_with (go_at_call 52; refine (l6In_any _ _ _ _).mono ?_; rintro e w' ⟨rfl, rfl⟩)
      go_ret
      exact ⟨by simp [deB, HP.out, in_pl3], (by repeat (first | exact Below.refl _ _ | refine Below.alloc ?_ (by simp; try omega) _ | refine Below.drew ?_ | refine Below.setCell ?_ (by simp; try omega) _))⟩
  have g1 : (k == 1) = false := by simp [h1]
  have g2 : (k == 2) = false := by simp [h2]
  have g3 : (k == 3) = false := by simp [h3]
  have g4 : (k == 4) = false := by simp [h4]
  by_cases h5 : k = 5
  · subst h5
    cases hp : inB a 0 2
    all_goals
      have HP : Hid (plB a 3 = _) := (in_pl3 a).symm.trans hp
      go_enter Try.func142, Try.ntmps142
      go_wp2_with (go_at_call 52; refine (l6In_any _ _ _ _).mono ?_; rintro e w' ⟨rfl, rfl⟩)
      go_ret
      exact ⟨by simp [deB, HP.out]; try rfl, (by repeat (first | exact Below.refl _ _ | refine Below.alloc ?_ (by simp; try omega) _ | refine Below.drew ?_ | refine Below.setCell ?_ (by simp; try omega) _))⟩
  · have g5 : (k == 5) = false := by simp [h5]
    have HF : Hid (deB ⟨k, a, b⟩ c = false) := by simp [Hid, deB, h1, h2, h3, h4, h5]
    clear h1 h2 h3 h4 h5
    go_enter Try.func142, Try.ntmps142
    go_wp2_with (go_at_call 52; refine (l6In_any _ _ _ _).mono ?_; rintro e w' ⟨rfl, rfl⟩)
    go_ret
    exact ⟨by rw [HF.out]; rfl, (by repeat (first | exact Below.refl _ _ | refine Below.alloc ?_ (by simp; try omega) _ | refine Below.drew ?_ | refine Below.setCell ?_ (by simp; try omega) _))⟩
set_option maxHeartbeats 400000 in
theorem l1Kids_any (v : Value) (xs : List Int) (body nb : Int) (w : World) (h : IntsAt w v xs) (hb0 : 0 ≤ body) (hb1 : body ≤ 4611686018427387904) (hn0 : 0 ≤ nb) (hn1 : nb ≤ 9223372036854775807) :
    Calls Try.prog 143 #[v, .int .i64 body, .int .i64 nb] w fun r w' => r = .returned (.bool (ksB xs body nb)) ∧ w' = w := by
  obtain ⟨a, cap, rfl, hm, hc⟩ := h
  go_enter Try.func143, Try.ntmps143
  go_wp2_with fail
  go_loop [7] (fun i => ∃ k : Nat, k ≤ xs.length ∧ i = .int .i64 k ∧ (∀ j, j < k → kidB body nb (nth 0 xs j) = true)) (fun i => xs.length - (intOf i).toNat)
  case atStart => exact ⟨0, Nat.zero_le _, rfl, fun j hj => absurd hj (Nat.not_lt_zero _)⟩
  case round =>
    obtain ⟨k, hk, rfl, hall⟩ := hrel
    by_cases hlt : k < xs.length
    · obtain ⟨b, off, rfl, hbw, c0⟩ := hc k hlt
      cases hd : inB (nth 0 xs k) (body + 1) (nb - 1)
      · have HF : Hid (ksB xs body nb = false) := by simp [Hid, ksB, not_all_nth 0 (kidB body nb) xs k hlt hd]
        clear hc hall
        go_wp2_with (go_at_call 52; refine (l6In_any _ _ _ _).mono ?_; rintro e w' ⟨rfl, rfl⟩)
        go_ret
        exact ⟨by rw [HF.out]; rfl, rfl⟩
      · have HA : Hid (∀ j, j < k + 1 → kidB body nb (nth 0 xs j) = true) := so_far hall hd
        clear hc hall
        go_wp2_with (go_at_call 52; refine (l6In_any _ _ _ _).mono ?_; rintro e w' ⟨rfl, rfl⟩)
        go_round
        case rel => exact ⟨k + 1, by omega, by go_num, HA.out⟩
        case measure => simp [intOf]; omega
    · have HF : Hid (ksB xs body nb = inB xs.length 1 2) := by
        have := all_nth 0 (kidB body nb) xs (fun j hj => hall j (by omega))
        simp [Hid, ksB, this]
      clear hall hc
      go_wp2_with (go_at_call 52; refine (l6In_any _ _ _ _).mono ?_; rintro e w' ⟨rfl, rfl⟩)
      go_ret
      exact ⟨by rw [HF.out]; rfl, rfl⟩
end Go.Proofs.Ytgbgjljflgbcaaa

namespace Go.Proofs.Ytgbgjljflgbcaaa
open Go.RowKit
end Go.Proofs.Ytgbgjljflgbcaaa

namespace Go.Proofs.Ytgbgjljflgbcaaa
open Go.RowKit
end Go.Proofs.Ytgbgjljflgbcaaa

namespace Go.Proofs.Ytgbgjljflgbcaaa
open Go.RowKit
end Go.Proofs.Ytgbgjljflgbcaaa

namespace Go.Proofs.Ytgbgjljflgbcaaa
open Go.RowKit
def Form (p : Pr) : Prop := p.bodies.length ≤ 4 ∧ ∀ i, i < p.bodies.length → boB p i = true
theorem acB_ks {a : Ac} {nc body nb : Int} (h : acB a nc body nb = true) : a.ks.length ≤ 2 ∧ ∀ k, k ∈ a.ks → body < k ∧ k < nb := by
  unfold acB at h
  split at h
  · simp at h; simp [h]
  split at h
  · simp [ksB, inB, kidB] at h
    exact ⟨by omega, fun k hk => by have := h.2.2 k hk; omega⟩
  split at h
  · simp at h; simp [h]
  split at h
  · simp at h; simp [h]
  · simp at h
theorem boB_acts {p : Pr} {i : Nat} (h : boB p i = true) : (nth [] p.bodies i).length ≤ 4 ∧ ∀ a, a ∈ nth [] p.bodies i → acB a p.cells.length i p.bodies.length = true := by
  simp [boB] at h
  exact ⟨h.1, h.2⟩
theorem trKs_le {g : Nat → Nat} {M : Nat} (hg : ∀ n, g n ≤ M) (ks : List Int) : trKs g ks ≤ ks.length * M := by
  induction ks with
  | nil => simp [trKs]
  | cons k ks ih => simp only [trKs, List.map_cons, List.sum_cons, List.length_cons] at *; have := hg k.toNat; rw [Nat.succ_mul]; omega
theorem trAs_le {g : Nat → Nat} {M : Nat} (hg : ∀ n, g n ≤ M) (acts : List Ac) (h : ∀ a, a ∈ acts → a.ks.length ≤ 2) : trAs g acts ≤ acts.length * (2 * M) := by
  induction acts with
  | nil => simp [trAs]
  | cons a acts ih =>
    have h1 := trKs_le hg a.ks
    have h2 := h a (by simp)
    have h3 := ih (fun b hb => h b (by simp [hb]))
    have h4 : a.ks.length * M ≤ 2 * M := Nat.mul_le_mul_right _ h2
    simp only [trAs, List.map_cons, List.sum_cons, List.length_cons] at *
    rw [Nat.succ_mul]; omega
theorem trKs_snoc (g : Nat → Nat) (ks : List Int) (k : Int) : trKs g (ks ++ [k]) = trKs g ks + g k.toNat := by simp [trKs]
theorem trAs_snoc (g : Nat → Nat) (acts : List Ac) (a : Ac) : trAs g (acts ++ [a]) = trAs g acts + trKs g a.ks := by simp [trAs]
theorem tr_le {p : Pr} (h : Form p) (f : Nat) : ∀ i, tr p f i ≤ 9 ^ f := by
  induction f with
  | zero => intro i; simp [tr]
  | succ f ih =>
    intro i
    by_cases hi : i < p.bodies.length
    · obtain ⟨h1, h2⟩ := boB_acts (h.2 i hi)
      have h3 := trAs_le ih (nth [] p.bodies i) (fun a ha => (acB_ks (h2 a ha)).1)
      have h4 : (nth [] p.bodies i).length * (2 * 9 ^ f) ≤ 4 * (2 * 9 ^ f) := Nat.mul_le_mul_right _ h1
      have h5 : 0 < 9 ^ f := Nat.pow_pos (by omega)
      simp only [tr, Nat.pow_succ]; omega
    · have : nth [] p.bodies i = [] := by simp [nth, List.getElem?_eq_none (by omega : p.bodies.length ≤ i)]
      have h5 : 0 < 9 ^ f := Nat.pow_pos (by omega)
      simp only [tr, this, trAs, List.map_nil, List.sum_nil, Nat.pow_succ]; omega
theorem pow_le4 {f : Nat} (h : f ≤ 4) : 9 ^ f ≤ 6561 := by
  have : 9 ^ f ≤ 9 ^ 4 := Nat.pow_le_pow_right (by omega) h
  simpa using this
theorem trKs_congr {g g' : Nat → Nat} {ks : List Int} (h : ∀ k, k ∈ ks → g k.toNat = g' k.toNat) : trKs g ks = trKs g' ks := by
  unfold trKs; rw [List.map_congr_left h]
theorem trAs_congr {g g' : Nat → Nat} {acts : List Ac} (h : ∀ a, a ∈ acts → ∀ k, k ∈ a.ks → g k.toNat = g' k.toNat) : trAs g acts = trAs g' acts := by
  unfold trAs; rw [List.map_congr_left fun a ha => trKs_congr (h a ha)]
theorem tr_more {p : Pr} (h : Form p) (f : Nat) : ∀ i, p.bodies.length ≤ f + i → i < p.bodies.length → tr p (f + 1) i = tr p f i := by
  induction f with
  | zero => intro i h1 h2; omega
  | succ f ih =>
    intro i h1 h2
    obtain ⟨h3, h4⟩ := boB_acts (h.2 i h2)
    rw [tr, tr]
    rw [trAs_congr fun a ha k hk => ?_]
    have := (acB_ks (h4 a ha)).2 k hk
    exact ih k.toNat (by omega) (by omega)
theorem tr_four {p : Pr} (h : Form p) (i : Nat) (hi : i < p.bodies.length) : tr p 4 i = 1 + trAs (tr p 4) (nth [] p.bodies i) := by
  rw [← tr_more h 4 i (by have := h.1; omega) hi, tr]
end Go.Proofs.Ytgbgjljflgbcaaa

namespace Go.Proofs.Ytgbgjljflgbcaaa
open Go.RowKit
end Go.Proofs.Ytgbgjljflgbcaaa

namespace Go.Proofs.Ytgbgjljflgbcaaa
open Go.RowKit
theorem foB_form {p : Pr} (h : foB p = true) : Form p ∧ 1 ≤ p.bodies.length := by
  simp [foB, inB] at h
  exact ⟨⟨by omega, fun i hi => h.2 i hi⟩, by omega⟩
end Go.Proofs.Ytgbgjljflgbcaaa

namespace Go.Proofs.Ytgbgjljflgbcaaa
open Go.RowKit
set_option maxHeartbeats 1000000 in
theorem l1Act_1 (x : Ac) (dv kv cv bv : Value) (cs : List Int) (bs : List (List Ac)) (body : Int) (w : World) (hd : DeedsAt w dv x.ds) (hk : IntsAt w kv x.ks) (hc : IntsAt w cv cs) (hB : BodiesAt w bv bs)
    (h1 : x.k = 1) (h2 : x.ks.length = 0) (h3 : x.r = 0) :
    Calls Try.prog 119 #[.agg #[cv, bv], .int .i64 body, .agg #[.int .i64 x.k, dv, kv, .int .i64 x.r]] w fun r w' => r = .returned (.bool (dsB x.ds cs.length)) ∧ Below w.heap.size w w' := by
  obtain ⟨ac, cc, rfl, hmc⟩ := hc.shape
  obtain ⟨ab, cb, rfl, hmb⟩ := hB.shape
  obtain ⟨ad, cd, rfl, hmd, hds⟩ := id hd
  obtain ⟨ak, ck, rfl, hmk⟩ := hk.shape
  rw [h1, h2, h3]
  clear hc hB hk h1 h2 h3
  generalize x.ds = ds at *
  go_enter Try.func119, Try.ntmps119
  go_wp2_with fail
  go_loopw [7] (fun q w' => ∃ k : Nat, k ≤ ds.length ∧ q = .int .i64 k ∧ Below ((w.alloc (.cells #[.slice ac cs.length cc, .slice ab bs.length cb] 26)).alloc (.cells #[.int .i64 1, .slice ad ds.length cd, .slice ak 0 ck, .int .i64 0] 122)).heap.size ((w.alloc (.cells #[.slice ac cs.length cc, .slice ab bs.length cb] 26)).alloc (.cells #[.int .i64 1, .slice ad ds.length cd, .slice ak 0 ck, .int .i64 0] 122)) w' ∧ (∀ j, j < k → deB (nth De.z ds j) cs.length = true)) (fun q _ => ds.length - (intOf q).toNat)
  case atStart => exact ⟨0, Nat.zero_le _, rfl, Below.refl _ _, fun j hj => absurd hj (Nat.not_lt_zero _)⟩
  case round =>
    obtain ⟨k, hk, rfl, hb, hall⟩ := hrel
    have hbw' : Below w.heap.size w _ := below_after2 (Below.refl _ _) (Nat.le_refl _) hb
    have e0 : wr.cell? ⟨w.heap.size, 0, none⟩ = some (.slice ac cs.length cc) := by rw [hb.cell (p := ⟨w.heap.size, 0, none⟩) (by simp; omega)]; simp [go_sem]
    have e1 : wr.cell? ⟨w.heap.size + 1, 1, none⟩ = some (.slice ad ds.length cd) := by rw [hb.cell (p := ⟨w.heap.size + 1, 1, none⟩) (by simp)]; simp [go_sem]
    by_cases hlt : k < ds.length
    · obtain ⟨b2, off2, rfl, hb2, d0, d1, d2⟩ := hds k hlt
      rw [← hbw'.cell (p := ⟨b2, _, none⟩) hb2] at d0 d1 d2
      clear hds
      cases hde : deB (nth De.z ds k) cs.length
      · have HF : Hid (dsB ds cs.length = false) := by simp [Hid, dsB, not_all_nth De.z (deB · cs.length) ds k hlt hde]
        have HE := (show Hid _ from hde)
        clear hde hall
        go_wp2_with fail
        go_region_with (go_at_call 142; refine (l1Deed_any (nth De.z ds k) _ _ (by omega) (by omega)).mono ?_; rintro e w1 ⟨rfl, hb1⟩)
        all_goals
          have HB : Hid (Below w.heap.size w w1) := below_drewed hbw' hbw'.size hb1
          rw [HE.out]
          clear hb1 hb hbw' e0 e1 d0 d1 d2
          go_wp2_with fail
          go_ret
          exact ⟨by rw [HF.out]; rfl, HB.out⟩
      · have HA : Hid (∀ j, j < k + 1 → deB (nth De.z ds j) cs.length = true) := so_far hall hde
        have HE := (show Hid _ from hde)
        clear hde hall
        go_wp2_with fail
        go_region_with (go_at_call 142; refine (l1Deed_any (nth De.z ds k) _ _ (by omega) (by omega)).mono ?_; rintro e w1 ⟨rfl, hb1⟩)
        all_goals
          have HB : Hid (Below ((w.alloc (.cells #[.slice ac cs.length cc, .slice ab bs.length cb] 26)).alloc (.cells #[.int .i64 1, .slice (some ⟨b2, off2, none⟩) ds.length cd, .slice ak 0 ck, .int .i64 0] 122)).heap.size ((w.alloc (.cells #[.slice ac cs.length cc, .slice ab bs.length cb] 26)).alloc (.cells #[.int .i64 1, .slice (some ⟨b2, off2, none⟩) ds.length cd, .slice ak 0 ck, .int .i64 0] 122)) w1) := below_drewed hb hb.size hb1
          rw [HE.out]
          clear hb1 hb hbw' e0 e1 d0 d1 d2
          go_wp2_with fail
          go_roundw
          case rel => exact ⟨k + 1, by omega, by go_num, HB.out, HA.out⟩
          case measure => simp [intOf]; omega
    · have HA : Hid (dsB ds cs.length = decide (ds.length ≤ 5)) := by
        have := all_nth De.z (deB · cs.length) ds (fun j hj => hall j (by omega))
        simp [Hid, dsB, this]
      clear hall hds hb
      go_wp2_with fail
      go_ret
      exact ⟨by rw [HA.out]; simp; try omega, hbw'⟩
def restB (k r : Int) (nd nk : Nat) : Bool :=
  if k = 3 then decide (nd = 0) && decide (nk = 0) && decide (r = 0)
  else if k = 4 then decide (nd = 0) && decide (nk = 0) && plB r 3
  else false
set_option maxHeartbeats 1000000 in
theorem l1Act_rest (k r : Int) (nd nk nc nb : Nat) (ad ak ac ab : Option Addr) (cd ck cc cb : Nat) (body : Int) (w : World)
    (h1 : ¬ (k = 1 ∧ nk = 0 ∧ r = 0)) (h2 : ¬ (k = 2 ∧ nd = 0 ∧ r = 0)) :
    Calls Try.prog 119 #[.agg #[.slice ac nc cc, .slice ab nb cb], .int .i64 body, .agg #[.int .i64 k, .slice ad nd cd, .slice ak nk ck, .int .i64 r]] w fun q w' => q = .returned (.bool (restB k r nd nk)) ∧ Below w.heap.size w w' := by
  have fd : decide ((0 : Int) < (nd : Int)) = !decide (nd = 0) := by by_cases h : nd = 0 <;> simp [h]; omega
  have fk : decide ((0 : Int) < (nk : Int)) = !decide (nk = 0) := by by_cases h : nk = 0 <;> simp [h]; omega
  have fr : (r != 0) = !decide (r = 0) := by by_cases h : r = 0 <;> simp [h]
  by_cases g1 : k = 1
  · subst g1
    have HF : Hid (restB 1 r nd nk = false) := by simp [Hid, restB]
    by_cases gk : nk = 0
    · have gr : r ≠ 0 := by omega
      simp only [gr, decide_false, Bool.not_false] at fr
      clear h1 h2 fd fk gr
      subst gk
      go_enter Try.func119, Try.ntmps119
      go_wp2_with fail
      go_ret
      exact ⟨by rw [HF.out]; rfl, (by repeat (first | exact Below.refl _ _ | refine Below.alloc ?_ (by simp; try omega) _ | refine Below.drew ?_ | refine Below.setCell ?_ (by simp; try omega) _))⟩
    · have fk' : (0 : Int) < (nk : Int) := by omega
      clear h1 h2 fd fr fk gk
      go_enter Try.func119, Try.ntmps119
      go_wp2_with fail
      go_ret
      exact ⟨by rw [HF.out]; rfl, (by repeat (first | exact Below.refl _ _ | refine Below.alloc ?_ (by simp; try omega) _ | refine Below.drew ?_ | refine Below.setCell ?_ (by simp; try omega) _))⟩
  by_cases g2 : k = 2
  · subst g2
    have HF : Hid (restB 2 r nd nk = false) := by simp [Hid, restB]
    by_cases gk : nd = 0
    · have gr : r ≠ 0 := by omega
      simp only [gr, decide_false, Bool.not_false] at fr
      clear h1 h2 fd fk gr
      subst gk
      go_enter Try.func119, Try.ntmps119
      go_wp2_with fail
      go_ret
      exact ⟨by rw [HF.out]; rfl, (by repeat (first | exact Below.refl _ _ | refine Below.alloc ?_ (by simp; try omega) _ | refine Below.drew ?_ | refine Below.setCell ?_ (by simp; try omega) _))⟩
    · have fd' : (0 : Int) < (nd : Int) := by omega
      clear h1 h2 fk fr fd gk
      go_enter Try.func119, Try.ntmps119
      go_wp2_with fail
      go_ret
      exact ⟨by rw [HF.out]; rfl, (by repeat (first | exact Below.refl _ _ | refine Below.alloc ?_ (by simp; try omega) _ | refine Below.drew ?_ | refine Below.setCell ?_ (by simp; try omega) _))⟩
  clear h1 h2
  by_cases gd : nd = 0
  case neg =>
    have HF : Hid (restB k r nd nk = false) := by simp [Hid, restB, gd]
    have fd' : (0 : Int) < (nd : Int) := by omega
    have n1 : (k != 1) = true := by simp [g1]
    clear fk fr fd gd g1 g2
    go_enter Try.func119, Try.ntmps119
    go_wp2_with fail
    go_ret
    exact ⟨by rw [HF.out]; rfl, (by repeat (first | exact Below.refl _ _ | refine Below.alloc ?_ (by simp; try omega) _ | refine Below.drew ?_ | refine Below.setCell ?_ (by simp; try omega) _))⟩
  subst gd
  clear fd
  by_cases gk : nk = 0
  case neg =>
    have HF : Hid (restB k r 0 nk = false) := by simp [Hid, restB, gk]
    have fk' : (0 : Int) < (nk : Int) := by omega
    have n1 : (k != 1) = true := by simp [g1]
    have n2 : (k != 2) = true := by simp [g2]
    clear fr fk gk g1 g2
    go_enter Try.func119, Try.ntmps119
    go_wp2_with fail
    go_ret
    exact ⟨by rw [HF.out]; rfl, (by repeat (first | exact Below.refl _ _ | refine Below.alloc ?_ (by simp; try omega) _ | refine Below.drew ?_ | refine Below.setCell ?_ (by simp; try omega) _))⟩
  subst gk
  clear fk
  by_cases g4 : k = 4
  · subst g4
    have HF : Hid (restB 4 r 0 0 = inB r 0 2) := by simp [Hid, restB, in_pl3]
    clear fr g1 g2
    go_enter Try.func119, Try.ntmps119
    go_wp2_with (go_at_call 52; refine (l6In_any _ _ _ _).mono ?_; rintro e w' ⟨rfl, rfl⟩)
    go_ret
    exact ⟨by rw [HF.out]; rfl, (by repeat (first | exact Below.refl _ _ | refine Below.alloc ?_ (by simp; try omega) _ | refine Below.drew ?_ | refine Below.setCell ?_ (by simp; try omega) _))⟩
  by_cases gr : r = 0
  · subst gr
    clear fr
    by_cases g3 : k = 3
    · subst g3
      go_enter Try.func119, Try.ntmps119
      go_wp2_with fail
      go_ret
      exact ⟨by simp [restB], (by repeat (first | exact Below.refl _ _ | refine Below.alloc ?_ (by simp; try omega) _ | refine Below.drew ?_ | refine Below.setCell ?_ (by simp; try omega) _))⟩
    · have HF : Hid (restB k 0 0 0 = false) := by simp [Hid, restB, g3, g4]
      have n1 : (k != 1) = true := by simp [g1]
      have n2 : (k != 2) = true := by simp [g2]
      have n4 : (k != 4) = true := by simp [g4]
      have q1 : (k == 1) = false := by simp [g1]
      have q2 : (k == 2) = false := by simp [g2]
      have q3 : (k == 3) = false := by simp [g3]
      have q4 : (k == 4) = false := by simp [g4]
      clear g1 g2 g3 g4
      go_enter Try.func119, Try.ntmps119
      go_wp2_with fail
      go_ret
      exact ⟨by rw [HF.out]; rfl, (by repeat (first | exact Below.refl _ _ | refine Below.alloc ?_ (by simp; try omega) _ | refine Below.drew ?_ | refine Below.setCell ?_ (by simp; try omega) _))⟩
  · have HF : Hid (restB k r 0 0 = false) := by simp [Hid, restB, gr, g4]
    simp only [gr, decide_false, Bool.not_false] at fr
    have n1 : (k != 1) = true := by simp [g1]
    have n2 : (k != 2) = true := by simp [g2]
    have n4 : (k != 4) = true := by simp [g4]
    clear g1 g2 g4 gr
    go_enter Try.func119, Try.ntmps119
    go_wp2_with fail
    go_ret
    exact ⟨by rw [HF.out]; rfl, (by repeat (first | exact Below.refl _ _ | refine Below.alloc ?_ (by simp; try omega) _ | refine Below.drew ?_ | refine Below.setCell ?_ (by simp; try omega) _))⟩
end Go.Proofs.Ytgbgjljflgbcaaa
