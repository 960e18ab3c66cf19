import Derived.Test.YtgbgjljflgbcaaaNe04
namespace Go.Proofs.Ytgbgjljflgbcaaa
open Go.RowKit
def Blk (w : World) (g n : Nat) : Prop := g < w.heap.size ∧ ∀ j, j < n → (∃ v, w.cell? ⟨g, j, none⟩ = some v) ∧ w.frozen? ⟨g, j, none⟩ = false
theorem Blk.new (w : World) (M : Array Value) (t : TypeId) : Blk (w.alloc (.cells M t)) w.heap.size M.size :=
  ⟨by simp, fun j hj => ⟨⟨M[j], by simp [hj]⟩, by simp⟩⟩
theorem Blk.below {w w' : World} {g n : Nat} (h : Blk w g n) (hb : Below w.heap.size w w') : Blk w' g n :=
  ⟨Nat.lt_of_lt_of_le h.1 hb.size, fun j hj => ⟨by rw [hb.cell (p := ⟨g, j, none⟩) h.1]; exact (h.2 j hj).1, by rw [hb.frozen (p := ⟨g, j, none⟩) h.1]; exact (h.2 j hj).2⟩⟩
theorem cell_set_same {w : World} {g n : Nat} (h : Blk w g n) (i : Nat) (hi : i < n) (x : Value) : (w.setCell ⟨g, i, none⟩ x).cell? ⟨g, i, none⟩ = some x := by
  obtain ⟨v, hv⟩ := (h.2 i hi).1
  exact World.cell?_setCell_same w ⟨g, i, none⟩ x hv
theorem cell_set_other (w : World) (g i : Nat) (x : Value) (a : Addr) (h : a ≠ ⟨g, i, none⟩) : (w.setCell ⟨g, i, none⟩ x).cell? a = w.cell? a :=
  World.cell?_setCell_other w ⟨g, i, none⟩ a x (fun e => h e.symm)
theorem Blk.set {w : World} {g n : Nat} (h : Blk w g n) (i : Nat) (x : Value) : Blk (w.setCell ⟨g, i, none⟩ x) g n := by
  refine ⟨by simpa using h.1, fun j hj => ⟨?_, by simpa using (h.2 j hj).2⟩⟩
  obtain ⟨v, hv⟩ := (h.2 j hj).1
  by_cases e : j = i
  · subst e; exact ⟨x, World.cell?_setCell_same w ⟨g, j, none⟩ x hv⟩
  · exact ⟨v, by rw [cell_set_other w g i x ⟨g, j, none⟩ (fun q => e (by injection q))]; exact hv⟩
theorem set3_in {w : World} {g n : Nat} (h : Blk w g n) (i : Nat) (hi : i + 2 < n) (a b c : Value) :
    (((w.setCell ⟨g, i, none⟩ a).setCell ⟨g, i + 1, none⟩ b).setCell ⟨g, i + 2, none⟩ c).cell? ⟨g, i, none⟩ = some a ∧
    (((w.setCell ⟨g, i, none⟩ a).setCell ⟨g, i + 1, none⟩ b).setCell ⟨g, i + 2, none⟩ c).cell? ⟨g, i + 1, none⟩ = some b ∧
    (((w.setCell ⟨g, i, none⟩ a).setCell ⟨g, i + 1, none⟩ b).setCell ⟨g, i + 2, none⟩ c).cell? ⟨g, i + 2, none⟩ = some c := by
  refine ⟨?_, ?_, ?_⟩
  · rw [cell_set_other _ _ _ _ _ (by intro e; injection e; omega), cell_set_other _ _ _ _ _ (by intro e; injection e; omega)]; exact cell_set_same h i (by omega) a
  · rw [cell_set_other _ _ _ _ _ (by intro e; injection e; omega)]; exact cell_set_same (h.set i a) (i + 1) (by omega) b
  · exact cell_set_same ((h.set i a).set (i + 1) b) (i + 2) (by omega) c
theorem make_any {P : Program} (t e : TypeId) (z : Value) (size bytes : Nat) (ht : P.underlying t = some (.slice e)) (hinfo : (P.info? e).map (fun i => (i.zero, i.size, i.bytes)) = some (some z, size, bytes))
    (n : Nat) (hn : bytes * n ≤ 281474976710656) (h63 : n ≤ 9223372036854775807) :
    ∃ M : Array Value, M.size = n * size ∧ ∀ w : World, (Instr.makeSlice t (.int .i64 (n : Int)) (.int .i64 (n : Int))).run P w = .ok (.slice (some ⟨w.heap.size, 0, none⟩) n n) (w.alloc (.cells M e)) := by
  obtain ⟨i, hi, hzz⟩ := Option.map_eq_some_iff.1 hinfo
  simp only [Prod.mk.injEq] at hzz
  obtain ⟨hz, hs, hb⟩ := hzz
  refine ⟨madeCells z.cells (n * size), size_madeCells _ _, fun w => ?_⟩
  have hb' : (i.bytes : Int) * (n : Int) ≤ 281474976710656 := by
    have h : ((i.bytes * n : Nat) : Int) ≤ 281474976710656 := by rw [hb]; omega
    rwa [Int.natCast_mul] at h
  have hr := run_make (P := P) w t e i z ht hi hz .i64 .i64 n n (by omega) (Int.le_refl _) hb' (by omega)
  simp only [Int.toNat_natCast, hs] at hr
  exact hr
theorem Try.info_int : (Try.prog.info? 3).map (fun i => (i.zero, i.size, i.bytes)) = some (some (.int .i64 0), 1, 8) := by kernel_rfl
theorem Try.info_deed : (Try.prog.info? 125).map (fun i => (i.zero, i.size, i.bytes)) = some (some (.agg #[.int .i64 0, .int .i64 0, .int .i64 0]), 3, 24) := by kernel_rfl
theorem Try.info_act : (Try.prog.info? 122).map (fun i => (i.zero, i.size, i.bytes)) = some (some (.agg #[.int .i64 0, .slice none 0 0, .slice none 0 0, .int .i64 0]), 4, 64) := by kernel_rfl
theorem Try.info_acts : (Try.prog.info? 113).map (fun i => (i.zero, i.size, i.bytes)) = some (some (.slice none 0 0), 1, 24) := by kernel_rfl
def IntsOn (S : Nat → Prop) (w : World) (v : Value) (xs : List Int) : Prop :=
  ∃ a cap, v = .slice a xs.length cap ∧ xs.length ≤ 9223372036854775807 ∧ ∀ i, i < xs.length → ∃ b off, a = some ⟨b, off, none⟩ ∧ S b ∧ b < w.heap.size ∧
    w.cell? ⟨b, off + i, none⟩ = some (.int .i64 (nth 0 xs i))
def DeedsOn (S : Nat → Prop) (w : World) (v : Value) (ds : List De) : Prop :=
  ∃ a cap, v = .slice a ds.length cap ∧ ds.length ≤ 9223372036854775807 ∧ ∀ i, i < ds.length → ∃ b off, a = some ⟨b, off, none⟩ ∧ S b ∧ b < w.heap.size ∧
    w.cell? ⟨b, off + i * 3, none⟩ = some (.int .i64 (nth De.z ds i).k) ∧ w.cell? ⟨b, off + i * 3 + 1, none⟩ = some (.int .i64 (nth De.z ds i).a) ∧ w.cell? ⟨b, off + i * 3 + 2, none⟩ = some (.int .i64 (nth De.z ds i).b)
def ActsOn (S : Nat → Prop) (w : World) (v : Value) (acts : List Ac) : Prop :=
  ∃ a cap, v = .slice a acts.length cap ∧ acts.length ≤ 9223372036854775807 ∧ ∀ i, i < acts.length → ∃ b off dv kv, a = some ⟨b, off, none⟩ ∧ S b ∧ b < w.heap.size ∧
    w.cell? ⟨b, off + i * 4, none⟩ = some (.int .i64 (nth Ac.z acts i).k) ∧ w.cell? ⟨b, off + i * 4 + 1, none⟩ = some dv ∧ w.cell? ⟨b, off + i * 4 + 2, none⟩ = some kv ∧ w.cell? ⟨b, off + i * 4 + 3, none⟩ = some (.int .i64 (nth Ac.z acts i).r) ∧
    DeedsOn S w dv (nth Ac.z acts i).ds ∧ IntsOn S w kv (nth Ac.z acts i).ks
def BodiesOn (S : Nat → Prop) (w : World) (v : Value) (bs : List (List Ac)) : Prop :=
  ∃ a cap, v = .slice a bs.length cap ∧ bs.length ≤ 9223372036854775807 ∧ ∀ i, i < bs.length → ∃ b off av, a = some ⟨b, off, none⟩ ∧ S b ∧ b < w.heap.size ∧
    w.cell? ⟨b, off + i, none⟩ = some av ∧ ActsOn S w av (nth [] bs i)
structure Kept (S : Nat → Prop) (w w' : World) : Prop where
  size : w.heap.size ≤ w'.heap.size
  cell : ∀ b o, S b → b < w.heap.size → w'.cell? ⟨b, o, none⟩ = w.cell? ⟨b, o, none⟩
theorem Kept.trans {S : Nat → Prop} {a b c : World} (h : Kept S a b) (k : Kept S b c) : Kept S a c :=
  ⟨Nat.le_trans h.size k.size, fun x o hx hs => (k.cell x o hx (Nat.lt_of_lt_of_le hs h.size)).trans (h.cell x o hx hs)⟩
theorem Kept.below {S : Nat → Prop} {w w' : World} (h : Below w.heap.size w w') : Kept S w w' := ⟨h.size, fun b o _ hb => h.cell (p := ⟨b, o, none⟩) hb⟩
theorem Kept.set {S : Nat → Prop} (w : World) (g i : Nat) (x : Value) (hg : ¬ S g) : Kept S w (w.setCell ⟨g, i, none⟩ x) :=
  ⟨by simp, fun b o hb _ => cell_set_other w g i x ⟨b, o, none⟩ (fun e => hg (by injection e with e1; exact e1 ▸ hb))⟩
theorem IntsOn.kept {S : Nat → Prop} {w w' : World} {v : Value} {xs : List Int} (h : IntsOn S w v xs) (hb : Kept S w w') : IntsOn S w' v xs := by
  obtain ⟨a, cap, rfl, hm, hc⟩ := h
  refine ⟨a, cap, rfl, hm, fun i hi => ?_⟩
  obtain ⟨b, off, rfl, hS, hbw, c0⟩ := hc i hi
  exact ⟨b, off, rfl, hS, Nat.lt_of_lt_of_le hbw hb.size, by rw [hb.cell b _ hS hbw]; exact c0⟩
theorem DeedsOn.kept {S : Nat → Prop} {w w' : World} {v : Value} {xs : List De} (h : DeedsOn S w v xs) (hb : Kept S w w') : DeedsOn S w' v xs := by
  obtain ⟨a, cap, rfl, hm, hc⟩ := h
  refine ⟨a, cap, rfl, hm, fun i hi => ?_⟩
  obtain ⟨b, off, rfl, hS, hbw, c0, c1, c2⟩ := hc i hi
  rw [← hb.cell b _ hS hbw] at c0 c1 c2
  exact ⟨b, off, rfl, hS, Nat.lt_of_lt_of_le hbw hb.size, c0, c1, c2⟩
theorem ActsOn.kept {S : Nat → Prop} {w w' : World} {v : Value} {xs : List Ac} (h : ActsOn S w v xs) (hb : Kept S w w') : ActsOn S w' v xs := by
  obtain ⟨a, cap, rfl, hm, hc⟩ := h
  refine ⟨a, cap, rfl, hm, fun i hi => ?_⟩
  obtain ⟨b, off, dv, kv, rfl, hS, hbw, c0, c1, c2, c3, hd, hk⟩ := hc i hi
  rw [← hb.cell b _ hS hbw] at c0 c1 c2 c3
  exact ⟨b, off, dv, kv, rfl, hS, Nat.lt_of_lt_of_le hbw hb.size, c0, c1, c2, c3, hd.kept hb, hk.kept hb⟩
theorem BodiesOn.kept {S : Nat → Prop} {w w' : World} {v : Value} {xs : List (List Ac)} (h : BodiesOn S w v xs) (hb : Kept S w w') : BodiesOn S w' v xs := by
  obtain ⟨a, cap, rfl, hm, hc⟩ := h
  refine ⟨a, cap, rfl, hm, fun i hi => ?_⟩
  obtain ⟨b, off, av, rfl, hS, hbw, c0, ha⟩ := hc i hi
  rw [← hb.cell b _ hS hbw] at c0
  exact ⟨b, off, av, rfl, hS, Nat.lt_of_lt_of_le hbw hb.size, c0, ha.kept hb⟩
theorem IntsOn.wide {S S' : Nat → Prop} (hS : ∀ b, S b → S' b) {w : World} {v : Value} {xs : List Int} (h : IntsOn S w v xs) : IntsOn S' w v xs := by
  obtain ⟨a, cap, rfl, hm, hc⟩ := h
  refine ⟨a, cap, rfl, hm, fun i hi => ?_⟩
  obtain ⟨b, off, e, h1, h2⟩ := hc i hi
  exact ⟨b, off, e, hS b h1, h2⟩
theorem DeedsOn.wide {S S' : Nat → Prop} (hS : ∀ b, S b → S' b) {w : World} {v : Value} {xs : List De} (h : DeedsOn S w v xs) : DeedsOn S' w v xs := by
  obtain ⟨a, cap, rfl, hm, hc⟩ := h
  refine ⟨a, cap, rfl, hm, fun i hi => ?_⟩
  obtain ⟨b, off, e, h1, h2⟩ := hc i hi
  exact ⟨b, off, e, hS b h1, h2⟩
theorem ActsOn.wide {S S' : Nat → Prop} (hS : ∀ b, S b → S' b) {w : World} {v : Value} {xs : List Ac} (h : ActsOn S w v xs) : ActsOn S' w v xs := by
  obtain ⟨a, cap, rfl, hm, hc⟩ := h
  refine ⟨a, cap, rfl, hm, fun i hi => ?_⟩
  obtain ⟨b, off, dv, kv, e, h1, h2, h3, h4, h5, h6, h7, h8⟩ := hc i hi
  exact ⟨b, off, dv, kv, e, hS b h1, h2, h3, h4, h5, h6, h7.wide hS, h8.wide hS⟩
theorem BodiesOn.wide {S S' : Nat → Prop} (hS : ∀ b, S b → S' b) {w : World} {v : Value} {xs : List (List Ac)} (h : BodiesOn S w v xs) : BodiesOn S' w v xs := by
  obtain ⟨a, cap, rfl, hm, hc⟩ := h
  refine ⟨a, cap, rfl, hm, fun i hi => ?_⟩
  obtain ⟨b, off, av, e, h1, h2, h3, h4⟩ := hc i hi
  exact ⟨b, off, av, e, hS b h1, h2, h3, h4.wide hS⟩
theorem IntsOn.at {S : Nat → Prop} {w : World} {v : Value} {xs : List Int} (h : IntsOn S w v xs) : IntsAt w v xs := by
  obtain ⟨a, cap, rfl, hm, hc⟩ := h
  refine ⟨a, cap, rfl, hm, fun i hi => ?_⟩
  obtain ⟨b, off, e, _, h2⟩ := hc i hi
  exact ⟨b, off, e, h2⟩
theorem DeedsOn.at {S : Nat → Prop} {w : World} {v : Value} {xs : List De} (h : DeedsOn S w v xs) : DeedsAt w v xs := by
  obtain ⟨a, cap, rfl, hm, hc⟩ := h
  refine ⟨a, cap, rfl, hm, fun i hi => ?_⟩
  obtain ⟨b, off, e, _, h2⟩ := hc i hi
  exact ⟨b, off, e, h2⟩
theorem ActsOn.at {S : Nat → Prop} {w : World} {v : Value} {xs : List Ac} (h : ActsOn S w v xs) : ActsAt w v xs := by
  obtain ⟨a, cap, rfl, hm, hc⟩ := h
  refine ⟨a, cap, rfl, hm, fun i hi => ?_⟩
  obtain ⟨b, off, dv, kv, e, _, h2, h3, h4, h5, h6, h7, h8⟩ := hc i hi
  exact ⟨b, off, dv, kv, e, h2, h3, h4, h5, h6, h7.at, h8.at⟩
theorem BodiesOn.at {S : Nat → Prop} {w : World} {v : Value} {xs : List (List Ac)} (h : BodiesOn S w v xs) : BodiesAt w v xs := by
  obtain ⟨a, cap, rfl, hm, hc⟩ := h
  refine ⟨a, cap, rfl, hm, fun i hi => ?_⟩
  obtain ⟨b, off, av, e, _, h2, h3, h4⟩ := hc i hi
  exact ⟨b, off, av, e, h2, h3, h4.at⟩
theorem IntsOn.shape {S : Nat → Prop} {w : World} {v : Value} {xs : List Int} (h : IntsOn S w v xs) : ∃ a cap, v = .slice a xs.length cap ∧ xs.length ≤ 9223372036854775807 := h.at.shape
theorem DeedsOn.shape {S : Nat → Prop} {w : World} {v : Value} {xs : List De} (h : DeedsOn S w v xs) : ∃ a cap, v = .slice a xs.length cap ∧ xs.length ≤ 9223372036854775807 := h.at.shape
theorem BodiesOn.shape {S : Nat → Prop} {w : World} {v : Value} {xs : List (List Ac)} (h : BodiesOn S w v xs) : ∃ a cap, v = .slice a xs.length cap ∧ xs.length ≤ 9223372036854775807 := h.at.shape
end Go.Proofs.Ytgbgjljflgbcaaa

namespace Go.Proofs.Ytgbgjljflgbcaaa
open Go.RowKit
set_option linter.unusedSimpArgs false
set_option linter.unusedVariables false
structure Pu where
  c : Int
  n : Int
def Pu.z : Pu := ⟨0, 0⟩
def PusAt (w : World) (v : Value) (xs : List Pu) : Prop :=
  ∃ a cap, v = .slice a xs.length cap ∧ (xs.length ≤ cap ∧ cap ≤ 9223372036854775807) ∧ ∀ i, i < xs.length → ∃ b off, a = some ⟨b, off, none⟩ ∧ b < w.heap.size ∧
    w.cell? ⟨b, off + i * 2, none⟩ = some (.int .i64 (nth Pu.z xs i).c) ∧ w.cell? ⟨b, off + i * 2 + 1, none⟩ = some (.int .i64 (nth Pu.z xs i).n)
def PusOn (S : Nat → Prop) (w : World) (v : Value) (xs : List Pu) : Prop :=
  ∃ a cap, v = .slice a xs.length cap ∧ (xs.length ≤ cap ∧ cap ≤ 9223372036854775807) ∧ ∀ i, i < xs.length → ∃ b off, a = some ⟨b, off, none⟩ ∧ S b ∧ b < w.heap.size ∧
    w.cell? ⟨b, off + i * 2, none⟩ = some (.int .i64 (nth Pu.z xs i).c) ∧ w.cell? ⟨b, off + i * 2 + 1, none⟩ = some (.int .i64 (nth Pu.z xs i).n)
theorem PusAt.mono {w w' : World} {v : Value} {xs : List Pu} (h : PusAt w v xs) (hb : Below w.heap.size w w') : PusAt w' v xs := by
  obtain ⟨a, cap, rfl, hm, hc⟩ := h
  refine ⟨a, cap, rfl, hm, fun i hi => ?_⟩
  obtain ⟨b, off, rfl, hbw, c0, c1⟩ := hc i hi
  rw [← hb.cell (p := ⟨b, _, none⟩) hbw] at c0 c1
  exact ⟨b, off, rfl, Nat.lt_of_lt_of_le hbw hb.size, c0, c1⟩
theorem PusAt.shape {w : World} {v : Value} {xs : List Pu} (h : PusAt w v xs) : ∃ a cap, v = .slice a xs.length cap ∧ xs.length ≤ 9223372036854775807 := let ⟨a, c, h1, h2, _⟩ := h; ⟨a, c, h1, by omega⟩
theorem PusAt.cap {w : World} {v : Value} {xs : List Pu} (h : PusAt w v xs) : ∃ a cap, v = .slice a xs.length cap ∧ xs.length ≤ cap ∧ cap ≤ 9223372036854775807 := let ⟨a, c, h1, h2, _⟩ := h; ⟨a, c, h1, h2.1, h2.2⟩
theorem PusOn.at {S : Nat → Prop} {w : World} {v : Value} {xs : List Pu} (h : PusOn S w v xs) : PusAt w v xs := by
  obtain ⟨a, cap, rfl, hm, hc⟩ := h
  refine ⟨a, cap, rfl, hm, fun i hi => ?_⟩
  obtain ⟨b, off, e, _, g2, c0, c1⟩ := hc i hi
  exact ⟨b, off, e, g2, c0, c1⟩
structure Ce where
  num : Int
  time : Int
  lock : Int
def Ce.z : Ce := ⟨0, 0, 0⟩
def CesAt (w : World) (v : Value) (xs : List Ce) : Prop :=
  ∃ a cap, v = .slice a xs.length cap ∧ (xs.length ≤ cap ∧ cap ≤ 9223372036854775807) ∧ ∀ i, i < xs.length → ∃ b off, a = some ⟨b, off, none⟩ ∧ b < w.heap.size ∧
    w.cell? ⟨b, off + i * 3, none⟩ = some (.int .i64 (nth Ce.z xs i).num) ∧ w.cell? ⟨b, off + i * 3 + 1, none⟩ = some (.int .i64 (nth Ce.z xs i).time) ∧ w.cell? ⟨b, off + i * 3 + 2, none⟩ = some (.int .i64 (nth Ce.z xs i).lock)
def CesOn (S : Nat → Prop) (w : World) (v : Value) (xs : List Ce) : Prop :=
  ∃ a cap, v = .slice a xs.length cap ∧ (xs.length ≤ cap ∧ cap ≤ 9223372036854775807) ∧ ∀ i, i < xs.length → ∃ b off, a = some ⟨b, off, none⟩ ∧ S b ∧ b < w.heap.size ∧
    w.cell? ⟨b, off + i * 3, none⟩ = some (.int .i64 (nth Ce.z xs i).num) ∧ w.cell? ⟨b, off + i * 3 + 1, none⟩ = some (.int .i64 (nth Ce.z xs i).time) ∧ w.cell? ⟨b, off + i * 3 + 2, none⟩ = some (.int .i64 (nth Ce.z xs i).lock)
theorem CesAt.mono {w w' : World} {v : Value} {xs : List Ce} (h : CesAt w v xs) (hb : Below w.heap.size w w') : CesAt w' v xs := by
  obtain ⟨a, cap, rfl, hm, hc⟩ := h
  refine ⟨a, cap, rfl, hm, fun i hi => ?_⟩
  obtain ⟨b, off, rfl, hbw, c0, c1, c2⟩ := hc i hi
  rw [← hb.cell (p := ⟨b, _, none⟩) hbw] at c0 c1 c2
  exact ⟨b, off, rfl, Nat.lt_of_lt_of_le hbw hb.size, c0, c1, c2⟩
theorem CesOn.at {S : Nat → Prop} {w : World} {v : Value} {xs : List Ce} (h : CesOn S w v xs) : CesAt w v xs := by
  obtain ⟨a, cap, rfl, hm, hc⟩ := h
  refine ⟨a, cap, rfl, hm, fun i hi => ?_⟩
  obtain ⟨b, off, e, _, g2, c0, c1, c2⟩ := hc i hi
  exact ⟨b, off, e, g2, c0, c1, c2⟩
structure Ta where
  body : Int
  pc : Int
  up : Int
  regs : List Int
  way : Int
  stage : Int
  at_ : Int
  since : Int
  old : List Int
  reads : List Pu
  puts : List Pu
  when_ : Int
  from_ : Int
def Ta.z : Ta := ⟨0, 0, 0, [], 0, 0, 0, 0, [], [], [], 0, 0⟩
def TasAt (w : World) (v : Value) (xs : List Ta) : Prop :=
  ∃ a cap, v = .slice a xs.length cap ∧ (xs.length ≤ cap ∧ cap ≤ 9223372036854775807) ∧ ∀ i, i < xs.length → ∃ b off v3 v8 v9 v10, a = some ⟨b, off, none⟩ ∧ b < w.heap.size ∧
    w.cell? ⟨b, off + i * 13, none⟩ = some (.int .i64 (nth Ta.z xs i).body) ∧ w.cell? ⟨b, off + i * 13 + 1, none⟩ = some (.int .i64 (nth Ta.z xs i).pc) ∧ w.cell? ⟨b, off + i * 13 + 2, none⟩ = some (.int .i64 (nth Ta.z xs i).up) ∧ w.cell? ⟨b, off + i * 13 + 3, none⟩ = some (v3) ∧ w.cell? ⟨b, off + i * 13 + 4, none⟩ = some (.int .i64 (nth Ta.z xs i).way) ∧ w.cell? ⟨b, off + i * 13 + 5, none⟩ = some (.int .i64 (nth Ta.z xs i).stage) ∧ w.cell? ⟨b, off + i * 13 + 6, none⟩ = some (.int .i64 (nth Ta.z xs i).at_) ∧ w.cell? ⟨b, off + i * 13 + 7, none⟩ = some (.int .i64 (nth Ta.z xs i).since) ∧ w.cell? ⟨b, off + i * 13 + 8, none⟩ = some (v8) ∧ w.cell? ⟨b, off + i * 13 + 9, none⟩ = some (v9) ∧ w.cell? ⟨b, off + i * 13 + 10, none⟩ = some (v10) ∧ w.cell? ⟨b, off + i * 13 + 11, none⟩ = some (.int .i64 (nth Ta.z xs i).when_) ∧ w.cell? ⟨b, off + i * 13 + 12, none⟩ = some (.int .i64 (nth Ta.z xs i).from_) ∧ IntsAt w v3 (nth Ta.z xs i).regs ∧ IntsAt w v8 (nth Ta.z xs i).old ∧ PusAt w v9 (nth Ta.z xs i).reads ∧ PusAt w v10 (nth Ta.z xs i).puts
def TasOn (S : Nat → Prop) (w : World) (v : Value) (xs : List Ta) : Prop :=
  ∃ a cap, v = .slice a xs.length cap ∧ (xs.length ≤ cap ∧ cap ≤ 9223372036854775807) ∧ ∀ i, i < xs.length → ∃ b off v3 v8 v9 v10, a = some ⟨b, off, none⟩ ∧ S b ∧ b < w.heap.size ∧
    w.cell? ⟨b, off + i * 13, none⟩ = some (.int .i64 (nth Ta.z xs i).body) ∧ w.cell? ⟨b, off + i * 13 + 1, none⟩ = some (.int .i64 (nth Ta.z xs i).pc) ∧ w.cell? ⟨b, off + i * 13 + 2, none⟩ = some (.int .i64 (nth Ta.z xs i).up) ∧ w.cell? ⟨b, off + i * 13 + 3, none⟩ = some (v3) ∧ w.cell? ⟨b, off + i * 13 + 4, none⟩ = some (.int .i64 (nth Ta.z xs i).way) ∧ w.cell? ⟨b, off + i * 13 + 5, none⟩ = some (.int .i64 (nth Ta.z xs i).stage) ∧ w.cell? ⟨b, off + i * 13 + 6, none⟩ = some (.int .i64 (nth Ta.z xs i).at_) ∧ w.cell? ⟨b, off + i * 13 + 7, none⟩ = some (.int .i64 (nth Ta.z xs i).since) ∧ w.cell? ⟨b, off + i * 13 + 8, none⟩ = some (v8) ∧ w.cell? ⟨b, off + i * 13 + 9, none⟩ = some (v9) ∧ w.cell? ⟨b, off + i * 13 + 10, none⟩ = some (v10) ∧ w.cell? ⟨b, off + i * 13 + 11, none⟩ = some (.int .i64 (nth Ta.z xs i).when_) ∧ w.cell? ⟨b, off + i * 13 + 12, none⟩ = some (.int .i64 (nth Ta.z xs i).from_) ∧ IntsOn S w v3 (nth Ta.z xs i).regs ∧ IntsOn S w v8 (nth Ta.z xs i).old ∧ PusOn S w v9 (nth Ta.z xs i).reads ∧ PusOn S w v10 (nth Ta.z xs i).puts
theorem TasAt.mono {w w' : World} {v : Value} {xs : List Ta} (h : TasAt w v xs) (hb : Below w.heap.size w w') : TasAt w' v xs := by
  obtain ⟨a, cap, rfl, hm, hc⟩ := h
  refine ⟨a, cap, rfl, hm, fun i hi => ?_⟩
  obtain ⟨b, off, v3, v8, v9, v10, rfl, hbw, c0, c1, c2, c3, c4, c5, c6, c7, c8, c9, c10, c11, c12, h3, h8, h9, h10⟩ := hc i hi
  rw [← hb.cell (p := ⟨b, _, none⟩) hbw] at c0 c1 c2 c3 c4 c5 c6 c7 c8 c9 c10 c11 c12
  exact ⟨b, off, v3, v8, v9, v10, rfl, Nat.lt_of_lt_of_le hbw hb.size, c0, c1, c2, c3, c4, c5, c6, c7, c8, c9, c10, c11, c12, h3.mono hb, h8.mono hb, h9.mono hb, h10.mono hb⟩
theorem TasAt.shape {w : World} {v : Value} {xs : List Ta} (h : TasAt w v xs) : ∃ a cap, v = .slice a xs.length cap ∧ xs.length ≤ 9223372036854775807 := let ⟨a, c, h1, h2, _⟩ := h; ⟨a, c, h1, by omega⟩
theorem TasAt.cap {w : World} {v : Value} {xs : List Ta} (h : TasAt w v xs) : ∃ a cap, v = .slice a xs.length cap ∧ xs.length ≤ cap ∧ cap ≤ 9223372036854775807 := let ⟨a, c, h1, h2, _⟩ := h; ⟨a, c, h1, h2.1, h2.2⟩
theorem TasOn.at {S : Nat → Prop} {w : World} {v : Value} {xs : List Ta} (h : TasOn S w v xs) : TasAt w v xs := by
  obtain ⟨a, cap, rfl, hm, hc⟩ := h
  refine ⟨a, cap, rfl, hm, fun i hi => ?_⟩
  obtain ⟨b, off, v3, v8, v9, v10, e, _, g2, c0, c1, c2, c3, c4, c5, c6, c7, c8, c9, c10, c11, c12, h3, h8, h9, h10⟩ := hc i hi
  exact ⟨b, off, v3, v8, v9, v10, e, g2, c0, c1, c2, c3, c4, c5, c6, c7, c8, c9, c10, c11, c12, h3.at, h8.at, h9.at, h10.at⟩
structure En where
  task : Int
  act : Int
  when_ : Int
  reads : List Pu
  puts : List Pu
  from_ : Int
def En.z : En := ⟨0, 0, 0, [], [], 0⟩
def EnsAt (w : World) (v : Value) (xs : List En) : Prop :=
  ∃ a cap, v = .slice a xs.length cap ∧ (xs.length ≤ cap ∧ cap ≤ 9223372036854775807) ∧ ∀ i, i < xs.length → ∃ b off v3 v4, a = some ⟨b, off, none⟩ ∧ b < w.heap.size ∧
    w.cell? ⟨b, off + i * 6, none⟩ = some (.int .i64 (nth En.z xs i).task) ∧ w.cell? ⟨b, off + i * 6 + 1, none⟩ = some (.int .i64 (nth En.z xs i).act) ∧ w.cell? ⟨b, off + i * 6 + 2, none⟩ = some (.int .i64 (nth En.z xs i).when_) ∧ w.cell? ⟨b, off + i * 6 + 3, none⟩ = some (v3) ∧ w.cell? ⟨b, off + i * 6 + 4, none⟩ = some (v4) ∧ w.cell? ⟨b, off + i * 6 + 5, none⟩ = some (.int .i64 (nth En.z xs i).from_) ∧ PusAt w v3 (nth En.z xs i).reads ∧ PusAt w v4 (nth En.z xs i).puts
def EnsOn (S : Nat → Prop) (w : World) (v : Value) (xs : List En) : Prop :=
  ∃ a cap, v = .slice a xs.length cap ∧ (xs.length ≤ cap ∧ cap ≤ 9223372036854775807) ∧ ∀ i, i < xs.length → ∃ b off v3 v4, a = some ⟨b, off, none⟩ ∧ S b ∧ b < w.heap.size ∧
    w.cell? ⟨b, off + i * 6, none⟩ = some (.int .i64 (nth En.z xs i).task) ∧ w.cell? ⟨b, off + i * 6 + 1, none⟩ = some (.int .i64 (nth En.z xs i).act) ∧ w.cell? ⟨b, off + i * 6 + 2, none⟩ = some (.int .i64 (nth En.z xs i).when_) ∧ w.cell? ⟨b, off + i * 6 + 3, none⟩ = some (v3) ∧ w.cell? ⟨b, off + i * 6 + 4, none⟩ = some (v4) ∧ w.cell? ⟨b, off + i * 6 + 5, none⟩ = some (.int .i64 (nth En.z xs i).from_) ∧ PusOn S w v3 (nth En.z xs i).reads ∧ PusOn S w v4 (nth En.z xs i).puts
theorem EnsAt.mono {w w' : World} {v : Value} {xs : List En} (h : EnsAt w v xs) (hb : Below w.heap.size w w') : EnsAt w' v xs := by
  obtain ⟨a, cap, rfl, hm, hc⟩ := h
  refine ⟨a, cap, rfl, hm, fun i hi => ?_⟩
  obtain ⟨b, off, v3, v4, rfl, hbw, c0, c1, c2, c3, c4, c5, h3, h4⟩ := hc i hi
  rw [← hb.cell (p := ⟨b, _, none⟩) hbw] at c0 c1 c2 c3 c4 c5
  exact ⟨b, off, v3, v4, rfl, Nat.lt_of_lt_of_le hbw hb.size, c0, c1, c2, c3, c4, c5, h3.mono hb, h4.mono hb⟩
theorem EnsAt.shape {w : World} {v : Value} {xs : List En} (h : EnsAt w v xs) : ∃ a cap, v = .slice a xs.length cap ∧ xs.length ≤ 9223372036854775807 := let ⟨a, c, h1, h2, _⟩ := h; ⟨a, c, h1, by omega⟩
theorem EnsAt.cap {w : World} {v : Value} {xs : List En} (h : EnsAt w v xs) : ∃ a cap, v = .slice a xs.length cap ∧ xs.length ≤ cap ∧ cap ≤ 9223372036854775807 := let ⟨a, c, h1, h2, _⟩ := h; ⟨a, c, h1, h2.1, h2.2⟩
theorem EnsOn.at {S : Nat → Prop} {w : World} {v : Value} {xs : List En} (h : EnsOn S w v xs) : EnsAt w v xs := by
  obtain ⟨a, cap, rfl, hm, hc⟩ := h
  refine ⟨a, cap, rfl, hm, fun i hi => ?_⟩
  obtain ⟨b, off, v3, v4, e, _, g2, c0, c1, c2, c3, c4, c5, h3, h4⟩ := hc i hi
  exact ⟨b, off, v3, v4, e, g2, c0, c1, c2, c3, c4, c5, h3.at, h4.at⟩
structure Sy where
  cells : List Ce
  tasks : List Ta
  clock : Int
  log : List En
end Go.Proofs.Ytgbgjljflgbcaaa
