import Derived.Test.YtgbgjljflgbcaaaSo03
namespace Go.Proofs.Ytgbgjljflgbcaaa
open Go.RowKit
def Blk (w : World) (g n : Nat) : Prop := g < w.heap.size /\ ∀ j, j < n -> (∃ v, w.cell? ⟨g, j, none⟩ = some v) /\ w.frozen? ⟨g, j, none⟩ = false
theorem Blk.new (w : World) (M : Array Value) (t : TypeId) : Blk (w.alloc (.cells M t)) w.heap.size M.size :=
 ⟨by simp, fun j hj => ⟨⟨M[j], by simp [hj]⟩, by simp⟩⟩
theorem Blk.below {w w' : World} {g n : Nat} (h : Blk w g n) (hb : Below w.heap.size w w') : Blk w' g n :=
 ⟨Nat.lt_of_lt_of_le h.1 hb.size, fun j hj => ⟨by rw [hb.cell (p := ⟨g, j, none⟩) h.1]; exact (h.2 j hj).1, by rw [hb.frozen (p := ⟨g, j, none⟩) h.1]; exact (h.2 j hj).2⟩⟩
theorem cell_set_same {w : World} {g n : Nat} (h : Blk w g n) (i : Nat) (hi : i < n) (x : Value) : (w.setCell ⟨g, i, none⟩ x).cell? ⟨g, i, none⟩ = some x := by
 obtain ⟨v, hv⟩ := (h.2 i hi).1
 exact World.cell?_setCell_same w ⟨g, i, none⟩ x hv
theorem cell_set_other (w : World) (g i : Nat) (x : Value) (a : Addr) (h : a ≠ ⟨g, i, none⟩) : (w.setCell ⟨g, i, none⟩ x).cell? a = w.cell? a :=
 World.cell?_setCell_other w ⟨g, i, none⟩ a x (fun e => h e.symm)
theorem Blk.set {w : World} {g n : Nat} (h : Blk w g n) (i : Nat) (x : Value) : Blk (w.setCell ⟨g, i, none⟩ x) g n := by
 refine ⟨by simpa using h.1, fun j hj => ⟨?_, by simpa using (h.2 j hj).2⟩⟩
 obtain ⟨v, hv⟩ := (h.2 j hj).1
 by_cases e : j = i
 . subst e; exact ⟨x, World.cell?_setCell_same w ⟨g, j, none⟩ x hv⟩
 . exact ⟨v, by rw [cell_set_other w g i x ⟨g, j, none⟩ (fun q => e (by injection q))]; exact hv⟩
theorem set3_in {w : World} {g n : Nat} (h : Blk w g n) (i : Nat) (hi : i + 2 < n) (a b c : Value) :
   (((w.setCell ⟨g, i, none⟩ a).setCell ⟨g, i + 1, none⟩ b).setCell ⟨g, i + 2, none⟩ c).cell? ⟨g, i, none⟩ = some a /\
   (((w.setCell ⟨g, i, none⟩ a).setCell ⟨g, i + 1, none⟩ b).setCell ⟨g, i + 2, none⟩ c).cell? ⟨g, i + 1, none⟩ = some b /\
   (((w.setCell ⟨g, i, none⟩ a).setCell ⟨g, i + 1, none⟩ b).setCell ⟨g, i + 2, none⟩ c).cell? ⟨g, i + 2, none⟩ = some c := by
 refine ⟨?_, ?_, ?_⟩
 . rw [cell_set_other _ _ _ _ _ (by intro e; injection e; omega), cell_set_other _ _ _ _ _ (by intro e; injection e; omega)]; exact cell_set_same h i (by omega) a
 . rw [cell_set_other _ _ _ _ _ (by intro e; injection e; omega)]; exact cell_set_same (h.set i a) (i + 1) (by omega) b
 . exact cell_set_same ((h.set i a).set (i + 1) b) (i + 2) (by omega) c
theorem make_any {P : Program} (t e : TypeId) (z : Value) (size bytes : Nat) (ht : P.underlying t = some (.slice e)) (hinfo : (P.info? e).map (fun i => (i.zero, i.size, i.bytes)) = some (some z, size, bytes))
  (n : Nat) (hn : bytes * n <= 281474976710656) (h63 : n <= 9223372036854775807) :
  ∃ M : Array Value, M.size = n * size /\ ∀ w : World, (Instr.makeSlice t (.int .i64 (n : Int)) (.int .i64 (n : Int))).run P w = .ok (.slice (some ⟨w.heap.size, 0, none⟩) n n) (w.alloc (.cells M e)) := by
 obtain ⟨i, hi, hzz⟩ := Option.map_eq_some_iff.1 hinfo
 simp only [Prod.mk.injEq] at hzz
 obtain ⟨hz, hs, hb⟩ := hzz
 refine ⟨madeCells z.cells (n * size), size_madeCells _ _, fun w => ?_⟩
 have hb' : (i.bytes : Int) * (n : Int) <= 281474976710656 := by
  have h : ((i.bytes * n : Nat) : Int) <= 281474976710656 := by rw [hb]; omega
  rwa [Int.natCast_mul] at h
 have hr := run_make (P := P) w t e i z ht hi hz .i64 .i64 n n (by omega) (Int.le_refl _) hb' (by omega)
 simp only [Int.toNat_natCast, hs] at hr
 exact hr
theorem Try.info_int : (Try.prog.info? 3).map (fun i => (i.zero, i.size, i.bytes)) = some (some (.int .i64 0), 1, 8) := by kernel_rfl
theorem Try.info_deed : (Try.prog.info? 125).map (fun i => (i.zero, i.size, i.bytes)) = some (some (.agg #[.int .i64 0, .int .i64 0, .int .i64 0]), 3, 24) := by kernel_rfl
theorem Try.info_act : (Try.prog.info? 122).map (fun i => (i.zero, i.size, i.bytes)) = some (some (.agg #[.int .i64 0, .slice none 0 0, .slice none 0 0, .int .i64 0]), 4, 64) := by kernel_rfl
theorem Try.info_acts : (Try.prog.info? 113).map (fun i => (i.zero, i.size, i.bytes)) = some (some (.slice none 0 0), 1, 24) := by kernel_rfl
def IntsOn (S : Nat -> Prop) (w : World) (v : Value) (xs : List Int) : Prop :=
 ∃ a cap, v = .slice a xs.length cap /\ xs.length <= 9223372036854775807 /\ ∀ i, i < xs.length -> ∃ b off, a = some ⟨b, off, none⟩ /\ S b /\ b < w.heap.size /\
  w.cell? ⟨b, off + i, none⟩ = some (.int .i64 (nth 0 xs i))
def DeedsOn (S : Nat -> Prop) (w : World) (v : Value) (ds : List De) : Prop :=
 ∃ a cap, v = .slice a ds.length cap /\ ds.length <= 9223372036854775807 /\ ∀ i, i < ds.length -> ∃ b off, a = some ⟨b, off, none⟩ /\ S b /\ b < w.heap.size /\
  w.cell? ⟨b, off + i * 3, none⟩ = some (.int .i64 (nth De.z ds i).k) /\ w.cell? ⟨b, off + i * 3 + 1, none⟩ = some (.int .i64 (nth De.z ds i).a) /\ w.cell? ⟨b, off + i * 3 + 2, none⟩ = some (.int .i64 (nth De.z ds i).b)
def ActsOn (S : Nat -> Prop) (w : World) (v : Value) (acts : List Ac) : Prop :=
 ∃ a cap, v = .slice a acts.length cap /\ acts.length <= 9223372036854775807 /\ ∀ i, i < acts.length -> ∃ b off dv kv, a = some ⟨b, off, none⟩ /\ S b /\ b < w.heap.size /\
  w.cell? ⟨b, off + i * 4, none⟩ = some (.int .i64 (nth Ac.z acts i).k) /\ w.cell? ⟨b, off + i * 4 + 1, none⟩ = some dv /\ w.cell? ⟨b, off + i * 4 + 2, none⟩ = some kv /\ w.cell? ⟨b, off + i * 4 + 3, none⟩ = some (.int .i64 (nth Ac.z acts i).r) /\
  DeedsOn S w dv (nth Ac.z acts i).ds /\ IntsOn S w kv (nth Ac.z acts i).ks
def BodiesOn (S : Nat -> Prop) (w : World) (v : Value) (bs : List (List Ac)) : Prop :=
 ∃ a cap, v = .slice a bs.length cap /\ bs.length <= 9223372036854775807 /\ ∀ i, i < bs.length -> ∃ b off av, a = some ⟨b, off, none⟩ /\ S b /\ b < w.heap.size /\
  w.cell? ⟨b, off + i, none⟩ = some av /\ ActsOn S w av (nth [] bs i)
structure Kept (S : Nat -> Prop) (w w' : World) : Prop where
 size : w.heap.size <= w'.heap.size
 cell : ∀ b o, S b -> b < w.heap.size -> w'.cell? ⟨b, o, none⟩ = w.cell? ⟨b, o, none⟩
theorem Kept.below {S : Nat -> Prop} {w w' : World} (h : Below w.heap.size w w') : Kept S w w' := ⟨h.size, fun b o _ hb => h.cell (p := ⟨b, o, none⟩) hb⟩
theorem Kept.set {S : Nat -> Prop} (w : World) (g i : Nat) (x : Value) (hg : ¬ S g) : Kept S w (w.setCell ⟨g, i, none⟩ x) :=
 ⟨by simp, fun b o hb _ => cell_set_other w g i x ⟨b, o, none⟩ (fun e => hg (by injection e with e1; exact e1 ▸ hb))⟩
theorem IntsOn.kept {S : Nat -> Prop} {w w' : World} {v : Value} {xs : List Int} (h : IntsOn S w v xs) (hb : Kept S w w') : IntsOn S w' v xs := by
 obtain ⟨a, cap, rfl, hm, hc⟩ := h
 refine ⟨a, cap, rfl, hm, fun i hi => ?_⟩
 obtain ⟨b, off, rfl, hS, hbw, c0⟩ := hc i hi
 exact ⟨b, off, rfl, hS, Nat.lt_of_lt_of_le hbw hb.size, by rw [hb.cell b _ hS hbw]; exact c0⟩
theorem DeedsOn.kept {S : Nat -> Prop} {w w' : World} {v : Value} {xs : List De} (h : DeedsOn S w v xs) (hb : Kept S w w') : DeedsOn S w' v xs := by
 obtain ⟨a, cap, rfl, hm, hc⟩ := h
 refine ⟨a, cap, rfl, hm, fun i hi => ?_⟩
 obtain ⟨b, off, rfl, hS, hbw, c0, c1, c2⟩ := hc i hi
 rw [<- hb.cell b _ hS hbw] at c0 c1 c2
 exact ⟨b, off, rfl, hS, Nat.lt_of_lt_of_le hbw hb.size, c0, c1, c2⟩
theorem ActsOn.kept {S : Nat -> Prop} {w w' : World} {v : Value} {xs : List Ac} (h : ActsOn S w v xs) (hb : Kept S w w') : ActsOn S w' v xs := by
 obtain ⟨a, cap, rfl, hm, hc⟩ := h
 refine ⟨a, cap, rfl, hm, fun i hi => ?_⟩
 obtain ⟨b, off, dv, kv, rfl, hS, hbw, c0, c1, c2, c3, hd, hk⟩ := hc i hi
 rw [<- hb.cell b _ hS hbw] at c0 c1 c2 c3
 exact ⟨b, off, dv, kv, rfl, hS, Nat.lt_of_lt_of_le hbw hb.size, c0, c1, c2, c3, hd.kept hb, hk.kept hb⟩
theorem BodiesOn.kept {S : Nat -> Prop} {w w' : World} {v : Value} {xs : List (List Ac)} (h : BodiesOn S w v xs) (hb : Kept S w w') : BodiesOn S w' v xs := by
 obtain ⟨a, cap, rfl, hm, hc⟩ := h
 refine ⟨a, cap, rfl, hm, fun i hi => ?_⟩
 obtain ⟨b, off, av, rfl, hS, hbw, c0, ha⟩ := hc i hi
 rw [<- hb.cell b _ hS hbw] at c0
 exact ⟨b, off, av, rfl, hS, Nat.lt_of_lt_of_le hbw hb.size, c0, ha.kept hb⟩
theorem IntsOn.wide {S S' : Nat -> Prop} (hS : ∀ b, S b -> S' b) {w : World} {v : Value} {xs : List Int} (h : IntsOn S w v xs) : IntsOn S' w v xs := by
 obtain ⟨a, cap, rfl, hm, hc⟩ := h
 refine ⟨a, cap, rfl, hm, fun i hi => ?_⟩
 obtain ⟨b, off, e, h1, h2⟩ := hc i hi
 exact ⟨b, off, e, hS b h1, h2⟩
theorem DeedsOn.wide {S S' : Nat -> Prop} (hS : ∀ b, S b -> S' b) {w : World} {v : Value} {xs : List De} (h : DeedsOn S w v xs) : DeedsOn S' w v xs := by
 obtain ⟨a, cap, rfl, hm, hc⟩ := h
 refine ⟨a, cap, rfl, hm, fun i hi => ?_⟩
 obtain ⟨b, off, e, h1, h2⟩ := hc i hi
 exact ⟨b, off, e, hS b h1, h2⟩
theorem ActsOn.wide {S S' : Nat -> Prop} (hS : ∀ b, S b -> S' b) {w : World} {v : Value} {xs : List Ac} (h : ActsOn S w v xs) : ActsOn S' w v xs := by
 obtain ⟨a, cap, rfl, hm, hc⟩ := h
 refine ⟨a, cap, rfl, hm, fun i hi => ?_⟩
 obtain ⟨b, off, dv, kv, e, h1, h2, h3, h4, h5, h6, h7, h8⟩ := hc i hi
 exact ⟨b, off, dv, kv, e, hS b h1, h2, h3, h4, h5, h6, h7.wide hS, h8.wide hS⟩
theorem BodiesOn.wide {S S' : Nat -> Prop} (hS : ∀ b, S b -> S' b) {w : World} {v : Value} {xs : List (List Ac)} (h : BodiesOn S w v xs) : BodiesOn S' w v xs := by
 obtain ⟨a, cap, rfl, hm, hc⟩ := h
 refine ⟨a, cap, rfl, hm, fun i hi => ?_⟩
 obtain ⟨b, off, av, e, h1, h2, h3, h4⟩ := hc i hi
 exact ⟨b, off, av, e, hS b h1, h2, h3, h4.wide hS⟩
theorem IntsOn.at {S : Nat -> Prop} {w : World} {v : Value} {xs : List Int} (h : IntsOn S w v xs) : IntsAt w v xs := by
 obtain ⟨a, cap, rfl, hm, hc⟩ := h
 refine ⟨a, cap, rfl, hm, fun i hi => ?_⟩
 obtain ⟨b, off, e, _, h2⟩ := hc i hi
 exact ⟨b, off, e, h2⟩
theorem DeedsOn.at {S : Nat -> Prop} {w : World} {v : Value} {xs : List De} (h : DeedsOn S w v xs) : DeedsAt w v xs := by
 obtain ⟨a, cap, rfl, hm, hc⟩ := h
 refine ⟨a, cap, rfl, hm, fun i hi => ?_⟩
 obtain ⟨b, off, e, _, h2⟩ := hc i hi
 exact ⟨b, off, e, h2⟩
theorem ActsOn.at {S : Nat -> Prop} {w : World} {v : Value} {xs : List Ac} (h : ActsOn S w v xs) : ActsAt w v xs := by
 obtain ⟨a, cap, rfl, hm, hc⟩ := h
 refine ⟨a, cap, rfl, hm, fun i hi => ?_⟩
 obtain ⟨b, off, dv, kv, e, _, h2, h3, h4, h5, h6, h7, h8⟩ := hc i hi
 exact ⟨b, off, dv, kv, e, h2, h3, h4, h5, h6, h7.at, h8.at⟩
theorem BodiesOn.at {S : Nat -> Prop} {w : World} {v : Value} {xs : List (List Ac)} (h : BodiesOn S w v xs) : BodiesAt w v xs := by
 obtain ⟨a, cap, rfl, hm, hc⟩ := h
 refine ⟨a, cap, rfl, hm, fun i hi => ?_⟩
 obtain ⟨b, off, av, e, _, h2, h3, h4⟩ := hc i hi
 exact ⟨b, off, av, e, h2, h3, h4.at⟩
theorem IntsOn.shape {S : Nat -> Prop} {w : World} {v : Value} {xs : List Int} (h : IntsOn S w v xs) : ∃ a cap, v = .slice a xs.length cap /\ xs.length <= 9223372036854775807 := h.at.shape
theorem DeedsOn.shape {S : Nat -> Prop} {w : World} {v : Value} {xs : List De} (h : DeedsOn S w v xs) : ∃ a cap, v = .slice a xs.length cap /\ xs.length <= 9223372036854775807 := h.at.shape
theorem BodiesOn.shape {S : Nat -> Prop} {w : World} {v : Value} {xs : List (List Ac)} (h : BodiesOn S w v xs) : ∃ a cap, v = .slice a xs.length cap /\ xs.length <= 9223372036854775807 := h.at.shape

structure Pu where
 c : Int
 n : Int
def Pu.z : Pu := ⟨0, 0⟩
def PusAt (w : World) (v : Value) (xs : List Pu) : Prop :=
 ∃ a cap, v = .slice a xs.length cap /\ (xs.length <= cap /\ cap <= 9223372036854775807) /\ ∀ i, i < xs.length -> ∃ b off, a = some ⟨b, off, none⟩ /\ b < w.heap.size /\
  w.cell? ⟨b, off + i * 2, none⟩ = some (.int .i64 (nth Pu.z xs i).c) /\ w.cell? ⟨b, off + i * 2 + 1, none⟩ = some (.int .i64 (nth Pu.z xs i).n)
def PusOn (S : Nat -> Prop) (w : World) (v : Value) (xs : List Pu) : Prop :=
 ∃ a cap, v = .slice a xs.length cap /\ (xs.length <= cap /\ cap <= 9223372036854775807) /\ ∀ i, i < xs.length -> ∃ b off, a = some ⟨b, off, none⟩ /\ S b /\ b < w.heap.size /\
  w.cell? ⟨b, off + i * 2, none⟩ = some (.int .i64 (nth Pu.z xs i).c) /\ w.cell? ⟨b, off + i * 2 + 1, none⟩ = some (.int .i64 (nth Pu.z xs i).n)
theorem PusAt.mono {w w' : World} {v : Value} {xs : List Pu} (h : PusAt w v xs) (hb : Below w.heap.size w w') : PusAt w' v xs := by
 obtain ⟨a, cap, rfl, hm, hc⟩ := h
 refine ⟨a, cap, rfl, hm, fun i hi => ?_⟩
 obtain ⟨b, off, rfl, hbw, c0, c1⟩ := hc i hi
 rw [<- hb.cell (p := ⟨b, _, none⟩) hbw] at c0 c1
 exact ⟨b, off, rfl, Nat.lt_of_lt_of_le hbw hb.size, c0, c1⟩
theorem PusAt.shape {w : World} {v : Value} {xs : List Pu} (h : PusAt w v xs) : ∃ a cap, v = .slice a xs.length cap /\ xs.length <= 9223372036854775807 := let ⟨a, c, h1, h2, _⟩ := h; ⟨a, c, h1, by omega⟩
theorem PusAt.cap {w : World} {v : Value} {xs : List Pu} (h : PusAt w v xs) : ∃ a cap, v = .slice a xs.length cap /\ xs.length <= cap /\ cap <= 9223372036854775807 := let ⟨a, c, h1, h2, _⟩ := h; ⟨a, c, h1, h2.1, h2.2⟩
theorem PusOn.kept {S : Nat -> Prop} {w w' : World} {v : Value} {xs : List Pu} (h : PusOn S w v xs) (hb : Kept S w w') : PusOn S w' v xs := by
 obtain ⟨a, cap, rfl, hm, hc⟩ := h
 refine ⟨a, cap, rfl, hm, fun i hi => ?_⟩
 obtain ⟨b, off, rfl, hS, hbw, c0, c1⟩ := hc i hi
 rw [<- hb.cell b _ hS hbw] at c0 c1
 exact ⟨b, off, rfl, hS, Nat.lt_of_lt_of_le hbw hb.size, c0, c1⟩
theorem PusOn.wide {S S' : Nat -> Prop} (hS : ∀ b, S b -> S' b) {w : World} {v : Value} {xs : List Pu} (h : PusOn S w v xs) : PusOn S' w v xs := by
 obtain ⟨a, cap, rfl, hm, hc⟩ := h
 refine ⟨a, cap, rfl, hm, fun i hi => ?_⟩
 obtain ⟨b, off, e, g1, g2, c0, c1⟩ := hc i hi
 exact ⟨b, off, e, hS b g1, g2, c0, c1⟩
theorem PusOn.at {S : Nat -> Prop} {w : World} {v : Value} {xs : List Pu} (h : PusOn S w v xs) : PusAt w v xs := by
 obtain ⟨a, cap, rfl, hm, hc⟩ := h
 refine ⟨a, cap, rfl, hm, fun i hi => ?_⟩
 obtain ⟨b, off, e, _, g2, c0, c1⟩ := hc i hi
 exact ⟨b, off, e, g2, c0, c1⟩
structure Ce where
 num : Int
 time : Int
 lock : Int
def Ce.z : Ce := ⟨0, 0, 0⟩
def CesAt (w : World) (v : Value) (xs : List Ce) : Prop :=
 ∃ a cap, v = .slice a xs.length cap /\ (xs.length <= cap /\ cap <= 9223372036854775807) /\ ∀ i, i < xs.length -> ∃ b off, a = some ⟨b, off, none⟩ /\ b < w.heap.size /\
  w.cell? ⟨b, off + i * 3, none⟩ = some (.int .i64 (nth Ce.z xs i).num) /\ w.cell? ⟨b, off + i * 3 + 1, none⟩ = some (.int .i64 (nth Ce.z xs i).time) /\ w.cell? ⟨b, off + i * 3 + 2, none⟩ = some (.int .i64 (nth Ce.z xs i).lock)
def CesOn (S : Nat -> Prop) (w : World) (v : Value) (xs : List Ce) : Prop :=
 ∃ a cap, v = .slice a xs.length cap /\ (xs.length <= cap /\ cap <= 9223372036854775807) /\ ∀ i, i < xs.length -> ∃ b off, a = some ⟨b, off, none⟩ /\ S b /\ b < w.heap.size /\
  w.cell? ⟨b, off + i * 3, none⟩ = some (.int .i64 (nth Ce.z xs i).num) /\ w.cell? ⟨b, off + i * 3 + 1, none⟩ = some (.int .i64 (nth Ce.z xs i).time) /\ w.cell? ⟨b, off + i * 3 + 2, none⟩ = some (.int .i64 (nth Ce.z xs i).lock)
theorem CesAt.mono {w w' : World} {v : Value} {xs : List Ce} (h : CesAt w v xs) (hb : Below w.heap.size w w') : CesAt w' v xs := by
 obtain ⟨a, cap, rfl, hm, hc⟩ := h
 refine ⟨a, cap, rfl, hm, fun i hi => ?_⟩
 obtain ⟨b, off, rfl, hbw, c0, c1, c2⟩ := hc i hi
 rw [<- hb.cell (p := ⟨b, _, none⟩) hbw] at c0 c1 c2
 exact ⟨b, off, rfl, Nat.lt_of_lt_of_le hbw hb.size, c0, c1, c2⟩
theorem CesOn.kept {S : Nat -> Prop} {w w' : World} {v : Value} {xs : List Ce} (h : CesOn S w v xs) (hb : Kept S w w') : CesOn S w' v xs := by
 obtain ⟨a, cap, rfl, hm, hc⟩ := h
 refine ⟨a, cap, rfl, hm, fun i hi => ?_⟩
 obtain ⟨b, off, rfl, hS, hbw, c0, c1, c2⟩ := hc i hi
 rw [<- hb.cell b _ hS hbw] at c0 c1 c2
 exact ⟨b, off, rfl, hS, Nat.lt_of_lt_of_le hbw hb.size, c0, c1, c2⟩
theorem CesOn.wide {S S' : Nat -> Prop} (hS : ∀ b, S b -> S' b) {w : World} {v : Value} {xs : List Ce} (h : CesOn S w v xs) : CesOn S' w v xs := by
 obtain ⟨a, cap, rfl, hm, hc⟩ := h
 refine ⟨a, cap, rfl, hm, fun i hi => ?_⟩
 obtain ⟨b, off, e, g1, g2, c0, c1, c2⟩ := hc i hi
 exact ⟨b, off, e, hS b g1, g2, c0, c1, c2⟩
theorem CesOn.at {S : Nat -> Prop} {w : World} {v : Value} {xs : List Ce} (h : CesOn S w v xs) : CesAt w v xs := by
 obtain ⟨a, cap, rfl, hm, hc⟩ := h
 refine ⟨a, cap, rfl, hm, fun i hi => ?_⟩
 obtain ⟨b, off, e, _, g2, c0, c1, c2⟩ := hc i hi
 exact ⟨b, off, e, g2, c0, c1, c2⟩
structure Ta where
 body : Int
 pc : Int
 up : Int
 regs : List Int
 way : Int
 stage : Int
 at_ : Int
 since : Int
 old : List Int
 reads : List Pu
 puts : List Pu
 when_ : Int
 from_ : Int
def Ta.z : Ta := ⟨0, 0, 0, [], 0, 0, 0, 0, [], [], [], 0, 0⟩
def TasAt (w : World) (v : Value) (xs : List Ta) : Prop :=
 ∃ a cap, v = .slice a xs.length cap /\ (xs.length <= cap /\ cap <= 9223372036854775807) /\ ∀ i, i < xs.length -> ∃ b off v3 v8 v9 v10, a = some ⟨b, off, none⟩ /\ b < w.heap.size /\
  w.cell? ⟨b, off + i * 13, none⟩ = some (.int .i64 (nth Ta.z xs i).body) /\ w.cell? ⟨b, off + i * 13 + 1, none⟩ = some (.int .i64 (nth Ta.z xs i).pc) /\ w.cell? ⟨b, off + i * 13 + 2, none⟩ = some (.int .i64 (nth Ta.z xs i).up) /\ w.cell? ⟨b, off + i * 13 + 3, none⟩ = some (v3) /\ w.cell? ⟨b, off + i * 13 + 4, none⟩ = some (.int .i64 (nth Ta.z xs i).way) /\ w.cell? ⟨b, off + i * 13 + 5, none⟩ = some (.int .i64 (nth Ta.z xs i).stage) /\ w.cell? ⟨b, off + i * 13 + 6, none⟩ = some (.int .i64 (nth Ta.z xs i).at_) /\ w.cell? ⟨b, off + i * 13 + 7, none⟩ = some (.int .i64 (nth Ta.z xs i).since) /\ w.cell? ⟨b, off + i * 13 + 8, none⟩ = some (v8) /\ w.cell? ⟨b, off + i * 13 + 9, none⟩ = some (v9) /\ w.cell? ⟨b, off + i * 13 + 10, none⟩ = some (v10) /\ w.cell? ⟨b, off + i * 13 + 11, none⟩ = some (.int .i64 (nth Ta.z xs i).when_) /\ w.cell? ⟨b, off + i * 13 + 12, none⟩ = some (.int .i64 (nth Ta.z xs i).from_) /\ IntsAt w v3 (nth Ta.z xs i).regs /\ IntsAt w v8 (nth Ta.z xs i).old /\ PusAt w v9 (nth Ta.z xs i).reads /\ PusAt w v10 (nth Ta.z xs i).puts
def TasOn (S : Nat -> Prop) (w : World) (v : Value) (xs : List Ta) : Prop :=
 ∃ a cap, v = .slice a xs.length cap /\ (xs.length <= cap /\ cap <= 9223372036854775807) /\ ∀ i, i < xs.length -> ∃ b off v3 v8 v9 v10, a = some ⟨b, off, none⟩ /\ S b /\ b < w.heap.size /\
  w.cell? ⟨b, off + i * 13, none⟩ = some (.int .i64 (nth Ta.z xs i).body) /\ w.cell? ⟨b, off + i * 13 + 1, none⟩ = some (.int .i64 (nth Ta.z xs i).pc) /\ w.cell? ⟨b, off + i * 13 + 2, none⟩ = some (.int .i64 (nth Ta.z xs i).up) /\ w.cell? ⟨b, off + i * 13 + 3, none⟩ = some (v3) /\ w.cell? ⟨b, off + i * 13 + 4, none⟩ = some (.int .i64 (nth Ta.z xs i).way) /\ w.cell? ⟨b, off + i * 13 + 5, none⟩ = some (.int .i64 (nth Ta.z xs i).stage) /\ w.cell? ⟨b, off + i * 13 + 6, none⟩ = some (.int .i64 (nth Ta.z xs i).at_) /\ w.cell? ⟨b, off + i * 13 + 7, none⟩ = some (.int .i64 (nth Ta.z xs i).since) /\ w.cell? ⟨b, off + i * 13 + 8, none⟩ = some (v8) /\ w.cell? ⟨b, off + i * 13 + 9, none⟩ = some (v9) /\ w.cell? ⟨b, off + i * 13 + 10, none⟩ = some (v10) /\ w.cell? ⟨b, off + i * 13 + 11, none⟩ = some (.int .i64 (nth Ta.z xs i).when_) /\ w.cell? ⟨b, off + i * 13 + 12, none⟩ = some (.int .i64 (nth Ta.z xs i).from_) /\ IntsOn S w v3 (nth Ta.z xs i).regs /\ IntsOn S w v8 (nth Ta.z xs i).old /\ PusOn S w v9 (nth Ta.z xs i).reads /\ PusOn S w v10 (nth Ta.z xs i).puts
theorem TasAt.mono {w w' : World} {v : Value} {xs : List Ta} (h : TasAt w v xs) (hb : Below w.heap.size w w') : TasAt w' v xs := by
 obtain ⟨a, cap, rfl, hm, hc⟩ := h
 refine ⟨a, cap, rfl, hm, fun i hi => ?_⟩
 obtain ⟨b, off, v3, v8, v9, v10, rfl, hbw, c0, c1, c2, c3, c4, c5, c6, c7, c8, c9, c10, c11, c12, h3, h8, h9, h10⟩ := hc i hi
 rw [<- hb.cell (p := ⟨b, _, none⟩) hbw] at c0 c1 c2 c3 c4 c5 c6 c7 c8 c9 c10 c11 c12
 exact ⟨b, off, v3, v8, v9, v10, rfl, Nat.lt_of_lt_of_le hbw hb.size, c0, c1, c2, c3, c4, c5, c6, c7, c8, c9, c10, c11, c12, h3.mono hb, h8.mono hb, h9.mono hb, h10.mono hb⟩
theorem TasAt.shape {w : World} {v : Value} {xs : List Ta} (h : TasAt w v xs) : ∃ a cap, v = .slice a xs.length cap /\ xs.length <= 9223372036854775807 := let ⟨a, c, h1, h2, _⟩ := h; ⟨a, c, h1, by omega⟩
theorem TasAt.cap {w : World} {v : Value} {xs : List Ta} (h : TasAt w v xs) : ∃ a cap, v = .slice a xs.length cap /\ xs.length <= cap /\ cap <= 9223372036854775807 := let ⟨a, c, h1, h2, _⟩ := h; ⟨a, c, h1, h2.1, h2.2⟩
theorem TasOn.kept {S : Nat -> Prop} {w w' : World} {v : Value} {xs : List Ta} (h : TasOn S w v xs) (hb : Kept S w w') : TasOn S w' v xs := by
 obtain ⟨a, cap, rfl, hm, hc⟩ := h
 refine ⟨a, cap, rfl, hm, fun i hi => ?_⟩
 obtain ⟨b, off, v3, v8, v9, v10, rfl, hS, hbw, c0, c1, c2, c3, c4, c5, c6, c7, c8, c9, c10, c11, c12, h3, h8, h9, h10⟩ := hc i hi
 rw [<- hb.cell b _ hS hbw] at c0 c1 c2 c3 c4 c5 c6 c7 c8 c9 c10 c11 c12
 exact ⟨b, off, v3, v8, v9, v10, rfl, hS, Nat.lt_of_lt_of_le hbw hb.size, c0, c1, c2, c3, c4, c5, c6, c7, c8, c9, c10, c11, c12, h3.kept hb, h8.kept hb, h9.kept hb, h10.kept hb⟩
theorem TasOn.wide {S S' : Nat -> Prop} (hS : ∀ b, S b -> S' b) {w : World} {v : Value} {xs : List Ta} (h : TasOn S w v xs) : TasOn S' w v xs := by
 obtain ⟨a, cap, rfl, hm, hc⟩ := h
 refine ⟨a, cap, rfl, hm, fun i hi => ?_⟩
 obtain ⟨b, off, v3, v8, v9, v10, e, g1, g2, c0, c1, c2, c3, c4, c5, c6, c7, c8, c9, c10, c11, c12, h3, h8, h9, h10⟩ := hc i hi
 exact ⟨b, off, v3, v8, v9, v10, e, hS b g1, g2, c0, c1, c2, c3, c4, c5, c6, c7, c8, c9, c10, c11, c12, h3.wide hS, h8.wide hS, h9.wide hS, h10.wide hS⟩
theorem TasOn.at {S : Nat -> Prop} {w : World} {v : Value} {xs : List Ta} (h : TasOn S w v xs) : TasAt w v xs := by
 obtain ⟨a, cap, rfl, hm, hc⟩ := h
 refine ⟨a, cap, rfl, hm, fun i hi => ?_⟩
 obtain ⟨b, off, v3, v8, v9, v10, e, _, g2, c0, c1, c2, c3, c4, c5, c6, c7, c8, c9, c10, c11, c12, h3, h8, h9, h10⟩ := hc i hi
 exact ⟨b, off, v3, v8, v9, v10, e, g2, c0, c1, c2, c3, c4, c5, c6, c7, c8, c9, c10, c11, c12, h3.at, h8.at, h9.at, h10.at⟩
structure En where
 task : Int
 act : Int
 when_ : Int
 reads : List Pu
 puts : List Pu
 from_ : Int
def En.z : En := ⟨0, 0, 0, [], [], 0⟩
def EnsAt (w : World) (v : Value) (xs : List En) : Prop :=
 ∃ a cap, v = .slice a xs.length cap /\ (xs.length <= cap /\ cap <= 9223372036854775807) /\ ∀ i, i < xs.length -> ∃ b off v3 v4, a = some ⟨b, off, none⟩ /\ b < w.heap.size /\
  w.cell? ⟨b, off + i * 6, none⟩ = some (.int .i64 (nth En.z xs i).task) /\ w.cell? ⟨b, off + i * 6 + 1, none⟩ = some (.int .i64 (nth En.z xs i).act) /\ w.cell? ⟨b, off + i * 6 + 2, none⟩ = some (.int .i64 (nth En.z xs i).when_) /\ w.cell? ⟨b, off + i * 6 + 3, none⟩ = some (v3) /\ w.cell? ⟨b, off + i * 6 + 4, none⟩ = some (v4) /\ w.cell? ⟨b, off + i * 6 + 5, none⟩ = some (.int .i64 (nth En.z xs i).from_) /\ PusAt w v3 (nth En.z xs i).reads /\ PusAt w v4 (nth En.z xs i).puts
def EnsOn (S : Nat -> Prop) (w : World) (v : Value) (xs : List En) : Prop :=
 ∃ a cap, v = .slice a xs.length cap /\ (xs.length <= cap /\ cap <= 9223372036854775807) /\ ∀ i, i < xs.length -> ∃ b off v3 v4, a = some ⟨b, off, none⟩ /\ S b /\ b < w.heap.size /\
  w.cell? ⟨b, off + i * 6, none⟩ = some (.int .i64 (nth En.z xs i).task) /\ w.cell? ⟨b, off + i * 6 + 1, none⟩ = some (.int .i64 (nth En.z xs i).act) /\ w.cell? ⟨b, off + i * 6 + 2, none⟩ = some (.int .i64 (nth En.z xs i).when_) /\ w.cell? ⟨b, off + i * 6 + 3, none⟩ = some (v3) /\ w.cell? ⟨b, off + i * 6 + 4, none⟩ = some (v4) /\ w.cell? ⟨b, off + i * 6 + 5, none⟩ = some (.int .i64 (nth En.z xs i).from_) /\ PusOn S w v3 (nth En.z xs i).reads /\ PusOn S w v4 (nth En.z xs i).puts
theorem EnsAt.mono {w w' : World} {v : Value} {xs : List En} (h : EnsAt w v xs) (hb : Below w.heap.size w w') : EnsAt w' v xs := by
 obtain ⟨a, cap, rfl, hm, hc⟩ := h
 refine ⟨a, cap, rfl, hm, fun i hi => ?_⟩
 obtain ⟨b, off, v3, v4, rfl, hbw, c0, c1, c2, c3, c4, c5, h3, h4⟩ := hc i hi
 rw [<- hb.cell (p := ⟨b, _, none⟩) hbw] at c0 c1 c2 c3 c4 c5
 exact ⟨b, off, v3, v4, rfl, Nat.lt_of_lt_of_le hbw hb.size, c0, c1, c2, c3, c4, c5, h3.mono hb, h4.mono hb⟩
theorem EnsAt.shape {w : World} {v : Value} {xs : List En} (h : EnsAt w v xs) : ∃ a cap, v = .slice a xs.length cap /\ xs.length <= 9223372036854775807 := let ⟨a, c, h1, h2, _⟩ := h; ⟨a, c, h1, by omega⟩
theorem EnsAt.cap {w : World} {v : Value} {xs : List En} (h : EnsAt w v xs) : ∃ a cap, v = .slice a xs.length cap /\ xs.length <= cap /\ cap <= 9223372036854775807 := let ⟨a, c, h1, h2, _⟩ := h; ⟨a, c, h1, h2.1, h2.2⟩
theorem EnsOn.kept {S : Nat -> Prop} {w w' : World} {v : Value} {xs : List En} (h : EnsOn S w v xs) (hb : Kept S w w') : EnsOn S w' v xs := by
 obtain ⟨a, cap, rfl, hm, hc⟩ := h
 refine ⟨a, cap, rfl, hm, fun i hi => ?_⟩
 obtain ⟨b, off, v3, v4, rfl, hS, hbw, c0, c1, c2, c3, c4, c5, h3, h4⟩ := hc i hi
 rw [<- hb.cell b _ hS hbw] at c0 c1 c2 c3 c4 c5
 exact ⟨b, off, v3, v4, rfl, hS, Nat.lt_of_lt_of_le hbw hb.size, c0, c1, c2, c3, c4, c5, h3.kept hb, h4.kept hb⟩
theorem EnsOn.wide {S S' : Nat -> Prop} (hS : ∀ b, S b -> S' b) {w : World} {v : Value} {xs : List En} (h : EnsOn S w v xs) : EnsOn S' w v xs := by
 obtain ⟨a, cap, rfl, hm, hc⟩ := h
 refine ⟨a, cap, rfl, hm, fun i hi => ?_⟩
 obtain ⟨b, off, v3, v4, e, g1, g2, c0, c1, c2, c3, c4, c5, h3, h4⟩ := hc i hi
 exact ⟨b, off, v3, v4, e, hS b g1, g2, c0, c1, c2, c3, c4, c5, h3.wide hS, h4.wide hS⟩
theorem EnsOn.at {S : Nat -> Prop} {w : World} {v : Value} {xs : List En} (h : EnsOn S w v xs) : EnsAt w v xs := by
 obtain ⟨a, cap, rfl, hm, hc⟩ := h
 refine ⟨a, cap, rfl, hm, fun i hi => ?_⟩
 obtain ⟨b, off, v3, v4, e, _, g2, c0, c1, c2, c3, c4, c5, h3, h4⟩ := hc i hi
 exact ⟨b, off, v3, v4, e, g2, c0, c1, c2, c3, c4, c5, h3.at, h4.at⟩
structure Sy where
 cells : List Ce
 tasks : List Ta
 clock : Int
 log : List En

def rgB (r : List Int) : Bool := decide (r.length = 3) && r.all (plB · 100)
def puB (xs : List Pu) (c : Int) : Bool := (List.range xs.length).all fun i => plB (nth Pu.z xs i).c c && plB (nth Pu.z xs i).n 100 && (decide (i = 0) || decide ((nth Pu.z xs (i - 1)).c < (nth Pu.z xs i).c))
def liB (t : Ta) : Bool := decide (t.way = 0) || decide (t.way = 1)
def tkN (s : Sy) (i : Nat) : Ta := nth Ta.z s.tasks i
def acts (p : Pr) (t : Ta) : List Ac := nth [] p.bodies t.body.toNat
def upfB (s : Sy) (i : Nat) : Bool :=
 if i = 0 then decide ((tkN s i).up = -1) else plB (tkN s i).up i && (!liB (tkN s i) || decide ((tkN s (tkN s i).up.toNat).way = 1))
def kin (ts : List Ta) (i : Int) (way : Int) : Nat := (ts.filter fun u => decide (u.up = i) && decide (u.way = way)).length
def kno (ts : List Ta) (i : Int) : Nat := (ts.filter fun u => decide (u.up = i) && !decide (u.way = 4)).length
def tnB (p : Pr) (t : Ta) : Bool := plB t.body p.bodies.length && inB t.pc 0 (acts p t).length && rgB t.regs && rgB t.old && inB t.way 0 4 && inB t.stage 0 5
def acN (p : Pr) (t : Ta) : Ac := if t.pc = (acts p t).length then Ac.z else nth Ac.z (acts p t) t.pc.toNat
def wyB (p : Pr) (s : Sy) (i : Nat) : Bool :=
 if (tkN s i).way = 1 then decide ((acN p (tkN s i)).k = 2) && decide ((acN p (tkN s i)).ks.length <= kno s.tasks i)
 else if (tkN s i).way = 2 then decide ((tkN s i).pc = (acts p (tkN s i)).length) else true
def atB (t : Ta) (n : Nat) : Bool :=
 if 2 <= t.stage /\ t.puts.length = 0 then false
 else if t.stage = 1 then inB t.at_ 0 n
 else if t.stage = 2 \/ t.stage = 5 then plB t.at_ t.puts.length
 else if t.stage = 4 then inB t.at_ 0 t.reads.length
 else decide (t.at_ = 0)
def whB (t : Ta) (clock : Int) : Bool :=
 if t.stage = 0 then inB t.when_ 0 (clock + 1)
 else if t.stage = 4 \/ t.stage = 5 then decide (t.since < t.when_) && decide (t.when_ <= clock)
 else decide (t.when_ = 0)
def cgB (p : Pr) (s : Sy) (t : Ta) : Bool :=
 !(!decide (t.stage = 0) && (!decide (t.way = 0) || !decide ((acN p t).k = 1))) && !(decide (t.stage = 0) && decide (0 < t.reads.length + t.puts.length)) &&
 (puB t.reads p.cells.length && (puB t.puts p.cells.length && (atB t (acN p t).ds.length && (inB t.since 0 s.clock && (inB t.from_ 0 s.log.length && whB t s.clock)))))
def tkB (p : Pr) (s : Sy) (i : Nat) : Bool := tnB p (tkN s i) && upfB s i && wyB p s i && cgB p s (tkN s i)
def tksB (p : Pr) (s : Sy) : Bool := inB s.tasks.length 1 7 && (List.range s.tasks.length).all (tkB p s)
def phL (t : Ta) : List Pu := if t.stage = 2 then t.puts.take t.at_.toNat else if t.stage = 3 \/ t.stage = 4 then t.puts else if t.stage = 5 then t.puts.drop t.at_.toNat else []
def hold1 (i : Int) : List Int -> List Pu -> Option (List Int)
 | h, [] => some h
 | h, x :: xs => if nth 0 h x.c.toNat = -1 then hold1 i (h.set x.c.toNat i) xs else none
def holdN (ts : List Ta) (h0 : List Int) : Nat -> Option (List Int)
 | 0 => some h0
 | k + 1 => (holdN ts h0 k).bind fun h => hold1 k h (phL (nth Ta.z ts k))
def ceB (s : Sy) (h : List Int) (i : Nat) : Bool := plB (nth Ce.z s.cells i).num 100 && inB (nth Ce.z s.cells i).time 0 s.clock && decide ((nth Ce.z s.cells i).lock = nth 0 h i)
def cesB (p : Pr) (s : Sy) : Bool :=
 decide (s.cells.length = p.cells.length) && (match holdN s.tasks (List.replicate s.cells.length (-1)) s.tasks.length with
  | none => false
  | some h => (List.range s.cells.length).all (ceB s h))
def enN (s : Sy) (i : Nat) : En := nth En.z s.log i
def enB (p : Pr) (s : Sy) (i : Nat) : Bool :=
 plB (enN s i).task s.tasks.length && plB (enN s i).act (acts p (tkN s (enN s i).task.toNat)).length && inB (enN s i).when_ 0 s.clock && inB (enN s i).from_ 0 i && puB (enN s i).reads p.cells.length && puB (enN s i).puts p.cells.length
def lgB (p : Pr) (s : Sy) : Bool := (List.range s.log.length).all (enB p s)
def soB (p : Pr) (s : Sy) : Bool := okB p && inB s.clock 0 200 && tksB p s && cesB p s && lgB p s
def mAtB (t : Ta) (n : Nat) : Bool :=
 if t.stage = 0 then decide (t.at_ = 0) && decide (t.reads.length + t.puts.length = 0)
 else if t.stage = 1 then inB t.at_ 0 n
 else if t.stage = 3 then decide (t.at_ = 0) && decide (0 < t.puts.length)
 else if t.stage = 4 then inB t.at_ 0 t.reads.length && decide (0 < t.puts.length)
 else plB t.at_ t.puts.length
def mWhB (t : Ta) (s : Sy) : Bool :=
 if inB t.since 0 s.clock && inB t.from_ 0 s.log.length then
  if t.stage = 0 then inB t.when_ 0 (s.clock + 1)
  else if t.stage = 4 \/ t.stage = 5 then inB t.when_ (t.since + 1) s.clock
  else decide (t.when_ = 0)
 else false
def mActB (p : Pr) (s : Sy) (i : Nat) : Bool :=
 if (tkN s i).way = 0 then decide ((tkN s i).stage = 0) || (decide ((tkN s i).pc < (acts p (tkN s i)).length) && decide ((nth Ac.z (acts p (tkN s i)) (tkN s i).pc.toNat).k = 1) && mAtB (tkN s i) (nth Ac.z (acts p (tkN s i)) (tkN s i).pc.toNat).ds.length)
 else if (tkN s i).way = 1 then decide ((tkN s i).pc < (acts p (tkN s i)).length) && decide ((nth Ac.z (acts p (tkN s i)) (tkN s i).pc.toNat).k = 2) && decide ((nth Ac.z (acts p (tkN s i)) (tkN s i).pc.toNat).ks.length <= kin s.tasks i 0 + kin s.tasks i 1 + kin s.tasks i 2 + kin s.tasks i 3)
 else if (tkN s i).way = 2 then decide ((tkN s i).pc = (acts p (tkN s i)).length)
 else true
def mNumB (p : Pr) (t : Ta) : Bool := plB t.body p.bodies.length && inB t.pc 0 (acts p t).length && inB t.way 0 4 && inB t.stage 0 5
def mLsB (s : Sy) (t : Ta) : Bool := !(!decide (t.way = 0) && !decide (t.stage = 0)) && rgB t.regs && rgB t.old && puB t.reads s.cells.length && puB t.puts s.cells.length
def mNoB (t : Ta) : Bool := !decide (t.stage = 0) || (decide (t.at_ = 0) && decide (t.reads.length + t.puts.length = 0))
def mTkB (p : Pr) (s : Sy) (i : Nat) : Bool := mNumB p (tkN s i) && mLsB s (tkN s i) && (mNoB (tkN s i) && mWhB (tkN s i) s && upfB s i && mActB p s i)
def fdP (xs : List Pu) (c : Int) : Option Nat := (List.range xs.length).find? fun i => decide ((nth Pu.z xs i).c = c)
def mHoB (t : Ta) (c : Int) : Bool := match fdP t.puts c with
 | none => false
 | some i => if t.stage = 2 then decide ((i : Int) < t.at_) else if t.stage = 3 \/ t.stage = 4 then true else if t.stage = 5 then decide (t.at_ <= (i : Int)) else false
def mCeB (s : Sy) (i : Nat) : Bool :=
 plB (nth Ce.z s.cells i).num 100 && inB (nth Ce.z s.cells i).time 0 s.clock && inB (nth Ce.z s.cells i).lock (-1) (s.tasks.length - 1) &&
 (List.range s.tasks.length).all fun k => mHoB (nth Ta.z s.tasks k) i == decide ((nth Ce.z s.cells i).lock = k)
def mCesB (s : Sy) : Bool := (List.range s.cells.length).all (mCeB s)
def mEnB (p : Pr) (s : Sy) (i : Nat) : Bool :=
 plB (enN s i).task s.tasks.length && inB (enN s i).when_ 0 s.clock && inB (enN s i).from_ 0 i && puB (enN s i).reads s.cells.length && puB (enN s i).puts s.cells.length && plB (enN s i).act (acts p (tkN s (enN s i).task.toNat)).length
def mLgB (p : Pr) (s : Sy) : Bool := (List.range s.log.length).all (mEnB p s)
def mSoB (p : Pr) (s : Sy) : Bool := okB p && decide (s.cells.length = p.cells.length) && inB s.tasks.length 1 7 && inB s.clock 0 200 && (List.range s.tasks.length).all (mTkB p s) && mCesB s && mLgB p s
end Go.Proofs.Ytgbgjljflgbcaaa
