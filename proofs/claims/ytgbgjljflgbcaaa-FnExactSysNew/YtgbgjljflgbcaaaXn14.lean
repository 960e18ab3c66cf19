import Derived.Test.YtgbgjljflgbcaaaXn13
namespace Go.Proofs.Ytgbgjljflgbcaaa
open Go.RowKit
def Blk (w : World) (g n : Nat) : Prop := g < w.heap.size ∧ ∀ j, j < n → (∃ v, w.cell? ⟨g, j, none⟩ = some v) ∧ w.frozen? ⟨g, j, none⟩ = false
theorem Blk.new (w : World) (M : Array Value) (t : TypeId) : Blk (w.alloc (.cells M t)) w.heap.size M.size :=
  ⟨by simp, fun j hj => ⟨⟨M[j], by simp [hj]⟩, by simp⟩⟩
theorem Blk.below {w w' : World} {g n : Nat} (h : Blk w g n) (hb : Below w.heap.size w w') : Blk w' g n :=
  ⟨Nat.lt_of_lt_of_le h.1 hb.size, fun j hj => ⟨by rw [hb.cell (p := ⟨g, j, none⟩) h.1]; exact (h.2 j hj).1, by rw [hb.frozen (p := ⟨g, j, none⟩) h.1]; exact (h.2 j hj).2⟩⟩
theorem cell_set_same {w : World} {g n : Nat} (h : Blk w g n) (i : Nat) (hi : i < n) (x : Value) : (w.setCell ⟨g, i, none⟩ x).cell? ⟨g, i, none⟩ = some x := by
  obtain ⟨v, hv⟩ := (h.2 i hi).1
  exact World.cell?_setCell_same w ⟨g, i, none⟩ x hv
theorem cell_set_other (w : World) (g i : Nat) (x : Value) (a : Addr) (h : a ≠ ⟨g, i, none⟩) : (w.setCell ⟨g, i, none⟩ x).cell? a = w.cell? a :=
  World.cell?_setCell_other w ⟨g, i, none⟩ a x (fun e => h e.symm)
theorem Blk.set {w : World} {g n : Nat} (h : Blk w g n) (i : Nat) (x : Value) : Blk (w.setCell ⟨g, i, none⟩ x) g n := by
  refine ⟨by simpa using h.1, fun j hj => ⟨?_, by simpa using (h.2 j hj).2⟩⟩
  obtain ⟨v, hv⟩ := (h.2 j hj).1
  by_cases e : j = i
  · subst e; exact ⟨x, World.cell?_setCell_same w ⟨g, j, none⟩ x hv⟩
  · exact ⟨v, by rw [cell_set_other w g i x ⟨g, j, none⟩ (fun q => e (by injection q))]; exact hv⟩
theorem make_any {P : Program} (t e : TypeId) (z : Value) (size bytes : Nat) (ht : P.underlying t = some (.slice e)) (hinfo : (P.info? e).map (fun i => (i.zero, i.size, i.bytes)) = some (some z, size, bytes))
    (n : Nat) (hn : bytes * n ≤ 281474976710656) (h63 : n ≤ 9223372036854775807) :
    ∃ M : Array Value, M.size = n * size ∧ ∀ w : World, (Instr.makeSlice t (.int .i64 (n : Int)) (.int .i64 (n : Int))).run P w = .ok (.slice (some ⟨w.heap.size, 0, none⟩) n n) (w.alloc (.cells M e)) := by
  obtain ⟨i, hi, hzz⟩ := Option.map_eq_some_iff.1 hinfo
  simp only [Prod.mk.injEq] at hzz
  obtain ⟨hz, hs, hb⟩ := hzz
  refine ⟨madeCells z.cells (n * size), size_madeCells _ _, fun w => ?_⟩
  have hb' : (i.bytes : Int) * (n : Int) ≤ 281474976710656 := by
    have h : ((i.bytes * n : Nat) : Int) ≤ 281474976710656 := by rw [hb]; omega
    rwa [Int.natCast_mul] at h
  have hr := run_make (P := P) w t e i z ht hi hz .i64 .i64 n n (by omega) (Int.le_refl _) hb' (by omega)
  simp only [Int.toNat_natCast, hs] at hr
  exact hr
theorem Try.info_int : (Try.prog.info? 3).map (fun i => (i.zero, i.size, i.bytes)) = some (some (.int .i64 0), 1, 8) := by kernel_rfl
theorem Try.info_acts : (Try.prog.info? 113).map (fun i => (i.zero, i.size, i.bytes)) = some (some (.slice none 0 0), 1, 24) := by kernel_rfl
def IntsOn (S : Nat → Prop) (w : World) (v : Value) (xs : List Int) : Prop :=
  ∃ a cap, v = .slice a xs.length cap ∧ xs.length ≤ 9223372036854775807 ∧ ∀ i, i < xs.length → ∃ b off, a = some ⟨b, off, none⟩ ∧ S b ∧ b < w.heap.size ∧
    w.cell? ⟨b, off + i, none⟩ = some (.int .i64 (nth 0 xs i))
def DeedsOn (S : Nat → Prop) (w : World) (v : Value) (ds : List De) : Prop :=
  ∃ a cap, v = .slice a ds.length cap ∧ ds.length ≤ 9223372036854775807 ∧ ∀ i, i < ds.length → ∃ b off, a = some ⟨b, off, none⟩ ∧ S b ∧ b < w.heap.size ∧
    w.cell? ⟨b, off + i * 3, none⟩ = some (.int .i64 (nth De.z ds i).k) ∧ w.cell? ⟨b, off + i * 3 + 1, none⟩ = some (.int .i64 (nth De.z ds i).a) ∧ w.cell? ⟨b, off + i * 3 + 2, none⟩ = some (.int .i64 (nth De.z ds i).b)
def ActsOn (S : Nat → Prop) (w : World) (v : Value) (acts : List Ac) : Prop :=
  ∃ a cap, v = .slice a acts.length cap ∧ acts.length ≤ 9223372036854775807 ∧ ∀ i, i < acts.length → ∃ b off dv kv, a = some ⟨b, off, none⟩ ∧ S b ∧ b < w.heap.size ∧
    w.cell? ⟨b, off + i * 4, none⟩ = some (.int .i64 (nth Ac.z acts i).k) ∧ w.cell? ⟨b, off + i * 4 + 1, none⟩ = some dv ∧ w.cell? ⟨b, off + i * 4 + 2, none⟩ = some kv ∧ w.cell? ⟨b, off + i * 4 + 3, none⟩ = some (.int .i64 (nth Ac.z acts i).r) ∧
    DeedsOn S w dv (nth Ac.z acts i).ds ∧ IntsOn S w kv (nth Ac.z acts i).ks
def BodiesOn (S : Nat → Prop) (w : World) (v : Value) (bs : List (List Ac)) : Prop :=
  ∃ a cap, v = .slice a bs.length cap ∧ bs.length ≤ 9223372036854775807 ∧ ∀ i, i < bs.length → ∃ b off av, a = some ⟨b, off, none⟩ ∧ S b ∧ b < w.heap.size ∧
    w.cell? ⟨b, off + i, none⟩ = some av ∧ ActsOn S w av (nth [] bs i)
structure Kept (S : Nat → Prop) (w w' : World) : Prop where
  size : w.heap.size ≤ w'.heap.size
  cell : ∀ b o, S b → b < w.heap.size → w'.cell? ⟨b, o, none⟩ = w.cell? ⟨b, o, none⟩
theorem Kept.refl (S : Nat → Prop) (w : World) : Kept S w w := ⟨Nat.le_refl _, fun _ _ _ _ => rfl⟩
theorem Kept.trans {S : Nat → Prop} {a b c : World} (h : Kept S a b) (k : Kept S b c) : Kept S a c :=
  ⟨Nat.le_trans h.size k.size, fun x o hx hs => (k.cell x o hx (Nat.lt_of_lt_of_le hs h.size)).trans (h.cell x o hx hs)⟩
theorem Kept.below {S : Nat → Prop} {w w' : World} (h : Below w.heap.size w w') : Kept S w w' := ⟨h.size, fun b o _ hb => h.cell (p := ⟨b, o, none⟩) hb⟩
theorem Kept.set {S : Nat → Prop} (w : World) (g i : Nat) (x : Value) (hg : ¬ S g) : Kept S w (w.setCell ⟨g, i, none⟩ x) :=
  ⟨by simp, fun b o hb _ => cell_set_other w g i x ⟨b, o, none⟩ (fun e => hg (by injection e with e1; exact e1 ▸ hb))⟩
theorem IntsOn.kept {S : Nat → Prop} {w w' : World} {v : Value} {xs : List Int} (h : IntsOn S w v xs) (hb : Kept S w w') : IntsOn S w' v xs := by
  obtain ⟨a, cap, rfl, hm, hc⟩ := h
  refine ⟨a, cap, rfl, hm, fun i hi => ?_⟩
  obtain ⟨b, off, rfl, hS, hbw, c0⟩ := hc i hi
  exact ⟨b, off, rfl, hS, Nat.lt_of_lt_of_le hbw hb.size, by rw [hb.cell b _ hS hbw]; exact c0⟩
theorem DeedsOn.kept {S : Nat → Prop} {w w' : World} {v : Value} {xs : List De} (h : DeedsOn S w v xs) (hb : Kept S w w') : DeedsOn S w' v xs := by
  obtain ⟨a, cap, rfl, hm, hc⟩ := h
  refine ⟨a, cap, rfl, hm, fun i hi => ?_⟩
  obtain ⟨b, off, rfl, hS, hbw, c0, c1, c2⟩ := hc i hi
  rw [← hb.cell b _ hS hbw] at c0 c1 c2
  exact ⟨b, off, rfl, hS, Nat.lt_of_lt_of_le hbw hb.size, c0, c1, c2⟩
theorem ActsOn.kept {S : Nat → Prop} {w w' : World} {v : Value} {xs : List Ac} (h : ActsOn S w v xs) (hb : Kept S w w') : ActsOn S w' v xs := by
  obtain ⟨a, cap, rfl, hm, hc⟩ := h
  refine ⟨a, cap, rfl, hm, fun i hi => ?_⟩
  obtain ⟨b, off, dv, kv, rfl, hS, hbw, c0, c1, c2, c3, hd, hk⟩ := hc i hi
  rw [← hb.cell b _ hS hbw] at c0 c1 c2 c3
  exact ⟨b, off, dv, kv, rfl, hS, Nat.lt_of_lt_of_le hbw hb.size, c0, c1, c2, c3, hd.kept hb, hk.kept hb⟩
theorem BodiesOn.kept {S : Nat → Prop} {w w' : World} {v : Value} {xs : List (List Ac)} (h : BodiesOn S w v xs) (hb : Kept S w w') : BodiesOn S w' v xs := by
  obtain ⟨a, cap, rfl, hm, hc⟩ := h
  refine ⟨a, cap, rfl, hm, fun i hi => ?_⟩
  obtain ⟨b, off, av, rfl, hS, hbw, c0, ha⟩ := hc i hi
  rw [← hb.cell b _ hS hbw] at c0
  exact ⟨b, off, av, rfl, hS, Nat.lt_of_lt_of_le hbw hb.size, c0, ha.kept hb⟩
theorem IntsOn.wide {S S' : Nat → Prop} (hS : ∀ b, S b → S' b) {w : World} {v : Value} {xs : List Int} (h : IntsOn S w v xs) : IntsOn S' w v xs := by
  obtain ⟨a, cap, rfl, hm, hc⟩ := h
  refine ⟨a, cap, rfl, hm, fun i hi => ?_⟩
  obtain ⟨b, off, e, h1, h2⟩ := hc i hi
  exact ⟨b, off, e, hS b h1, h2⟩
theorem DeedsOn.wide {S S' : Nat → Prop} (hS : ∀ b, S b → S' b) {w : World} {v : Value} {xs : List De} (h : DeedsOn S w v xs) : DeedsOn S' w v xs := by
  obtain ⟨a, cap, rfl, hm, hc⟩ := h
  refine ⟨a, cap, rfl, hm, fun i hi => ?_⟩
  obtain ⟨b, off, e, h1, h2⟩ := hc i hi
  exact ⟨b, off, e, hS b h1, h2⟩
theorem ActsOn.wide {S S' : Nat → Prop} (hS : ∀ b, S b → S' b) {w : World} {v : Value} {xs : List Ac} (h : ActsOn S w v xs) : ActsOn S' w v xs := by
  obtain ⟨a, cap, rfl, hm, hc⟩ := h
  refine ⟨a, cap, rfl, hm, fun i hi => ?_⟩
  obtain ⟨b, off, dv, kv, e, h1, h2, h3, h4, h5, h6, h7, h8⟩ := hc i hi
  exact ⟨b, off, dv, kv, e, hS b h1, h2, h3, h4, h5, h6, h7.wide hS, h8.wide hS⟩
theorem BodiesOn.wide {S S' : Nat → Prop} (hS : ∀ b, S b → S' b) {w : World} {v : Value} {xs : List (List Ac)} (h : BodiesOn S w v xs) : BodiesOn S' w v xs := by
  obtain ⟨a, cap, rfl, hm, hc⟩ := h
  refine ⟨a, cap, rfl, hm, fun i hi => ?_⟩
  obtain ⟨b, off, av, e, h1, h2, h3, h4⟩ := hc i hi
  exact ⟨b, off, av, e, hS b h1, h2, h3, h4.wide hS⟩
theorem IntsOn.at {S : Nat → Prop} {w : World} {v : Value} {xs : List Int} (h : IntsOn S w v xs) : IntsAt w v xs := by
  obtain ⟨a, cap, rfl, hm, hc⟩ := h
  refine ⟨a, cap, rfl, hm, fun i hi => ?_⟩
  obtain ⟨b, off, e, _, h2⟩ := hc i hi
  exact ⟨b, off, e, h2⟩
theorem DeedsOn.at {S : Nat → Prop} {w : World} {v : Value} {xs : List De} (h : DeedsOn S w v xs) : DeedsAt w v xs := by
  obtain ⟨a, cap, rfl, hm, hc⟩ := h
  refine ⟨a, cap, rfl, hm, fun i hi => ?_⟩
  obtain ⟨b, off, e, _, h2⟩ := hc i hi
  exact ⟨b, off, e, h2⟩
theorem ActsOn.at {S : Nat → Prop} {w : World} {v : Value} {xs : List Ac} (h : ActsOn S w v xs) : ActsAt w v xs := by
  obtain ⟨a, cap, rfl, hm, hc⟩ := h
  refine ⟨a, cap, rfl, hm, fun i hi => ?_⟩
  obtain ⟨b, off, dv, kv, e, _, h2, h3, h4, h5, h6, h7, h8⟩ := hc i hi
  exact ⟨b, off, dv, kv, e, h2, h3, h4, h5, h6, h7.at, h8.at⟩
theorem BodiesOn.at {S : Nat → Prop} {w : World} {v : Value} {xs : List (List Ac)} (h : BodiesOn S w v xs) : BodiesAt w v xs := by
  obtain ⟨a, cap, rfl, hm, hc⟩ := h
  refine ⟨a, cap, rfl, hm, fun i hi => ?_⟩
  obtain ⟨b, off, av, e, _, h2, h3, h4⟩ := hc i hi
  exact ⟨b, off, av, e, h2, h3, h4.at⟩
theorem IntsOn.shape {S : Nat → Prop} {w : World} {v : Value} {xs : List Int} (h : IntsOn S w v xs) : ∃ a cap, v = .slice a xs.length cap ∧ xs.length ≤ 9223372036854775807 := h.at.shape
theorem DeedsOn.shape {S : Nat → Prop} {w : World} {v : Value} {xs : List De} (h : DeedsOn S w v xs) : ∃ a cap, v = .slice a xs.length cap ∧ xs.length ≤ 9223372036854775807 := h.at.shape
theorem ActsOn.shape {S : Nat → Prop} {w : World} {v : Value} {xs : List Ac} (h : ActsOn S w v xs) : ∃ a cap, v = .slice a xs.length cap ∧ xs.length ≤ 9223372036854775807 := h.at.shape
theorem BodiesOn.shape {S : Nat → Prop} {w : World} {v : Value} {xs : List (List Ac)} (h : BodiesOn S w v xs) : ∃ a cap, v = .slice a xs.length cap ∧ xs.length ≤ 9223372036854775807 := h.at.shape
end Go.Proofs.Ytgbgjljflgbcaaa
