import Derived.Test.YtgbgjljflgbcaaaXn14
namespace Go.Proofs.Ytgbgjljflgbcaaa
open Go.RowKit
set_option linter.unusedSimpArgs false
set_option linter.unusedVariables false
structure Pu where
  c : Int
  n : Int
def Pu.z : Pu := ⟨0, 0⟩
def PusAt (w : World) (v : Value) (xs : List Pu) : Prop :=
  ∃ a cap, v = .slice a xs.length cap ∧ (xs.length ≤ cap ∧ cap ≤ 9223372036854775807) ∧ ∀ i, i < xs.length → ∃ b off, a = some ⟨b, off, none⟩ ∧ b < w.heap.size ∧
    w.cell? ⟨b, off + i * 2, none⟩ = some (.int .i64 (nth Pu.z xs i).c) ∧ w.cell? ⟨b, off + i * 2 + 1, none⟩ = some (.int .i64 (nth Pu.z xs i).n)
def PusOn (S : Nat → Prop) (w : World) (v : Value) (xs : List Pu) : Prop :=
  ∃ a cap, v = .slice a xs.length cap ∧ (xs.length ≤ cap ∧ cap ≤ 9223372036854775807) ∧ ∀ i, i < xs.length → ∃ b off, a = some ⟨b, off, none⟩ ∧ S b ∧ b < w.heap.size ∧
    w.cell? ⟨b, off + i * 2, none⟩ = some (.int .i64 (nth Pu.z xs i).c) ∧ w.cell? ⟨b, off + i * 2 + 1, none⟩ = some (.int .i64 (nth Pu.z xs i).n)
theorem PusAt.mono {w w' : World} {v : Value} {xs : List Pu} (h : PusAt w v xs) (hb : Below w.heap.size w w') : PusAt w' v xs := by
  obtain ⟨a, cap, rfl, hm, hc⟩ := h
  refine ⟨a, cap, rfl, hm, fun i hi => ?_⟩
  obtain ⟨b, off, rfl, hbw, c0, c1⟩ := hc i hi
  rw [← hb.cell (p := ⟨b, _, none⟩) hbw] at c0 c1
  exact ⟨b, off, rfl, Nat.lt_of_lt_of_le hbw hb.size, c0, c1⟩
theorem PusAt.shape {w : World} {v : Value} {xs : List Pu} (h : PusAt w v xs) : ∃ a cap, v = .slice a xs.length cap ∧ xs.length ≤ 9223372036854775807 := let ⟨a, c, h1, h2, _⟩ := h; ⟨a, c, h1, by omega⟩
theorem PusOn.kept {S : Nat → Prop} {w w' : World} {v : Value} {xs : List Pu} (h : PusOn S w v xs) (hb : Kept S w w') : PusOn S w' v xs := by
  obtain ⟨a, cap, rfl, hm, hc⟩ := h
  refine ⟨a, cap, rfl, hm, fun i hi => ?_⟩
  obtain ⟨b, off, rfl, hS, hbw, c0, c1⟩ := hc i hi
  rw [← hb.cell b _ hS hbw] at c0 c1
  exact ⟨b, off, rfl, hS, Nat.lt_of_lt_of_le hbw hb.size, c0, c1⟩
theorem PusOn.wide {S S' : Nat → Prop} (hS : ∀ b, S b → S' b) {w : World} {v : Value} {xs : List Pu} (h : PusOn S w v xs) : PusOn S' w v xs := by
  obtain ⟨a, cap, rfl, hm, hc⟩ := h
  refine ⟨a, cap, rfl, hm, fun i hi => ?_⟩
  obtain ⟨b, off, e, g1, g2, c0, c1⟩ := hc i hi
  exact ⟨b, off, e, hS b g1, g2, c0, c1⟩
theorem PusOn.at {S : Nat → Prop} {w : World} {v : Value} {xs : List Pu} (h : PusOn S w v xs) : PusAt w v xs := by
  obtain ⟨a, cap, rfl, hm, hc⟩ := h
  refine ⟨a, cap, rfl, hm, fun i hi => ?_⟩
  obtain ⟨b, off, e, _, g2, c0, c1⟩ := hc i hi
  exact ⟨b, off, e, g2, c0, c1⟩
structure Ce where
  num : Int
  time : Int
  lock : Int
def Ce.z : Ce := ⟨0, 0, 0⟩
def CesAt (w : World) (v : Value) (xs : List Ce) : Prop :=
  ∃ a cap, v = .slice a xs.length cap ∧ (xs.length ≤ cap ∧ cap ≤ 9223372036854775807) ∧ ∀ i, i < xs.length → ∃ b off, a = some ⟨b, off, none⟩ ∧ b < w.heap.size ∧
    w.cell? ⟨b, off + i * 3, none⟩ = some (.int .i64 (nth Ce.z xs i).num) ∧ w.cell? ⟨b, off + i * 3 + 1, none⟩ = some (.int .i64 (nth Ce.z xs i).time) ∧ w.cell? ⟨b, off + i * 3 + 2, none⟩ = some (.int .i64 (nth Ce.z xs i).lock)
def CesOn (S : Nat → Prop) (w : World) (v : Value) (xs : List Ce) : Prop :=
  ∃ a cap, v = .slice a xs.length cap ∧ (xs.length ≤ cap ∧ cap ≤ 9223372036854775807) ∧ ∀ i, i < xs.length → ∃ b off, a = some ⟨b, off, none⟩ ∧ S b ∧ b < w.heap.size ∧
    w.cell? ⟨b, off + i * 3, none⟩ = some (.int .i64 (nth Ce.z xs i).num) ∧ w.cell? ⟨b, off + i * 3 + 1, none⟩ = some (.int .i64 (nth Ce.z xs i).time) ∧ w.cell? ⟨b, off + i * 3 + 2, none⟩ = some (.int .i64 (nth Ce.z xs i).lock)
theorem CesAt.mono {w w' : World} {v : Value} {xs : List Ce} (h : CesAt w v xs) (hb : Below w.heap.size w w') : CesAt w' v xs := by
  obtain ⟨a, cap, rfl, hm, hc⟩ := h
  refine ⟨a, cap, rfl, hm, fun i hi => ?_⟩
  obtain ⟨b, off, rfl, hbw, c0, c1, c2⟩ := hc i hi
  rw [← hb.cell (p := ⟨b, _, none⟩) hbw] at c0 c1 c2
  exact ⟨b, off, rfl, Nat.lt_of_lt_of_le hbw hb.size, c0, c1, c2⟩
theorem CesAt.shape {w : World} {v : Value} {xs : List Ce} (h : CesAt w v xs) : ∃ a cap, v = .slice a xs.length cap ∧ xs.length ≤ 9223372036854775807 := let ⟨a, c, h1, h2, _⟩ := h; ⟨a, c, h1, by omega⟩
theorem CesOn.kept {S : Nat → Prop} {w w' : World} {v : Value} {xs : List Ce} (h : CesOn S w v xs) (hb : Kept S w w') : CesOn S w' v xs := by
  obtain ⟨a, cap, rfl, hm, hc⟩ := h
  refine ⟨a, cap, rfl, hm, fun i hi => ?_⟩
  obtain ⟨b, off, rfl, hS, hbw, c0, c1, c2⟩ := hc i hi
  rw [← hb.cell b _ hS hbw] at c0 c1 c2
  exact ⟨b, off, rfl, hS, Nat.lt_of_lt_of_le hbw hb.size, c0, c1, c2⟩
theorem CesOn.wide {S S' : Nat → Prop} (hS : ∀ b, S b → S' b) {w : World} {v : Value} {xs : List Ce} (h : CesOn S w v xs) : CesOn S' w v xs := by
  obtain ⟨a, cap, rfl, hm, hc⟩ := h
  refine ⟨a, cap, rfl, hm, fun i hi => ?_⟩
  obtain ⟨b, off, e, g1, g2, c0, c1, c2⟩ := hc i hi
  exact ⟨b, off, e, hS b g1, g2, c0, c1, c2⟩
theorem CesOn.at {S : Nat → Prop} {w : World} {v : Value} {xs : List Ce} (h : CesOn S w v xs) : CesAt w v xs := by
  obtain ⟨a, cap, rfl, hm, hc⟩ := h
  refine ⟨a, cap, rfl, hm, fun i hi => ?_⟩
  obtain ⟨b, off, e, _, g2, c0, c1, c2⟩ := hc i hi
  exact ⟨b, off, e, g2, c0, c1, c2⟩
structure Ta where
  body : Int
  pc : Int
  up : Int
  regs : List Int
  way : Int
  stage : Int
  at_ : Int
  since : Int
  old : List Int
  reads : List Pu
  puts : List Pu
  when_ : Int
  from_ : Int
def Ta.z : Ta := ⟨0, 0, 0, [], 0, 0, 0, 0, [], [], [], 0, 0⟩
def TasAt (w : World) (v : Value) (xs : List Ta) : Prop :=
  ∃ a cap, v = .slice a xs.length cap ∧ (xs.length ≤ cap ∧ cap ≤ 9223372036854775807) ∧ ∀ i, i < xs.length → ∃ b off v3 v8 v9 v10, a = some ⟨b, off, none⟩ ∧ b < w.heap.size ∧
    w.cell? ⟨b, off + i * 13, none⟩ = some (.int .i64 (nth Ta.z xs i).body) ∧ w.cell? ⟨b, off + i * 13 + 1, none⟩ = some (.int .i64 (nth Ta.z xs i).pc) ∧ w.cell? ⟨b, off + i * 13 + 2, none⟩ = some (.int .i64 (nth Ta.z xs i).up) ∧ w.cell? ⟨b, off + i * 13 + 3, none⟩ = some (v3) ∧ w.cell? ⟨b, off + i * 13 + 4, none⟩ = some (.int .i64 (nth Ta.z xs i).way) ∧ w.cell? ⟨b, off + i * 13 + 5, none⟩ = some (.int .i64 (nth Ta.z xs i).stage) ∧ w.cell? ⟨b, off + i * 13 + 6, none⟩ = some (.int .i64 (nth Ta.z xs i).at_) ∧ w.cell? ⟨b, off + i * 13 + 7, none⟩ = some (.int .i64 (nth Ta.z xs i).since) ∧ w.cell? ⟨b, off + i * 13 + 8, none⟩ = some (v8) ∧ w.cell? ⟨b, off + i * 13 + 9, none⟩ = some (v9) ∧ w.cell? ⟨b, off + i * 13 + 10, none⟩ = some (v10) ∧ w.cell? ⟨b, off + i * 13 + 11, none⟩ = some (.int .i64 (nth Ta.z xs i).when_) ∧ w.cell? ⟨b, off + i * 13 + 12, none⟩ = some (.int .i64 (nth Ta.z xs i).from_) ∧ IntsAt w v3 (nth Ta.z xs i).regs ∧ IntsAt w v8 (nth Ta.z xs i).old ∧ PusAt w v9 (nth Ta.z xs i).reads ∧ PusAt w v10 (nth Ta.z xs i).puts
def TasOn (S : Nat → Prop) (w : World) (v : Value) (xs : List Ta) : Prop :=
  ∃ a cap, v = .slice a xs.length cap ∧ (xs.length ≤ cap ∧ cap ≤ 9223372036854775807) ∧ ∀ i, i < xs.length → ∃ b off v3 v8 v9 v10, a = some ⟨b, off, none⟩ ∧ S b ∧ b < w.heap.size ∧
    w.cell? ⟨b, off + i * 13, none⟩ = some (.int .i64 (nth Ta.z xs i).body) ∧ w.cell? ⟨b, off + i * 13 + 1, none⟩ = some (.int .i64 (nth Ta.z xs i).pc) ∧ w.cell? ⟨b, off + i * 13 + 2, none⟩ = some (.int .i64 (nth Ta.z xs i).up) ∧ w.cell? ⟨b, off + i * 13 + 3, none⟩ = some (v3) ∧ w.cell? ⟨b, off + i * 13 + 4, none⟩ = some (.int .i64 (nth Ta.z xs i).way) ∧ w.cell? ⟨b, off + i * 13 + 5, none⟩ = some (.int .i64 (nth Ta.z xs i).stage) ∧ w.cell? ⟨b, off + i * 13 + 6, none⟩ = some (.int .i64 (nth Ta.z xs i).at_) ∧ w.cell? ⟨b, off + i * 13 + 7, none⟩ = some (.int .i64 (nth Ta.z xs i).since) ∧ w.cell? ⟨b, off + i * 13 + 8, none⟩ = some (v8) ∧ w.cell? ⟨b, off + i * 13 + 9, none⟩ = some (v9) ∧ w.cell? ⟨b, off + i * 13 + 10, none⟩ = some (v10) ∧ w.cell? ⟨b, off + i * 13 + 11, none⟩ = some (.int .i64 (nth Ta.z xs i).when_) ∧ w.cell? ⟨b, off + i * 13 + 12, none⟩ = some (.int .i64 (nth Ta.z xs i).from_) ∧ IntsOn S w v3 (nth Ta.z xs i).regs ∧ IntsOn S w v8 (nth Ta.z xs i).old ∧ PusOn S w v9 (nth Ta.z xs i).reads ∧ PusOn S w v10 (nth Ta.z xs i).puts
theorem TasAt.mono {w w' : World} {v : Value} {xs : List Ta} (h : TasAt w v xs) (hb : Below w.heap.size w w') : TasAt w' v xs := by
  obtain ⟨a, cap, rfl, hm, hc⟩ := h
  refine ⟨a, cap, rfl, hm, fun i hi => ?_⟩
  obtain ⟨b, off, v3, v8, v9, v10, rfl, hbw, c0, c1, c2, c3, c4, c5, c6, c7, c8, c9, c10, c11, c12, h3, h8, h9, h10⟩ := hc i hi
  rw [← hb.cell (p := ⟨b, _, none⟩) hbw] at c0 c1 c2 c3 c4 c5 c6 c7 c8 c9 c10 c11 c12
  exact ⟨b, off, v3, v8, v9, v10, rfl, Nat.lt_of_lt_of_le hbw hb.size, c0, c1, c2, c3, c4, c5, c6, c7, c8, c9, c10, c11, c12, h3.mono hb, h8.mono hb, h9.mono hb, h10.mono hb⟩
theorem TasAt.shape {w : World} {v : Value} {xs : List Ta} (h : TasAt w v xs) : ∃ a cap, v = .slice a xs.length cap ∧ xs.length ≤ 9223372036854775807 := let ⟨a, c, h1, h2, _⟩ := h; ⟨a, c, h1, by omega⟩
theorem TasOn.kept {S : Nat → Prop} {w w' : World} {v : Value} {xs : List Ta} (h : TasOn S w v xs) (hb : Kept S w w') : TasOn S w' v xs := by
  obtain ⟨a, cap, rfl, hm, hc⟩ := h
  refine ⟨a, cap, rfl, hm, fun i hi => ?_⟩
  obtain ⟨b, off, v3, v8, v9, v10, rfl, hS, hbw, c0, c1, c2, c3, c4, c5, c6, c7, c8, c9, c10, c11, c12, h3, h8, h9, h10⟩ := hc i hi
  rw [← hb.cell b _ hS hbw] at c0 c1 c2 c3 c4 c5 c6 c7 c8 c9 c10 c11 c12
  exact ⟨b, off, v3, v8, v9, v10, rfl, hS, Nat.lt_of_lt_of_le hbw hb.size, c0, c1, c2, c3, c4, c5, c6, c7, c8, c9, c10, c11, c12, h3.kept hb, h8.kept hb, h9.kept hb, h10.kept hb⟩
theorem TasOn.wide {S S' : Nat → Prop} (hS : ∀ b, S b → S' b) {w : World} {v : Value} {xs : List Ta} (h : TasOn S w v xs) : TasOn S' w v xs := by
  obtain ⟨a, cap, rfl, hm, hc⟩ := h
  refine ⟨a, cap, rfl, hm, fun i hi => ?_⟩
  obtain ⟨b, off, v3, v8, v9, v10, e, g1, g2, c0, c1, c2, c3, c4, c5, c6, c7, c8, c9, c10, c11, c12, h3, h8, h9, h10⟩ := hc i hi
  exact ⟨b, off, v3, v8, v9, v10, e, hS b g1, g2, c0, c1, c2, c3, c4, c5, c6, c7, c8, c9, c10, c11, c12, h3.wide hS, h8.wide hS, h9.wide hS, h10.wide hS⟩
theorem TasOn.at {S : Nat → Prop} {w : World} {v : Value} {xs : List Ta} (h : TasOn S w v xs) : TasAt w v xs := by
  obtain ⟨a, cap, rfl, hm, hc⟩ := h
  refine ⟨a, cap, rfl, hm, fun i hi => ?_⟩
  obtain ⟨b, off, v3, v8, v9, v10, e, _, g2, c0, c1, c2, c3, c4, c5, c6, c7, c8, c9, c10, c11, c12, h3, h8, h9, h10⟩ := hc i hi
  exact ⟨b, off, v3, v8, v9, v10, e, g2, c0, c1, c2, c3, c4, c5, c6, c7, c8, c9, c10, c11, c12, h3.at, h8.at, h9.at, h10.at⟩
structure En where
  task : Int
  act : Int
  when_ : Int
  reads : List Pu
  puts : List Pu
  from_ : Int
def En.z : En := ⟨0, 0, 0, [], [], 0⟩
def EnsAt (w : World) (v : Value) (xs : List En) : Prop :=
  ∃ a cap, v = .slice a xs.length cap ∧ (xs.length ≤ cap ∧ cap ≤ 9223372036854775807) ∧ ∀ i, i < xs.length → ∃ b off v3 v4, a = some ⟨b, off, none⟩ ∧ b < w.heap.size ∧
    w.cell? ⟨b, off + i * 6, none⟩ = some (.int .i64 (nth En.z xs i).task) ∧ w.cell? ⟨b, off + i * 6 + 1, none⟩ = some (.int .i64 (nth En.z xs i).act) ∧ w.cell? ⟨b, off + i * 6 + 2, none⟩ = some (.int .i64 (nth En.z xs i).when_) ∧ w.cell? ⟨b, off + i * 6 + 3, none⟩ = some (v3) ∧ w.cell? ⟨b, off + i * 6 + 4, none⟩ = some (v4) ∧ w.cell? ⟨b, off + i * 6 + 5, none⟩ = some (.int .i64 (nth En.z xs i).from_) ∧ PusAt w v3 (nth En.z xs i).reads ∧ PusAt w v4 (nth En.z xs i).puts
def EnsOn (S : Nat → Prop) (w : World) (v : Value) (xs : List En) : Prop :=
  ∃ a cap, v = .slice a xs.length cap ∧ (xs.length ≤ cap ∧ cap ≤ 9223372036854775807) ∧ ∀ i, i < xs.length → ∃ b off v3 v4, a = some ⟨b, off, none⟩ ∧ S b ∧ b < w.heap.size ∧
    w.cell? ⟨b, off + i * 6, none⟩ = some (.int .i64 (nth En.z xs i).task) ∧ w.cell? ⟨b, off + i * 6 + 1, none⟩ = some (.int .i64 (nth En.z xs i).act) ∧ w.cell? ⟨b, off + i * 6 + 2, none⟩ = some (.int .i64 (nth En.z xs i).when_) ∧ w.cell? ⟨b, off + i * 6 + 3, none⟩ = some (v3) ∧ w.cell? ⟨b, off + i * 6 + 4, none⟩ = some (v4) ∧ w.cell? ⟨b, off + i * 6 + 5, none⟩ = some (.int .i64 (nth En.z xs i).from_) ∧ PusOn S w v3 (nth En.z xs i).reads ∧ PusOn S w v4 (nth En.z xs i).puts
theorem EnsAt.mono {w w' : World} {v : Value} {xs : List En} (h : EnsAt w v xs) (hb : Below w.heap.size w w') : EnsAt w' v xs := by
  obtain ⟨a, cap, rfl, hm, hc⟩ := h
  refine ⟨a, cap, rfl, hm, fun i hi => ?_⟩
  obtain ⟨b, off, v3, v4, rfl, hbw, c0, c1, c2, c3, c4, c5, h3, h4⟩ := hc i hi
  rw [← hb.cell (p := ⟨b, _, none⟩) hbw] at c0 c1 c2 c3 c4 c5
  exact ⟨b, off, v3, v4, rfl, Nat.lt_of_lt_of_le hbw hb.size, c0, c1, c2, c3, c4, c5, h3.mono hb, h4.mono hb⟩
theorem EnsAt.shape {w : World} {v : Value} {xs : List En} (h : EnsAt w v xs) : ∃ a cap, v = .slice a xs.length cap ∧ xs.length ≤ 9223372036854775807 := let ⟨a, c, h1, h2, _⟩ := h; ⟨a, c, h1, by omega⟩
theorem EnsOn.kept {S : Nat → Prop} {w w' : World} {v : Value} {xs : List En} (h : EnsOn S w v xs) (hb : Kept S w w') : EnsOn S w' v xs := by
  obtain ⟨a, cap, rfl, hm, hc⟩ := h
  refine ⟨a, cap, rfl, hm, fun i hi => ?_⟩
  obtain ⟨b, off, v3, v4, rfl, hS, hbw, c0, c1, c2, c3, c4, c5, h3, h4⟩ := hc i hi
  rw [← hb.cell b _ hS hbw] at c0 c1 c2 c3 c4 c5
  exact ⟨b, off, v3, v4, rfl, hS, Nat.lt_of_lt_of_le hbw hb.size, c0, c1, c2, c3, c4, c5, h3.kept hb, h4.kept hb⟩
theorem EnsOn.wide {S S' : Nat → Prop} (hS : ∀ b, S b → S' b) {w : World} {v : Value} {xs : List En} (h : EnsOn S w v xs) : EnsOn S' w v xs := by
  obtain ⟨a, cap, rfl, hm, hc⟩ := h
  refine ⟨a, cap, rfl, hm, fun i hi => ?_⟩
  obtain ⟨b, off, v3, v4, e, g1, g2, c0, c1, c2, c3, c4, c5, h3, h4⟩ := hc i hi
  exact ⟨b, off, v3, v4, e, hS b g1, g2, c0, c1, c2, c3, c4, c5, h3.wide hS, h4.wide hS⟩
theorem EnsOn.at {S : Nat → Prop} {w : World} {v : Value} {xs : List En} (h : EnsOn S w v xs) : EnsAt w v xs := by
  obtain ⟨a, cap, rfl, hm, hc⟩ := h
  refine ⟨a, cap, rfl, hm, fun i hi => ?_⟩
  obtain ⟨b, off, v3, v4, e, _, g2, c0, c1, c2, c3, c4, c5, h3, h4⟩ := hc i hi
  exact ⟨b, off, v3, v4, e, g2, c0, c1, c2, c3, c4, c5, h3.at, h4.at⟩
structure Sy where
  cells : List Ce
  tasks : List Ta
  clock : Int
  log : List En
end Go.Proofs.Ytgbgjljflgbcaaa
