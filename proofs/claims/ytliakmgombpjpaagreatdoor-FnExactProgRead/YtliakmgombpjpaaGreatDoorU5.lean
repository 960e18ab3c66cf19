/-
  The model reads an act of words.
-/
import Derived.Test.YtliakmgombpjpaaGreatDoorU3
import Derived.Test.YtliakmgombpjpaaGreatDoorD6
namespace Go.Proofs.YtliakmgombpjpaaGreatDoor
open Go.RowKit
set_option linter.unusedSimpArgs false
set_option linter.unusedVariables false
set_option maxRecDepth 20000

/-! ### an act in a block of its own -/
def ABox (w : World) (g : Nat) (k : Int) (dv kv : Value) (r : Int) : Prop := w.heap[g]? = some (.cells #[.int .i64 k, dv, kv, .int .i64 r] 44 (0, 0))
theorem ABox.lt {w : World} {g : Nat} {k r : Int} {dv kv : Value} (h : ABox w g k dv kv r) : g < w.heap.size := (Array.getElem?_eq_some_iff.1 h).1
theorem ABox.cells {w : World} {g : Nat} {k r : Int} {dv kv : Value} (h : ABox w g k dv kv r) : (w.cell? ⟨g, 0, none⟩ = some (.int .i64 k) ∧ w.cell? ⟨g, 1, none⟩ = some dv ∧ w.cell? ⟨g, 2, none⟩ = some kv ∧ w.cell? ⟨g, 3, none⟩ = some (.int .i64 r)) ∧ ∀ j, w.frozen? ⟨g, j, none⟩ = false := by
  refine ⟨⟨?_, ?_, ?_, ?_⟩, fun j => frozen_of_row w g j _ _ h⟩
  all_goals rw [cell_of_row w g _ _ _ (0, 0) h]; rfl
theorem ABox.heap {w w' : World} {g : Nat} {k r : Int} {dv kv : Value} (h : ABox w g k dv kv r) (hk : w'.heap[g]? = w.heap[g]?) : ABox w' g k dv kv r := hk.trans h
theorem ABox.alloc {w : World} {g : Nat} {k r : Int} {dv kv : Value} (h : ABox w g k dv kv r) (o : Obj) : ABox (w.alloc o) g k dv kv r := h.heap (Below.heap_alloc w o g h.lt)
theorem ABox.drew {w : World} {g : Nat} {k r : Int} {dv kv : Value} (h : ABox w g k dv kv r) : ABox w.drew g k dv kv r := h
theorem ABox.below {C : Nat} {w w' : World} {g : Nat} {k r : Int} {dv kv : Value} (h : ABox w g k dv kv r) (hb : Below C w w') (hC : g < C) : ABox w' g k dv kv r := h.heap (hb.block g hC)
theorem ABox.tag {t : TypeId} {w w' : World} {g : Nat} {k r : Int} {dv kv : Value} (h : ABox w g k dv kv r) (hk : TagKept t w w') (ht : 44 ≠ t) : ABox w' g k dv kv r := h.heap (hk g _ _ h ht)
theorem ABox.set0 {w : World} {g : Nat} {k r : Int} {dv kv : Value} (h : ABox w g k dv kv r) (x : Int) : ABox (w.setCell ⟨g, 0, none⟩ (.int .i64 x)) g x dv kv r := by
  unfold ABox at h ⊢; rw [heap_setCell_same w g 0 _ _ _ h]; rfl
theorem ABox.set1 {w : World} {g : Nat} {k r : Int} {dv kv : Value} (h : ABox w g k dv kv r) (x : Value) : ABox (w.setCell ⟨g, 1, none⟩ x) g k x kv r := by
  unfold ABox at h ⊢; rw [heap_setCell_same w g 1 _ _ _ h]; rfl
theorem ABox.set2 {w : World} {g : Nat} {k r : Int} {dv kv : Value} (h : ABox w g k dv kv r) (x : Value) : ABox (w.setCell ⟨g, 2, none⟩ x) g k dv x r := by
  unfold ABox at h ⊢; rw [heap_setCell_same w g 2 _ _ _ h]; rfl
theorem ABox.set3 {w : World} {g : Nat} {k r : Int} {dv kv : Value} (h : ABox w g k dv kv r) (x : Int) : ABox (w.setCell ⟨g, 3, none⟩ (.int .i64 x)) g k dv kv x := by
  unfold ABox at h ⊢; rw [heap_setCell_same w g 3 _ _ _ h]; rfl
theorem ABox.other {w : World} {g b o : Nat} {k r : Int} {dv kv x : Value} (h : ABox w g k dv kv r) (hb : g ≠ b) : ABox (w.setCell ⟨b, o, none⟩ x) g k dv kv r := h.heap (Below.heap_setCell w ⟨b, o, none⟩ x g (fun e => hb (by simpa using e)))
theorem own_lowU {w : World} {B g o : Nat} {e : TypeId} {size : Nat} {v x : Value} {n : Nat} {xs : List Value} (h : w.ownsRow B e size v n xs) (hg : g < B) : (w.setCell ⟨g, o, none⟩ x).ownsRow B e size v n xs := ownsRow_setCell_below h (a := ⟨g, o, none⟩) hg x
theorem own_drewU {w : World} {B : Nat} {e : TypeId} {size : Nat} {v : Value} {n : Nat} {xs : List Value} (h : w.ownsRow B e size v n xs) : w.drew.ownsRow B e size v n xs := h

/-! ### which act it is -/
def kiN (n : List UInt8) (k : Nat) : Int := if n = TRY then (if 1 < k then 1 else 0) else if n = FORK then (if 2 < k then 2 else 0) else if n = FAIL then (if 3 < k then 3 else 0) else if n = FAILIF then (if 4 < k then 4 else 0) else 0
theorem kiN_one (n : List UInt8) : kiN n 1 = 0 := by unfold kiN; simp
theorem kiN_five (n : List UInt8) : kiN n 5 = kiS n := by unfold kiN kiS; simp
theorem ne_names : FORK ≠ TRY ∧ FAIL ≠ TRY ∧ FAILIF ≠ TRY ∧ FAIL ≠ FORK ∧ FAILIF ≠ FORK ∧ FAILIF ≠ FAIL := by decide
theorem kiN_1 (n : List UInt8) : kiN n 2 = if n = TRY then 1 else kiN n 1 := by
  unfold kiN; simp
theorem kiN_2 (n : List UInt8) : kiN n 3 = if n = FORK then 2 else kiN n 2 := by
  unfold kiN
  by_cases h : n = FORK
  · subst h; simp [ne_names.1]
  · simp [h]
theorem kiN_3 (n : List UInt8) : kiN n 4 = if n = FAIL then 3 else kiN n 3 := by
  unfold kiN
  by_cases h : n = FAIL
  · subst h; simp [ne_names.2.1, ne_names.2.2.2.1]
  · simp [h]
theorem kiN_4 (n : List UInt8) : kiN n 5 = if n = FAILIF then 4 else kiN n 4 := by
  unfold kiN
  by_cases h : n = FAILIF
  · subst h; simp [ne_names.2.2.1, ne_names.2.2.2.2.1, ne_names.2.2.2.2.2]
  · simp [h]
theorem bs_lst (l : List UInt8) : (bs l).toList = l := by simp [bs]
theorem l1HearDeed_l (x : List UInt8) (w : World) (hx : x.length ≤ 1048576) :
    Calls Tryz.prog 53 #[.string (bs x)] w fun e w' => e = .returned (.agg #[.int .i64 (deS x).k, .int .i64 (deS x).a, .int .i64 (deS x).b]) ∧ Below w.heap.size w w' := by
  have := l1HearDeed_any (bs x) w (by rw [bs_size]; exact hx)
  rwa [bs_data] at this
theorem own_newU {w w' : World} {B : Nat} {e : TypeId} {size : Nat} {v : Value} {n : Nat} {xs : List Value} (h : w.ownsRow B e size v n xs) (hb : Below w.heap.size w w') : w'.ownsRow B e size v n xs :=
  own_heap h fun g hg => hb.block g (h.lt g hg).2
theorem l1Num_b (x : List UInt8) (w : World) (hx : x.length ≤ 1048576) :
    Calls Tryz.prog 31 #[.string (bs x)] w fun e w' => e = .returned (.int .i64 (nuS 0 x)) ∧ Below w.heap.size w w' := by
  have := l1Num_any (bs x) w (by rw [bs_size]; exact hx)
  rw [bs_data] at this
  refine this.mono ?_
  rintro e w' ⟨rfl, rfl⟩
  exact ⟨rfl, Below.refl _ _⟩
theorem acS_end (ws : List (List UInt8)) (h : 0 < ws.length) : (ws.tail.take (ws.length - 1)).foldl woS ⟨kiS (nth [] ws 0), [], [], 0⟩ = acS ws := by
  unfold acS
  have e1 : ws.tail.take (ws.length - 1) = ws.tail := by rw [show ws.length - 1 = ws.tail.length by simp, List.take_length]
  have e2 : nth [] ws 0 = ws.headD [] := by
    cases ws with
    | nil => simp at h
    | cons x xs => rfl
  rw [e1, e2]
theorem cells3 (w : World) (a b c : Value) (t : TypeId) : ∀ (j : Nat) (u : Value), [a, b, c][j]? = some u → (w.alloc (.cells #[a, b, c] t)).cell? ((⟨w.heap.size, 0, none⟩ : Addr).add j) = some u := fun j u hj => by
  match j, hj with
  | 0, hj => simp at hj; subst hj; simp [Addr.add]
  | 1, hj => simp at hj; subst hj; simp [Addr.add]
  | 2, hj => simp at hj; subst hj; simp [Addr.add]
theorem l1Num_l (x : List UInt8) (w : World) (hx : x.length ≤ 1048576) :
    Calls Tryz.prog 31 #[.string (bs x)] w fun e w' => e = .returned (.int .i64 (nuS 0 x)) ∧ w' = w := by
  have := l1Num_any (bs x) w (by rw [bs_size]; exact hx)
  rwa [bs_data] at this
theorem hear_tail (ws : List (List UInt8)) (k : Nat) (h1 : 1 ≤ k) (h : k < ws.length) (a : Ac) : (ws.tail.take (k + 1 - 1)).foldl woS a = woS ((ws.tail.take (k - 1)).foldl woS a) (nth [] ws k) := by
  have h2 : k - 1 < ws.tail.length := by simp; omega
  have e : ws.tail.take (k + 1 - 1) = ws.tail.take (k - 1) ++ [nth [] ws k] := by
    rw [show k + 1 - 1 = (k - 1) + 1 by omega, take_nth [] ws.tail (k - 1) h2]
    congr 2
    rw [nth_eq [] _ _ h2, nth_eq [] _ _ h]
    simp [show k - 1 + 1 = k by omega]
  rw [e, List.foldl_append]
  rfl
theorem hear_k (xs : List (List UInt8)) : ∀ a : Ac, (xs.foldl woS a).k = a.k := by
  induction xs with
  | nil => intro a; rfl
  | cons x xs ih =>
    intro a
    rw [List.foldl_cons, ih]; unfold woS
    split
    · rfl
    · split
      · rfl
      · split <;> rfl
theorem woS_len (a : Ac) (x : List UInt8) : (woS a x).ds.length ≤ a.ds.length + 1 ∧ (woS a x).ks.length ≤ a.ks.length + 1 := by
  unfold woS; repeat' split
  all_goals simp

set_option maxHeartbeats 4000000 in
theorem l1Hear_one (v : Value) (ws : List (List UInt8)) (w : World) (h : StrsAt w v ws) (hne : 0 < ws.length) (hl : ws.length ≤ 1048576) (hx : ∀ x, x ∈ ws → x.length ≤ 1048576) :
    Calls Tryz.prog 32 #[v] w fun e w' => ∃ dv kv, e = .returned (.agg #[.int .i64 (acS ws).k, dv, kv, .int .i64 (acS ws).r]) ∧ OwnDe w.heap.size w' dv (acS ws).ds ∧ OwnInt w.heap.size w' kv (acS ws).ks ∧ Below w.heap.size w w' := by
  obtain ⟨a, cap, rfl, ⟨hcap, hcap'⟩, hc⟩ := h
  have HCS := (show Hid (∀ i, i < ws.length → _) from hc)
  have HX := (show Hid (∀ x, x ∈ ws → _) from hx)
  obtain ⟨b, off, rfl, hbw, d0⟩ := hc 0 hne
  obtain ⟨S0, hS0⟩ : ∃ S0, S0 = bs (nth [] ws 0) := ⟨_, rfl⟩
  have HS0 := (show Hid (S0 = _) from hS0)
  rw [Nat.add_zero, ← hS0] at d0
  clear hc hx hS0
  have hne' : (0 : Int) < (ws.length : Int) := by omega
  obtain ⟨i0, hi, hz0, hz1, hz2⟩ := info_parts Tryz.info_deed
  obtain ⟨i2, hi2, hx0, hx1, hx2⟩ := info_parts Tryz.info_int
  go_enter Tryz.func32, Tryz.ntmps32
  go_wp2_with fail
  go_loopw [4] (fun q w' => ∃ k : Nat, 1 ≤ k ∧ k ≤ 5 ∧ q = .int .i64 k ∧ ABox w' (w.heap.size + 1) (kiN (nth [] ws 0) k) (.slice none 0 0) (.slice none 0 0) 0 ∧ ABox w' w.heap.size 0 (.slice none 0 0) (.slice none 0 0) 0 ∧ Below w.heap.size w w') (fun q _ => 5 - (intOf q).toNat)
  case atStart =>
    refine ⟨1, by omega, by omega, rfl, ?_, ?_, ((Below.refl _ _).alloc (Nat.le_refl _) _).alloc (by simp) _⟩
    · rw [kiN_one]
      have := heap_alloc_new (w.alloc (.cells #[.int .i64 0, .slice none 0 0, .slice none 0 0, .int .i64 0] 44)) (.cells #[.int .i64 0, .slice none 0 0, .slice none 0 0, .int .i64 0] 44)
      simpa [ABox] using this
    · refine ABox.alloc ?_ _
      exact heap_alloc_new w _
  case round =>
    obtain ⟨k, hk1, hk5, rfl, hA, hR, hb⟩ := hrel
    have HA := (show Hid (ABox _ _ _ _ _ _) from hA)
    have HR := (show Hid (ABox _ _ _ _ _ _) from hR)
    have HB := (show Hid (Below _ _ _) from hb)
    have hsz := hb.size
    have hAl := hA.lt
    by_cases hk : k < 5
    · rw [← hb.cell (p := ⟨b, _, none⟩) hbw] at d0
      have hbr : b < wr.heap.size := Nat.lt_of_lt_of_le hbw hsz
      have a0 := hA.cells.1.1
      have g0 := hA.cells.2 0
      clear hb hA hR
      have h4 : k = 1 ∨ k = 2 ∨ k = 3 ∨ k = 4 := by omega
      rcases h4 with rfl | rfl | rfl | rfl
      · by_cases hn : nth [] ws 0 = TRY
        · have s1 : (S0.toList == [116, 114, 121]) = true := by rw [HS0.out, bs_lst, hn]; rfl
          have s2 : S0.toList = [116, 114, 121] := by simpa using s1
          have HK : Hid (kiN (nth [] ws 0) 2 = 1) := by rw [Hid, kiN_1, if_pos hn]
          clear hn s2
          go_wp2_with fail
          go_region
          all_goals
            go_wp2_with fail
            go_roundw
            case rel =>
              refine ⟨2, by omega, by omega, by go_num, ?_, ?_, ?_⟩
              · rw [HK.out]
                repeat (first | exact HA.out | exact ABox.set0 HA.out _ | refine ABox.drew ?_ | refine ABox.alloc ?_ _ | refine ABox.set0 (k := kiN (nth [] ws 0) 1) ?_ _)
              · repeat (first | exact HR.out | refine ABox.drew ?_ | refine ABox.alloc ?_ _ | refine ABox.other ?_ (by omega))
              · repeat (first | exact HB.out | refine Below.drew ?_ | refine Below.alloc ?_ (by first | exact hsz | (simp; omega)) _ | refine Below.setCell ?_ (by simp) _)
            case measure => simp [intOf]
        · have s1 : (S0.toList == [116, 114, 121]) = false := by rw [HS0.out, bs_lst]; simpa [TRY] using hn
          have HK : Hid (kiN (nth [] ws 0) 2 = kiN (nth [] ws 0) 1) := by rw [Hid, kiN_1, if_neg hn]
          clear hn
          go_wp2_with fail
          go_region
          all_goals
            go_wp2_with fail
            go_roundw
            case rel =>
              refine ⟨2, by omega, by omega, by go_num, ?_, ?_, ?_⟩
              · rw [HK.out]
                repeat (first | exact HA.out | refine ABox.drew ?_ | refine ABox.alloc ?_ _)
              · repeat (first | exact HR.out | refine ABox.drew ?_ | refine ABox.alloc ?_ _)
              · repeat (first | exact HB.out | refine Below.drew ?_ | refine Below.alloc ?_ (by first | exact hsz | (simp; omega)) _)
            case measure => simp [intOf]
      · by_cases hn : nth [] ws 0 = FORK
        · have s1 : (S0.toList == [102, 111, 114, 107]) = true := by rw [HS0.out, bs_lst, hn]; rfl
          have s2 : S0.toList = [102, 111, 114, 107] := by simpa using s1
          have HK : Hid (kiN (nth [] ws 0) 3 = 2) := by rw [Hid, kiN_2, if_pos hn]
          clear hn s2
          go_wp2_with fail
          go_region
          all_goals
            go_wp2_with fail
            go_roundw
            case rel =>
              refine ⟨3, by omega, by omega, by go_num, ?_, ?_, ?_⟩
              · rw [HK.out]
                repeat (first | exact HA.out | exact ABox.set0 HA.out _ | refine ABox.drew ?_ | refine ABox.alloc ?_ _ | refine ABox.set0 (k := kiN (nth [] ws 0) 2) ?_ _)
              · repeat (first | exact HR.out | refine ABox.drew ?_ | refine ABox.alloc ?_ _ | refine ABox.other ?_ (by omega))
              · repeat (first | exact HB.out | refine Below.drew ?_ | refine Below.alloc ?_ (by first | exact hsz | (simp; omega)) _ | refine Below.setCell ?_ (by simp) _)
            case measure => simp [intOf]
        · have s1 : (S0.toList == [102, 111, 114, 107]) = false := by rw [HS0.out, bs_lst]; simpa [FORK] using hn
          have HK : Hid (kiN (nth [] ws 0) 3 = kiN (nth [] ws 0) 2) := by rw [Hid, kiN_2, if_neg hn]
          clear hn
          go_wp2_with fail
          go_region
          all_goals
            go_wp2_with fail
            go_roundw
            case rel =>
              refine ⟨3, by omega, by omega, by go_num, ?_, ?_, ?_⟩
              · rw [HK.out]
                repeat (first | exact HA.out | refine ABox.drew ?_ | refine ABox.alloc ?_ _)
              · repeat (first | exact HR.out | refine ABox.drew ?_ | refine ABox.alloc ?_ _)
              · repeat (first | exact HB.out | refine Below.drew ?_ | refine Below.alloc ?_ (by first | exact hsz | (simp; omega)) _)
            case measure => simp [intOf]
      · by_cases hn : nth [] ws 0 = FAIL
        · have s1 : (S0.toList == [102, 97, 105, 108]) = true := by rw [HS0.out, bs_lst, hn]; rfl
          have s2 : S0.toList = [102, 97, 105, 108] := by simpa using s1
          have HK : Hid (kiN (nth [] ws 0) 4 = 3) := by rw [Hid, kiN_3, if_pos hn]
          clear hn s2
          go_wp2_with fail
          go_region
          all_goals
            go_wp2_with fail
            go_roundw
            case rel =>
              refine ⟨4, by omega, by omega, by go_num, ?_, ?_, ?_⟩
              · rw [HK.out]
                repeat (first | exact HA.out | exact ABox.set0 HA.out _ | refine ABox.drew ?_ | refine ABox.alloc ?_ _ | refine ABox.set0 (k := kiN (nth [] ws 0) 3) ?_ _)
              · repeat (first | exact HR.out | refine ABox.drew ?_ | refine ABox.alloc ?_ _ | refine ABox.other ?_ (by omega))
              · repeat (first | exact HB.out | refine Below.drew ?_ | refine Below.alloc ?_ (by first | exact hsz | (simp; omega)) _ | refine Below.setCell ?_ (by simp) _)
            case measure => simp [intOf]
        · have s1 : (S0.toList == [102, 97, 105, 108]) = false := by rw [HS0.out, bs_lst]; simpa [FAIL] using hn
          have HK : Hid (kiN (nth [] ws 0) 4 = kiN (nth [] ws 0) 3) := by rw [Hid, kiN_3, if_neg hn]
          clear hn
          go_wp2_with fail
          go_region
          all_goals
            go_wp2_with fail
            go_roundw
            case rel =>
              refine ⟨4, by omega, by omega, by go_num, ?_, ?_, ?_⟩
              · rw [HK.out]
                repeat (first | exact HA.out | refine ABox.drew ?_ | refine ABox.alloc ?_ _)
              · repeat (first | exact HR.out | refine ABox.drew ?_ | refine ABox.alloc ?_ _)
              · repeat (first | exact HB.out | refine Below.drew ?_ | refine Below.alloc ?_ (by first | exact hsz | (simp; omega)) _)
            case measure => simp [intOf]
      · by_cases hn : nth [] ws 0 = FAILIF
        · have s1 : (S0.toList == [102, 97, 105, 108, 105, 102]) = true := by rw [HS0.out, bs_lst, hn]; rfl
          have s2 : S0.toList = [102, 97, 105, 108, 105, 102] := by simpa using s1
          have HK : Hid (kiN (nth [] ws 0) 5 = 4) := by rw [Hid, kiN_4, if_pos hn]
          clear hn s2
          go_wp2_with fail
          go_region
          all_goals
            go_wp2_with fail
            go_roundw
            case rel =>
              refine ⟨5, by omega, by omega, by go_num, ?_, ?_, ?_⟩
              · rw [HK.out]
                repeat (first | exact HA.out | exact ABox.set0 HA.out _ | refine ABox.drew ?_ | refine ABox.alloc ?_ _ | refine ABox.set0 (k := kiN (nth [] ws 0) 4) ?_ _)
              · repeat (first | exact HR.out | refine ABox.drew ?_ | refine ABox.alloc ?_ _ | refine ABox.other ?_ (by omega))
              · repeat (first | exact HB.out | refine Below.drew ?_ | refine Below.alloc ?_ (by first | exact hsz | (simp; omega)) _ | refine Below.setCell ?_ (by simp) _)
            case measure => simp [intOf]
        · have s1 : (S0.toList == [102, 97, 105, 108, 105, 102]) = false := by rw [HS0.out, bs_lst]; simpa [FAILIF] using hn
          have HK : Hid (kiN (nth [] ws 0) 5 = kiN (nth [] ws 0) 4) := by rw [Hid, kiN_4, if_neg hn]
          clear hn
          go_wp2_with fail
          go_region
          all_goals
            go_wp2_with fail
            go_roundw
            case rel =>
              refine ⟨5, by omega, by omega, by go_num, ?_, ?_, ?_⟩
              · rw [HK.out]
                repeat (first | exact HA.out | refine ABox.drew ?_ | refine ABox.alloc ?_ _)
              · repeat (first | exact HR.out | refine ABox.drew ?_ | refine ABox.alloc ?_ _)
              · repeat (first | exact HB.out | refine Below.drew ?_ | refine Below.alloc ?_ (by first | exact hsz | (simp; omega)) _)
            case measure => simp [intOf]
    · have hk' : k = 5 := by omega
      have HA5 : Hid (ABox wr (w.heap.size + 1) (kiS (nth [] ws 0)) (.slice none 0 0) (.slice none 0 0) 0) := by have := HA.out; rwa [hk', kiN_five] at this
      rw [show ((k : Nat) : Int) = 5 by omega]
      obtain ⟨K, hK⟩ : ∃ K, K = kiS (nth [] ws 0) := ⟨_, rfl⟩
      rw [← hK] at HA5
      have HEND : Hid (∀ x : Ac, x = (ws.tail.take (ws.length - 1)).foldl woS ⟨K, [], [], 0⟩ → x = acS ws) := fun x e => by rw [e, hK]; exact acS_end ws hne
      clear hK HA hA hR hb d0 HS0 S0 hAl hk' hk1 hk5 hk
      go_wp2_with fail
      go_loopw [5] (fun q w' => ∃ (k : Nat) (x : Ac) (dv kv : Value), 1 ≤ k ∧ k ≤ ws.length ∧ q = .int .i64 k ∧ Hid (x = (ws.tail.take (k - 1)).foldl woS ⟨K, [], [], 0⟩) ∧ x.ds.length ≤ k ∧ x.ks.length ≤ k ∧ ABox w' (w.heap.size + 1) x.k dv kv x.r ∧ ABox w' w.heap.size 0 (.slice none 0 0) (.slice none 0 0) 0 ∧ OwnDe (w.heap.size + 2) w' dv x.ds ∧ OwnInt (w.heap.size + 2) w' kv x.ks ∧ Below w.heap.size w w') (fun q _ => ws.length - (intOf q).toNat)
      case atStart => exact ⟨1, ⟨K, [], [], 0⟩, .slice none 0 0, .slice none 0 0, by omega, by omega, rfl, by rw [Hid]; simp, by simp, by simp, HA5.out, HR.out, World.ownsRow_nil _ _ _ _, World.ownsRow_nil _ _ _ _, HB.out⟩
      clear HA5 HR HB hsz
      case round =>
        obtain ⟨k, x, dv, kv, hk1, hkl, rfl, HE, hd1, hd2, hA, hR, hD, hI, hb⟩ := hrel
        obtain ⟨xk, xds, xks, xr⟩ := x
        dsimp only at hd1 hd2 hA hD hI
        obtain ⟨ad, cd, rfl, _⟩ := own_shape hD
        obtain ⟨ai, ci, rfl, _⟩ := own_shape hI
        have HA := (show Hid (ABox _ _ _ _ _ _) from hA)
        have HR := (show Hid (ABox _ _ _ _ _ _) from hR)
        have HD := (show Hid (OwnDe _ _ _ _) from hD)
        have HI := (show Hid (OwnInt _ _ _ _) from hI)
        have HB := (show Hid (Below _ _ _) from hb)
        have hsz := hb.size
        have hAl := hA.lt
        have hRl := hR.lt
        obtain ⟨⟨a0, a1, a2, a3⟩, af⟩ := hA.cells
        have f1 := af 1
        have f2 := af 2
        have f3 := af 3
        by_cases hlt : k < ws.length
        · have hlt' : (k : Int) < (ws.length : Int) := by omega
          obtain ⟨b', off', e', hbw', c0⟩ := HCS.out k hlt
          injection e' with e1
          injection e1 with e2 e3
          subst e2 e3
          rw [← hb.cell (p := ⟨b, _, none⟩) hbw] at c0
          have hbr : b < wr.heap.size := Nat.lt_of_lt_of_le hbw hsz
          have hXl := HX.out _ (nth_mem [] ws k hlt)
          have HT : Hid (∀ y, woS ⟨xk, xds, xks, xr⟩ (nth [] ws k) = y → y = (ws.tail.take (k + 1 - 1)).foldl woS ⟨K, [], [], 0⟩) := fun y hy => by rw [hear_tail ws k hk1 hlt, ← HE.out, hy]
          generalize nth [] ws k = X at c0 hXl HT
          clear hA hR hD hI hb af HE HEND
          by_cases h1 : xk = 1
          · subst h1
            have HX2 : Hid ((⟨1, xds ++ [deS X], xks, xr⟩ : Ac) = (ws.tail.take (k + 1 - 1)).foldl woS ⟨K, [], [], 0⟩) := HT.out _ rfl
            clear HT a2 a3 f2 f3
            go_wp2_with fail
            go_region_law (first | (refine step_append_lies _ (by rfl) _ _ 42 (by rfl) (w.heap.size + 2) 79 i0 (.agg #[.int .i64 0, .int .i64 0, .int .i64 0]) 3 24 Tryz.underlying42 hi hz0 hz1 hz2 rfl (by omega) _ _ _ (by rfl) (World.ownsRow.alloc HD2.out _) _ 1 1 [.int .i64 (deS X).k, .int .i64 (deS X).a, .int .i64 (deS X).b] (by rfl) rfl (cells3 _ _ _ _ _) (by intro u hu; simp at hu; rcases hu with rfl | rfl | rfl <;> rfl) (by omega) (by unfold maxLen; omega) (by omega) (by simp; omega) _ (by rfl) ?_; intro g cap2 w3 hown3 hgrow hat hlt3; have HTG : Hid (TagKept 79 _ w3) := TagKept.grown (World.ownsRow.alloc HD2.out _) hgrow; have HA3 : Hid (ABox w3 (w.heap.size + 1) 1 (.slice ad xds.length cd) (.slice ai xks.length ci) xr) := ABox.tag (ABox.alloc HA2.out _) HTG.out (by decide); have HR3 : Hid (ABox w3 w.heap.size 0 (.slice none 0 0) (.slice none 0 0) 0) := ABox.tag (ABox.alloc HR2.out _) HTG.out (by decide); have HI3 : Hid (OwnInt (w.heap.size + 2) w3 (.slice ai xks.length ci) xks) := own_tag (World.ownsRow.alloc HI2.out _) HTG.out (by decide); have HB3 : Hid (Below w.heap.size w w3) := ((HB2.out.alloc hs2 _).grown hgrow (by simp; omega) (fun g hg => by have := (HD2.out.lt g hg).1; omega)); have HD3 : Hid (OwnDe (w.heap.size + 2) w3 (.slice (some ⟨g, 0, none⟩) (xds.length + 1) cap2) (xds ++ [deS X])) := (by unfold Hid OwnDe; rw [deCells_snoc, List.length_append]; exact hown3); have e31 := HA3.out.cells.1.2.1; have f31 := HA3.out.cells.2 1; clear hown3 hgrow hat) | (go_simp; go_at_call 53; refine (l1HearDeed_l X _ hXl).mono ?_; rintro e w2 ⟨rfl, hb2⟩; have HD2 : Hid (OwnDe (w.heap.size + 2) w2 (.slice ad xds.length cd) xds) := own_newU (w := wr.drew) HD.out hb2; have HI2 : Hid (OwnInt (w.heap.size + 2) w2 (.slice ai xks.length ci) xks) := own_newU (w := wr.drew) HI.out hb2; have HA2 : Hid (ABox w2 (w.heap.size + 1) 1 (.slice ad xds.length cd) (.slice ai xks.length ci) xr) := ABox.below (w := wr.drew) HA.out hb2 hAl; have HR2 : Hid (ABox w2 w.heap.size 0 (.slice none 0 0) (.slice none 0 0) 0) := ABox.below (w := wr.drew) HR.out hb2 hRl; have HB2 : Hid (Below w.heap.size w w2) := below_then (Below.drew HB.out) hsz hb2; have hs2 := HB2.out.size; have eP : w2.cell? ⟨w.heap.size + 1, 1, none⟩ = some (.slice ad xds.length cd) := HA2.out.cells.1.2.1; have hA2l := HA2.out.lt; clear hb2))
            all_goals
              clear eP HA2 HR2 HD2 HI2 HB2 HA HR HD HI HB
              go_wp2_with fail
              go_roundw
              case rel => exact ⟨k + 1, ⟨1, xds ++ [deS X], xks, xr⟩, _, _, by omega, by omega, by go_num, HX2, by simp; omega, by simp; omega, HA3.out.set1 _, HR3.out.other (by omega), own_lowU HD3.out (by omega), own_lowU HI3.out (by omega), HB3.out.setCell (by simp) _⟩
              case measure => simp [intOf]; omega
          by_cases h2 : xk = 2
          · subst h2
            have HX2 : Hid ((⟨2, xds, xks ++ [nuS 0 X], xr⟩ : Ac) = (ws.tail.take (k + 1 - 1)).foldl woS ⟨K, [], [], 0⟩) := HT.out _ rfl
            clear HT a1 a3 f1 f3
            go_wp2_with fail
            go_region_law (first | (refine step_append_lies _ (by rfl) _ _ 23 (by rfl) (w.heap.size + 2) 3 i2 (.int .i64 0) 1 8 Tryz.underlying23 hi2 hx0 hx1 hx2 rfl (by omega) _ _ _ (by rfl) (World.ownsRow.alloc HI2.out _) _ 1 1 [.int .i64 (nuS 0 X)] (by rfl) rfl (cell_one_new _ _ _) (by intro u hu; simp at hu; subst hu; rfl) (by omega) (by unfold maxLen; omega) (by omega) (by simp; omega) _ (by rfl) ?_; intro g cap2 w3 hown3 hgrow hat hlt3; have HTG : Hid (TagKept 3 _ w3) := TagKept.grown (World.ownsRow.alloc HI2.out _) hgrow; have HA3 : Hid (ABox w3 (w.heap.size + 1) 2 (.slice ad xds.length cd) (.slice ai xks.length ci) xr) := ABox.tag (ABox.alloc HA2.out _) HTG.out (by decide); have HR3 : Hid (ABox w3 w.heap.size 0 (.slice none 0 0) (.slice none 0 0) 0) := ABox.tag (ABox.alloc HR2.out _) HTG.out (by decide); have HD3 : Hid (OwnDe (w.heap.size + 2) w3 (.slice ad xds.length cd) xds) := own_tag (World.ownsRow.alloc HD2.out _) HTG.out (by decide); have HB3 : Hid (Below w.heap.size w w3) := ((HB2.out.alloc hs2 _).grown hgrow (by simp; omega) (fun g hg => by have := (HI2.out.lt g hg).1; omega)); have HI3 : Hid (OwnInt (w.heap.size + 2) w3 (.slice (some ⟨g, 0, none⟩) (xks.length + 1) cap2) (xks ++ [nuS 0 X])) := (by unfold Hid OwnInt; rw [List.map_append, List.length_append]; exact hown3); have e31 := HA3.out.cells.1.2.2.1; have f31 := HA3.out.cells.2 2; clear hown3 hgrow hat) | (go_simp; go_at_call 31; refine (l1Num_b X _ hXl).mono ?_; rintro e w2 ⟨rfl, hb2⟩; have HD2 : Hid (OwnDe (w.heap.size + 2) w2 (.slice ad xds.length cd) xds) := own_newU (w := wr.drew) HD.out hb2; have HI2 : Hid (OwnInt (w.heap.size + 2) w2 (.slice ai xks.length ci) xks) := own_newU (w := wr.drew) HI.out hb2; have HA2 : Hid (ABox w2 (w.heap.size + 1) 2 (.slice ad xds.length cd) (.slice ai xks.length ci) xr) := ABox.below (w := wr.drew) HA.out hb2 hAl; have HR2 : Hid (ABox w2 w.heap.size 0 (.slice none 0 0) (.slice none 0 0) 0) := ABox.below (w := wr.drew) HR.out hb2 hRl; have HB2 : Hid (Below w.heap.size w w2) := below_then (Below.drew HB.out) hsz hb2; have hs2 := HB2.out.size; have eP : w2.cell? ⟨w.heap.size + 1, 2, none⟩ = some (.slice ai xks.length ci) := HA2.out.cells.1.2.2.1; have hA2l := HA2.out.lt; clear hb2))
            all_goals
              clear eP HA2 HR2 HD2 HI2 HB2 HA HR HD HI HB
              go_wp2_with fail
              go_roundw
              case rel => exact ⟨k + 1, ⟨2, xds, xks ++ [nuS 0 X], xr⟩, _, _, by omega, by omega, by go_num, HX2, by simp; omega, by simp; omega, HA3.out.set2 _, HR3.out.other (by omega), own_lowU HD3.out (by omega), own_lowU HI3.out (by omega), HB3.out.setCell (by simp) _⟩
              case measure => simp [intOf]; omega
          have g1 : (xk == 1) = false := by simp [h1]
          have g2 : (xk == 2) = false := by simp [h2]
          obtain ⟨S, hS⟩ : ∃ S, S = bs X := ⟨_, rfl⟩
          rw [← hS] at c0
          have hSs : S.size = X.length := by rw [hS, bs_size]
          by_cases h4 : xk = 4
          · subst h4
            by_cases hs1 : S.size = 1
            · have p0 : 0 < S.size := by omega
              have i0' : (0 : Int) < (S.size : Int) := by omega
              have e1 : ((S.size : Int) == 1) = true := by simp; omega
              have hx0' : (S[0]'p0).toNat < 256 := (S[0]'p0).toNat_lt
              have HX2 : Hid ((⟨4, xds, xks, ((S[0]'p0).toNat : Int) - 114⟩ : Ac) = (ws.tail.take (k + 1 - 1)).foldl woS ⟨K, [], [], 0⟩) := HT.out _ (by
                have hb := bt_get S 0 p0
                rw [← hb]
                show Ac.mk 4 xds xks (rgS xr X) = _
                unfold rgS
                rw [if_pos (by omega), hS, bs_data])
              clear HT hS
              go_wp2_with fail
              go_roundw
              case rel => exact ⟨k + 1, ⟨4, xds, xks, ((S[0]'p0).toNat : Int) - 114⟩, _, _, by omega, by omega, by go_num, HX2, by simp; omega, by simp; omega, HA.out.set3 _, HR.out.other (by omega), own_lowU HD.out (by omega), own_lowU HI.out (by omega), HB.out.setCell (by simp) _⟩
              case measure => simp [intOf]; omega
            · have e1 : ((S.size : Int) == 1) = false := by simp; omega
              have HX2 : Hid ((⟨4, xds, xks, xr⟩ : Ac) = (ws.tail.take (k + 1 - 1)).foldl woS ⟨K, [], [], 0⟩) := HT.out _ (by
                show Ac.mk 4 xds xks (rgS xr X) = _
                unfold rgS
                rw [if_neg (by omega)])
              clear HT hS
              go_wp2_with fail
              go_roundw
              case rel => exact ⟨k + 1, ⟨4, xds, xks, xr⟩, _, _, by omega, by omega, by go_num, HX2, by simp; omega, by simp; omega, HA.out, HR.out, HD.out, HI.out, HB.out⟩
              case measure => simp [intOf]; omega
          · have g4 : (xk == 4) = false := by simp [h4]
            have HX2 : Hid ((⟨xk, xds, xks, xr⟩ : Ac) = (ws.tail.take (k + 1 - 1)).foldl woS ⟨K, [], [], 0⟩) := HT.out _ (by unfold woS; simp [h1, h2, h4])
            clear HT hS
            go_wp2_with fail
            go_roundw
            case rel => exact ⟨k + 1, ⟨xk, xds, xks, xr⟩, _, _, by omega, by omega, by go_num, HX2, by simp; omega, by simp; omega, HA.out, HR.out, HD.out, HI.out, HB.out⟩
            case measure => simp [intOf]; omega
        · have hlt' : ¬ (k : Int) < (ws.length : Int) := by omega
          have hke : k = ws.length := by omega
          have HF : Hid ((⟨xk, xds, xks, xr⟩ : Ac) = acS ws) := HEND.out _ (by rw [← hke]; exact HE.out)
          obtain ⟨⟨r0, r1, r2, r3⟩, rf⟩ := hR.cells
          have q0 := rf 0
          have q1 := rf 1
          have q2 := rf 2
          have q3 := rf 3
          clear hA hR hD hI hb af rf HE HEND hke
          go_wp2_with fail
          have hz := ((((HR.out.set0 xk).set1 (.slice ad xds.length cd)).set2 (.slice ai xks.length ci)).set3 xr).cells
          rw [← HF.out]
          exact bodyPost_ret (v := .agg #[.int .i64 xk, .slice ad xds.length cd, .slice ai xks.length ci, .int .i64 xr]) (by simp [results, Tryz.results32, go_sem, hz.1.1, hz.1.2.1, hz.1.2.2.1, hz.1.2.2.2]) rfl ⟨_, _, rfl, own_base (own_lowU (own_lowU (own_lowU (own_lowU HD.out (by omega)) (by omega)) (by omega)) (by omega)) (by omega), own_base (own_lowU (own_lowU (own_lowU (own_lowU HI.out (by omega)) (by omega)) (by omega)) (by omega)) (by omega), (((HB.out.setCell (by simp) _).setCell (by simp) _).setCell (by simp) _).setCell (by simp) _⟩

end Go.Proofs.YtliakmgombpjpaaGreatDoor
