import Derived.Test.YtgbgjljflgbcaaaNe08
import Derived.Test.YtgbgjljflgbcaaaNe05
namespace Go.Proofs.Ytgbgjljflgbcaaa
open Go.RowKit
set_option linter.unusedSimpArgs false
set_option linter.unusedVariables false
theorem Blk.fr {R : Nat} {w w' : World} {g n : Nat} (h : Blk w g n) (hb : Fr R w.heap.size w w') (hR : g ≠ R) : Blk w' g n :=
  ⟨Nat.lt_of_lt_of_le h.1 hb.size, fun j hj => ⟨by rw [hb.cell h.1 hR]; exact (h.2 j hj).1, by rw [hb.frozen h.1 hR]; exact (h.2 j hj).2⟩⟩
def Bytes (w : World) (a : Option Addr) (n : Nat) : Prop := ∀ i, i < n → ∃ b off u, a = some ⟨b, off, none⟩ ∧ b < w.heap.size ∧ 0 ≤ u ∧ u ≤ 255 ∧ w.cell? ⟨b, off + i, none⟩ = some (.int .u8 u)
set_option maxHeartbeats 400000 in
theorem l6Open_any (a : Option Addr) (n cap : Nat) (w : World) (h : Bytes w a n) (hc : n ≤ cap) (hn : cap ≤ 9223372036854775807) :
    Calls Try.prog 32 #[.slice a n cap] w fun e w' => e = .returned (.pointer (some ⟨w.heap.size, 0, none⟩)) ∧ RdAt (w.heap.size + 1) w' w.heap.size 0 ∧ Below w.heap.size w w' := by
  by_cases h2 : 2000 < n
  · have h2' : (2000 : Int) < (n : Int) := by omega
    obtain ⟨b, off, u, rfl, _⟩ := h 0 (by omega)
    have HR : Hid (∀ cap', RdAt (w.heap.size + 1) (w.alloc (.cells #[.slice (some ⟨b, off, none⟩) 2000 cap', .int .i64 0] 104)) w.heap.size 0) := fun cap' => by
      refine ⟨by omega, by simp, by simp [go_sem], by simp [go_sem], _, 2000, cap', by simp [go_sem]; rfl, by omega, fun i hi => ?_⟩
      obtain ⟨b', off', u', e, h1, h3, h4, h5⟩ := h i (by omega)
      exact ⟨b', off', u', e, by omega, by omega, h3, h4, by rw [World.cell?_alloc_past _ _ _ h1]; exact h5⟩
    have hcap : (2000 : Int) ≤ (cap : Int) := by omega
    clear h
    go_enter Try.func32, Try.ntmps32
    go_wp2_with fail
    go_ret
    exact ⟨rfl, HR.out _, (by repeat (first | exact Below.refl _ _ | refine Below.alloc ?_ (by simp; try omega) _ | refine Below.drew ?_ | refine Below.setCell ?_ (by simp; try omega) _))⟩
  · have h2' : ¬ (2000 : Int) < (n : Int) := by omega
    have HR : Hid (RdAt (w.heap.size + 1) (w.alloc (.cells #[.slice a n cap, .int .i64 0] 104)) w.heap.size 0) := by
      refine ⟨by omega, by simp, by simp [go_sem], by simp [go_sem], a, n, cap, by simp [go_sem], by omega, fun i hi => ?_⟩
      obtain ⟨b', off', u', e, h1, h3, h4, h5⟩ := h i (by omega)
      exact ⟨b', off', u', e, by omega, by omega, h3, h4, by rw [World.cell?_alloc_past _ _ _ h1]; exact h5⟩
    clear h
    go_enter Try.func32, Try.ntmps32
    go_wp2_with fail
    go_ret
    exact ⟨rfl, HR.out, (by repeat (first | exact Below.refl _ _ | refine Below.alloc ?_ (by simp; try omega) _ | refine Below.drew ?_ | refine Below.setCell ?_ (by simp; try omega) _))⟩
set_option maxHeartbeats 2000000 in
theorem l71Deed_any (B R p : Nat) (c : Int) (w : World) (h : RdAt B w R p) (hp : p ≤ 900000) (hc0 : 0 ≤ c) (hc3 : c ≤ 3) :
    Calls Try.prog 130 #[.pointer (some ⟨R, 0, none⟩), .int .i64 c] w fun e w' => ∃ (d : De) (p' : Nat), e = .returned (.agg #[.int .i64 d.k, .int .i64 d.a, .int .i64 d.b]) ∧ p ≤ p' ∧ p' ≤ p + 3 ∧ RdAt B w' R p' ∧ Fr R w.heap.size w w' := by
  have hlt := h.lt
  have hle := h.le
  have hR0 : ∀ o, RdAt B (w.alloc o) R p := fun o => h.below ((Below.refl _ _).alloc hle _)
  have hBn := Blk.new w #[.int .i64 0, .int .i64 0, .int .i64 0] 125
  have HF0 : Hid (∀ o, Fr R w.heap.size w (w.alloc o)) := fun o => (Fr.refl _ _ _).alloc (Nat.le_refl _) _
  have HBn : Hid (Blk (w.alloc (.cells #[.int .i64 0, .int .i64 0, .int .i64 0] 125)) w.heap.size 3) := hBn
  clear h hBn
  by_cases hcz : c = 0
  · subst hcz
    go_enter Try.func130, Try.ntmps130
    have HF1 : Hid (Fr R w.heap.size w (w.alloc (.cells #[.int .i64 0, .int .i64 0, .int .i64 0] 125))) := HF0.out _
    have hB1 := HBn.out
    have hR1 := hR0 (.cells #[.int .i64 0, .int .i64 0, .int .i64 0] 125)
    clear HF0 HBn hR0
    go_wp2_with fail
    refine (pick_any B R _ _ _ hR1 (by omega) (by omega) (by omega)).mono ?_
    rintro e w2 ⟨q2, rfl, a0, a1, hR2, hF2⟩
    have hB2 := hB1.fr hF2 (by omega)
    have HF2 : Hid (Fr R w.heap.size w w2) := HF1.out.trans (hF2.mono HF1.out.size)
    clear hF2 hB1 hR1 HF1
    go_wp2_with fail
    refine (pick_any B R _ _ _ hR2 (by omega) (by omega) (by omega)).mono ?_
    rintro e w3 ⟨q3, rfl, b0, b1, hR3, hF3⟩
    have hB3 := hB2.fr hF3 (by omega)
    have HF3 : Hid (Fr R w.heap.size w w3) := HF2.out.trans (hF3.mono HF2.out.size)
    have HR3 := (show Hid (RdAt _ _ _ _) from hR3)
    obtain ⟨⟨u0, f0⟩, g0⟩ := hB3.2 0 (by omega)
    obtain ⟨⟨u1, f1⟩, g1⟩ := hB3.2 1 (by omega)
    obtain ⟨⟨u2, f2⟩, g2⟩ := hB3.2 2 (by omega)
    have HB3 := (show Hid (Blk _ _ _) from hB3)
    clear hF3 hB2 hR2 HF2 hR3 hB3
    go_wp2_with fail
    obtain ⟨i0, i1, i2⟩ := set3_in HB3.out 0 (by omega) (.int .i64 3) (.int .i64 q2) (.int .i64 q3)
    refine bodyPost_ret (v := .agg #[.int .i64 3, .int .i64 q2, .int .i64 q3]) (by simp [results, Try.results130, go_sem, i0, i1, i2]) rfl ⟨⟨3, q2, q3⟩, p + 1 + 1, rfl, by omega, by omega, ?_, ?_⟩
    · exact HR3.out.below (((((Below.refl B _).setCell (by simp; omega) _).setCell (by simp; omega) _).setCell (by simp; omega) _))
    · exact ((HF3.out.setCell (.inl (by simp)) _).setCell (.inl (by simp)) _).setCell (.inl (by simp)) _
  have gc : (c == 0) = false := by simp [hcz]
  go_enter Try.func130, Try.ntmps130
  go_wp2_with fail
  refine (pick_any B R _ _ _ (hR0 _) (by omega) (by omega) (by omega)).mono ?_
  rintro e w1 ⟨q, rfl, q0, q1, hR1, hF1⟩
  have hB1 := Blk.fr HBn.out hF1 (by omega)
  have HF1 : Hid (Fr R w.heap.size w w1) := (HF0.out _).trans (hF1.mono (by simp))
  clear hF1 HF0 HBn hR0
  have hq : q = 0 ∨ q = 1 ∨ q = 2 ∨ q = 3 ∨ q = 4 ∨ q = 5 ∨ q = 6 ∨ q = 7 ∨ q = 8 ∨ q = 9 := by omega
  rcases hq with rfl | rfl | rfl | rfl | rfl | rfl | rfl | rfl | rfl | rfl
  · go_wp2_with fail
    refine (pick_any B R _ _ _ hR1 (by omega) (by omega) (by omega)).mono ?_
    rintro e w2 ⟨q2, rfl, a0, a1, hR2, hF2⟩
    have hB2 := hB1.fr hF2 (by omega)
    have HF2 : Hid (Fr R w.heap.size w w2) := HF1.out.trans (hF2.mono HF1.out.size)
    clear hF2 hB1 hR1 HF1
    go_wp2_with fail
    refine (pick_any B R _ _ _ hR2 (by omega) (by omega) (by omega)).mono ?_
    rintro e w3 ⟨q3, rfl, b0, b1, hR3, hF3⟩
    have hB3 := hB2.fr hF3 (by omega)
    have HF3 : Hid (Fr R w.heap.size w w3) := HF2.out.trans (hF3.mono HF2.out.size)
    have HR3 := (show Hid (RdAt _ _ _ _) from hR3)
    obtain ⟨⟨u0, f0⟩, g0⟩ := hB3.2 0 (by omega)
    obtain ⟨⟨u1, f1⟩, g1⟩ := hB3.2 1 (by omega)
    obtain ⟨⟨u2, f2⟩, g2⟩ := hB3.2 2 (by omega)
    have HB3 := (show Hid (Blk _ _ _) from hB3)
    clear hF3 hB2 hR2 HF2 hR3 hB3
    go_wp2_with fail
    obtain ⟨i0, i1, i2⟩ := set3_in HB3.out 0 (by omega) (.int .i64 1) (.int .i64 q2) (.int .i64 q3)
    refine bodyPost_ret (v := .agg #[.int .i64 1, .int .i64 q2, .int .i64 q3]) (by simp [results, Try.results130, go_sem, i0, i1, i2]) rfl ⟨⟨1, q2, q3⟩, p + 1 + 1 + 1, rfl, by omega, by omega, ?_, ?_⟩
    · exact HR3.out.below (((((Below.refl B _).setCell (by simp; omega) _).setCell (by simp; omega) _).setCell (by simp; omega) _))
    · exact ((HF3.out.setCell (.inl (by simp)) _).setCell (.inl (by simp)) _).setCell (.inl (by simp)) _
  · go_wp2_with fail
    refine (pick_any B R _ _ _ hR1 (by omega) (by omega) (by omega)).mono ?_
    rintro e w2 ⟨q2, rfl, a0, a1, hR2, hF2⟩
    have hB2 := hB1.fr hF2 (by omega)
    have HF2 : Hid (Fr R w.heap.size w w2) := HF1.out.trans (hF2.mono HF1.out.size)
    clear hF2 hB1 hR1 HF1
    go_wp2_with fail
    refine (pick_any B R _ _ _ hR2 (by omega) (by omega) (by omega)).mono ?_
    rintro e w3 ⟨q3, rfl, b0, b1, hR3, hF3⟩
    have hB3 := hB2.fr hF3 (by omega)
    have HF3 : Hid (Fr R w.heap.size w w3) := HF2.out.trans (hF3.mono HF2.out.size)
    have HR3 := (show Hid (RdAt _ _ _ _) from hR3)
    obtain ⟨⟨u0, f0⟩, g0⟩ := hB3.2 0 (by omega)
    obtain ⟨⟨u1, f1⟩, g1⟩ := hB3.2 1 (by omega)
    obtain ⟨⟨u2, f2⟩, g2⟩ := hB3.2 2 (by omega)
    have HB3 := (show Hid (Blk _ _ _) from hB3)
    clear hF3 hB2 hR2 HF2 hR3 hB3
    go_wp2_with fail
    obtain ⟨i0, i1, i2⟩ := set3_in HB3.out 0 (by omega) (.int .i64 1) (.int .i64 q2) (.int .i64 q3)
    refine bodyPost_ret (v := .agg #[.int .i64 1, .int .i64 q2, .int .i64 q3]) (by simp [results, Try.results130, go_sem, i0, i1, i2]) rfl ⟨⟨1, q2, q3⟩, p + 1 + 1 + 1, rfl, by omega, by omega, ?_, ?_⟩
    · exact HR3.out.below (((((Below.refl B _).setCell (by simp; omega) _).setCell (by simp; omega) _).setCell (by simp; omega) _))
    · exact ((HF3.out.setCell (.inl (by simp)) _).setCell (.inl (by simp)) _).setCell (.inl (by simp)) _
  · go_wp2_with fail
    refine (pick_any B R _ _ _ hR1 (by omega) (by omega) (by omega)).mono ?_
    rintro e w2 ⟨q2, rfl, a0, a1, hR2, hF2⟩
    have hB2 := hB1.fr hF2 (by omega)
    have HF2 : Hid (Fr R w.heap.size w w2) := HF1.out.trans (hF2.mono HF1.out.size)
    clear hF2 hB1 hR1 HF1
    go_wp2_with fail
    refine (pick_any B R _ _ _ hR2 (by omega) (by omega) (by omega)).mono ?_
    rintro e w3 ⟨q3, rfl, b0, b1, hR3, hF3⟩
    have hB3 := hB2.fr hF3 (by omega)
    have HF3 : Hid (Fr R w.heap.size w w3) := HF2.out.trans (hF3.mono HF2.out.size)
    have HR3 := (show Hid (RdAt _ _ _ _) from hR3)
    obtain ⟨⟨u0, f0⟩, g0⟩ := hB3.2 0 (by omega)
    obtain ⟨⟨u1, f1⟩, g1⟩ := hB3.2 1 (by omega)
    obtain ⟨⟨u2, f2⟩, g2⟩ := hB3.2 2 (by omega)
    have HB3 := (show Hid (Blk _ _ _) from hB3)
    clear hF3 hB2 hR2 HF2 hR3 hB3
    go_wp2_with fail
    obtain ⟨i0, i1, i2⟩ := set3_in HB3.out 0 (by omega) (.int .i64 1) (.int .i64 q2) (.int .i64 q3)
    refine bodyPost_ret (v := .agg #[.int .i64 1, .int .i64 q2, .int .i64 q3]) (by simp [results, Try.results130, go_sem, i0, i1, i2]) rfl ⟨⟨1, q2, q3⟩, p + 1 + 1 + 1, rfl, by omega, by omega, ?_, ?_⟩
    · exact HR3.out.below (((((Below.refl B _).setCell (by simp; omega) _).setCell (by simp; omega) _).setCell (by simp; omega) _))
    · exact ((HF3.out.setCell (.inl (by simp)) _).setCell (.inl (by simp)) _).setCell (.inl (by simp)) _
  · go_wp2_with fail
    refine (pick_any B R _ _ _ hR1 (by omega) (by omega) (by omega)).mono ?_
    rintro e w2 ⟨q2, rfl, a0, a1, hR2, hF2⟩
    have hB2 := hB1.fr hF2 (by omega)
    have HF2 : Hid (Fr R w.heap.size w w2) := HF1.out.trans (hF2.mono HF1.out.size)
    clear hF2 hB1 hR1 HF1
    go_wp2_with fail
    refine (pick_any B R _ _ _ hR2 (by omega) (by omega) (by omega)).mono ?_
    rintro e w3 ⟨q3, rfl, b0, b1, hR3, hF3⟩
    have hB3 := hB2.fr hF3 (by omega)
    have HF3 : Hid (Fr R w.heap.size w w3) := HF2.out.trans (hF3.mono HF2.out.size)
    have HR3 := (show Hid (RdAt _ _ _ _) from hR3)
    obtain ⟨⟨u0, f0⟩, g0⟩ := hB3.2 0 (by omega)
    obtain ⟨⟨u1, f1⟩, g1⟩ := hB3.2 1 (by omega)
    obtain ⟨⟨u2, f2⟩, g2⟩ := hB3.2 2 (by omega)
    have HB3 := (show Hid (Blk _ _ _) from hB3)
    clear hF3 hB2 hR2 HF2 hR3 hB3
    go_wp2_with fail
    obtain ⟨i0, i1, i2⟩ := set3_in HB3.out 0 (by omega) (.int .i64 1) (.int .i64 q2) (.int .i64 q3)
    refine bodyPost_ret (v := .agg #[.int .i64 1, .int .i64 q2, .int .i64 q3]) (by simp [results, Try.results130, go_sem, i0, i1, i2]) rfl ⟨⟨1, q2, q3⟩, p + 1 + 1 + 1, rfl, by omega, by omega, ?_, ?_⟩
    · exact HR3.out.below (((((Below.refl B _).setCell (by simp; omega) _).setCell (by simp; omega) _).setCell (by simp; omega) _))
    · exact ((HF3.out.setCell (.inl (by simp)) _).setCell (.inl (by simp)) _).setCell (.inl (by simp)) _
  · go_wp2_with fail
    refine (pick_any B R _ _ _ hR1 (by omega) (by omega) (by omega)).mono ?_
    rintro e w2 ⟨q2, rfl, a0, a1, hR2, hF2⟩
    have hB2 := hB1.fr hF2 (by omega)
    have HF2 : Hid (Fr R w.heap.size w w2) := HF1.out.trans (hF2.mono HF1.out.size)
    clear hF2 hB1 hR1 HF1
    go_wp2_with fail
    refine (pick_any B R _ _ _ hR2 (by omega) (by omega) (by omega)).mono ?_
    rintro e w3 ⟨q3, rfl, b0, b1, hR3, hF3⟩
    have hB3 := hB2.fr hF3 (by omega)
    have HF3 : Hid (Fr R w.heap.size w w3) := HF2.out.trans (hF3.mono HF2.out.size)
    have HR3 := (show Hid (RdAt _ _ _ _) from hR3)
    obtain ⟨⟨u0, f0⟩, g0⟩ := hB3.2 0 (by omega)
    obtain ⟨⟨u1, f1⟩, g1⟩ := hB3.2 1 (by omega)
    obtain ⟨⟨u2, f2⟩, g2⟩ := hB3.2 2 (by omega)
    have HB3 := (show Hid (Blk _ _ _) from hB3)
    clear hF3 hB2 hR2 HF2 hR3 hB3
    go_wp2_with fail
    obtain ⟨i0, i1, i2⟩ := set3_in HB3.out 0 (by omega) (.int .i64 2) (.int .i64 q2) (.int .i64 q3)
    refine bodyPost_ret (v := .agg #[.int .i64 2, .int .i64 q2, .int .i64 q3]) (by simp [results, Try.results130, go_sem, i0, i1, i2]) rfl ⟨⟨2, q2, q3⟩, p + 1 + 1 + 1, rfl, by omega, by omega, ?_, ?_⟩
    · exact HR3.out.below (((((Below.refl B _).setCell (by simp; omega) _).setCell (by simp; omega) _).setCell (by simp; omega) _))
    · exact ((HF3.out.setCell (.inl (by simp)) _).setCell (.inl (by simp)) _).setCell (.inl (by simp)) _
  · go_wp2_with fail
    refine (pick_any B R _ _ _ hR1 (by omega) (by omega) (by omega)).mono ?_
    rintro e w2 ⟨q2, rfl, a0, a1, hR2, hF2⟩
    have hB2 := hB1.fr hF2 (by omega)
    have HF2 : Hid (Fr R w.heap.size w w2) := HF1.out.trans (hF2.mono HF1.out.size)
    clear hF2 hB1 hR1 HF1
    go_wp2_with fail
    refine (pick_any B R _ _ _ hR2 (by omega) (by omega) (by omega)).mono ?_
    rintro e w3 ⟨q3, rfl, b0, b1, hR3, hF3⟩
    have hB3 := hB2.fr hF3 (by omega)
    have HF3 : Hid (Fr R w.heap.size w w3) := HF2.out.trans (hF3.mono HF2.out.size)
    have HR3 := (show Hid (RdAt _ _ _ _) from hR3)
    obtain ⟨⟨u0, f0⟩, g0⟩ := hB3.2 0 (by omega)
    obtain ⟨⟨u1, f1⟩, g1⟩ := hB3.2 1 (by omega)
    obtain ⟨⟨u2, f2⟩, g2⟩ := hB3.2 2 (by omega)
    have HB3 := (show Hid (Blk _ _ _) from hB3)
    clear hF3 hB2 hR2 HF2 hR3 hB3
    go_wp2_with fail
    obtain ⟨i0, i1, i2⟩ := set3_in HB3.out 0 (by omega) (.int .i64 2) (.int .i64 q2) (.int .i64 q3)
    refine bodyPost_ret (v := .agg #[.int .i64 2, .int .i64 q2, .int .i64 q3]) (by simp [results, Try.results130, go_sem, i0, i1, i2]) rfl ⟨⟨2, q2, q3⟩, p + 1 + 1 + 1, rfl, by omega, by omega, ?_, ?_⟩
    · exact HR3.out.below (((((Below.refl B _).setCell (by simp; omega) _).setCell (by simp; omega) _).setCell (by simp; omega) _))
    · exact ((HF3.out.setCell (.inl (by simp)) _).setCell (.inl (by simp)) _).setCell (.inl (by simp)) _
  · go_wp2_with fail
    refine (pick_any B R _ _ _ hR1 (by omega) (by omega) (by omega)).mono ?_
    rintro e w2 ⟨q2, rfl, a0, a1, hR2, hF2⟩
    have hB2 := hB1.fr hF2 (by omega)
    have HF2 : Hid (Fr R w.heap.size w w2) := HF1.out.trans (hF2.mono HF1.out.size)
    clear hF2 hB1 hR1 HF1
    go_wp2_with fail
    refine (pick_any B R _ _ _ hR2 (by omega) (by omega) (by omega)).mono ?_
    rintro e w3 ⟨q3, rfl, b0, b1, hR3, hF3⟩
    have hB3 := hB2.fr hF3 (by omega)
    have HF3 : Hid (Fr R w.heap.size w w3) := HF2.out.trans (hF3.mono HF2.out.size)
    have HR3 := (show Hid (RdAt _ _ _ _) from hR3)
    obtain ⟨⟨u0, f0⟩, g0⟩ := hB3.2 0 (by omega)
    obtain ⟨⟨u1, f1⟩, g1⟩ := hB3.2 1 (by omega)
    obtain ⟨⟨u2, f2⟩, g2⟩ := hB3.2 2 (by omega)
    have HB3 := (show Hid (Blk _ _ _) from hB3)
    clear hF3 hB2 hR2 HF2 hR3 hB3
    go_wp2_with fail
    obtain ⟨i0, i1, i2⟩ := set3_in HB3.out 0 (by omega) (.int .i64 2) (.int .i64 q2) (.int .i64 q3)
    refine bodyPost_ret (v := .agg #[.int .i64 2, .int .i64 q2, .int .i64 q3]) (by simp [results, Try.results130, go_sem, i0, i1, i2]) rfl ⟨⟨2, q2, q3⟩, p + 1 + 1 + 1, rfl, by omega, by omega, ?_, ?_⟩
    · exact HR3.out.below (((((Below.refl B _).setCell (by simp; omega) _).setCell (by simp; omega) _).setCell (by simp; omega) _))
    · exact ((HF3.out.setCell (.inl (by simp)) _).setCell (.inl (by simp)) _).setCell (.inl (by simp)) _
  · go_wp2_with fail
    refine (pick_any B R _ _ _ hR1 (by omega) (by omega) (by omega)).mono ?_
    rintro e w2 ⟨q2, rfl, a0, a1, hR2, hF2⟩
    have hB2 := hB1.fr hF2 (by omega)
    have HF2 : Hid (Fr R w.heap.size w w2) := HF1.out.trans (hF2.mono HF1.out.size)
    clear hF2 hB1 hR1 HF1
    go_wp2_with fail
    refine (pick_any B R _ _ _ hR2 (by omega) (by omega) (by omega)).mono ?_
    rintro e w3 ⟨q3, rfl, b0, b1, hR3, hF3⟩
    have hB3 := hB2.fr hF3 (by omega)
    have HF3 : Hid (Fr R w.heap.size w w3) := HF2.out.trans (hF3.mono HF2.out.size)
    have HR3 := (show Hid (RdAt _ _ _ _) from hR3)
    obtain ⟨⟨u0, f0⟩, g0⟩ := hB3.2 0 (by omega)
    obtain ⟨⟨u1, f1⟩, g1⟩ := hB3.2 1 (by omega)
    obtain ⟨⟨u2, f2⟩, g2⟩ := hB3.2 2 (by omega)
    have HB3 := (show Hid (Blk _ _ _) from hB3)
    clear hF3 hB2 hR2 HF2 hR3 hB3
    go_wp2_with fail
    obtain ⟨i0, i1, i2⟩ := set3_in HB3.out 0 (by omega) (.int .i64 3) (.int .i64 q2) (.int .i64 q3)
    refine bodyPost_ret (v := .agg #[.int .i64 3, .int .i64 q2, .int .i64 q3]) (by simp [results, Try.results130, go_sem, i0, i1, i2]) rfl ⟨⟨3, q2, q3⟩, p + 1 + 1 + 1, rfl, by omega, by omega, ?_, ?_⟩
    · exact HR3.out.below (((((Below.refl B _).setCell (by simp; omega) _).setCell (by simp; omega) _).setCell (by simp; omega) _))
    · exact ((HF3.out.setCell (.inl (by simp)) _).setCell (.inl (by simp)) _).setCell (.inl (by simp)) _
  · go_wp2_with fail
    refine (pick_any B R _ _ _ hR1 (by omega) (by omega) (by omega)).mono ?_
    rintro e w2 ⟨q2, rfl, a0, a1, hR2, hF2⟩
    have hB2 := hB1.fr hF2 (by omega)
    have HF2 : Hid (Fr R w.heap.size w w2) := HF1.out.trans (hF2.mono HF1.out.size)
    clear hF2 hB1 hR1 HF1
    go_wp2_with fail
    refine (pick_any B R _ _ _ hR2 (by omega) (by omega) (by omega)).mono ?_
    rintro e w3 ⟨q3, rfl, b0, b1, hR3, hF3⟩
    have hB3 := hB2.fr hF3 (by omega)
    have HF3 : Hid (Fr R w.heap.size w w3) := HF2.out.trans (hF3.mono HF2.out.size)
    have HR3 := (show Hid (RdAt _ _ _ _) from hR3)
    obtain ⟨⟨u0, f0⟩, g0⟩ := hB3.2 0 (by omega)
    obtain ⟨⟨u1, f1⟩, g1⟩ := hB3.2 1 (by omega)
    obtain ⟨⟨u2, f2⟩, g2⟩ := hB3.2 2 (by omega)
    have HB3 := (show Hid (Blk _ _ _) from hB3)
    clear hF3 hB2 hR2 HF2 hR3 hB3
    go_wp2_with fail
    obtain ⟨i0, i1, i2⟩ := set3_in HB3.out 0 (by omega) (.int .i64 4) (.int .i64 q2) (.int .i64 q3)
    refine bodyPost_ret (v := .agg #[.int .i64 4, .int .i64 q2, .int .i64 q3]) (by simp [results, Try.results130, go_sem, i0, i1, i2]) rfl ⟨⟨4, q2, q3⟩, p + 1 + 1 + 1, rfl, by omega, by omega, ?_, ?_⟩
    · exact HR3.out.below (((((Below.refl B _).setCell (by simp; omega) _).setCell (by simp; omega) _).setCell (by simp; omega) _))
    · exact ((HF3.out.setCell (.inl (by simp)) _).setCell (.inl (by simp)) _).setCell (.inl (by simp)) _
  · go_wp2_with fail
    refine (pick_any B R _ _ _ hR1 (by omega) (by omega) (by omega)).mono ?_
    rintro e w3 ⟨q2, rfl, a0, a1, hR3, hF3⟩
    have hB3 := hB1.fr hF3 (by omega)
    have HF3 : Hid (Fr R w.heap.size w w3) := HF1.out.trans (hF3.mono HF1.out.size)
    have HR3 := (show Hid (RdAt _ _ _ _) from hR3)
    obtain ⟨⟨u0, f0⟩, g0⟩ := hB3.2 0 (by omega)
    obtain ⟨⟨u1, f1⟩, g1⟩ := hB3.2 1 (by omega)
    obtain ⟨⟨u2, f2⟩, g2⟩ := hB3.2 2 (by omega)
    have HB3 := (show Hid (Blk _ _ _) from hB3)
    clear hF3 hB1 hR1 HF1 hR3 hB3
    go_wp2_with fail
    obtain ⟨i0, i1, i2⟩ := set3_in HB3.out 0 (by omega) (.int .i64 5) (.int .i64 q2) (.int .i64 0)
    refine bodyPost_ret (v := .agg #[.int .i64 5, .int .i64 q2, .int .i64 0]) (by simp [results, Try.results130, go_sem, i0, i1, i2]) rfl ⟨⟨5, q2, 0⟩, p + 1 + 1, rfl, by omega, by omega, ?_, ?_⟩
    · exact HR3.out.below (((((Below.refl B _).setCell (by simp; omega) _).setCell (by simp; omega) _).setCell (by simp; omega) _))
    · exact ((HF3.out.setCell (.inl (by simp)) _).setCell (.inl (by simp)) _).setCell (.inl (by simp)) _
end Go.Proofs.Ytgbgjljflgbcaaa
