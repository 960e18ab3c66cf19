import Derived.Test.YtgbgjljflgbcaaaSo07
import Derived.Test.YtgbgjljflgbcaaaSo04
import Derived.Test.YtgbgjljflgbcaaaSo01
namespace Go.Proofs.Ytgbgjljflgbcaaa
set_option maxHeartbeats 8000000
open Go.RowKit
set_option linter.unusedSimpArgs false
set_option linter.unusedVariables false
theorem Blk.fr {R : Nat} {w w' : World} {g n : Nat} (h : Blk w g n) (hb : Fr R w.heap.size w w') (hR : g ≠ R) : Blk w' g n :=
 ⟨Nat.lt_of_lt_of_le h.1 hb.size, fun j hj => ⟨by rw [hb.cell h.1 hR]; exact (h.2 j hj).1, by rw [hb.frozen h.1 hR]; exact (h.2 j hj).2⟩⟩
def Bytes (w : World) (a : Option Addr) (n : Nat) : Prop := ∀ i, i < n -> ∃ b off u, a = some ⟨b, off, none⟩ /\ b < w.heap.size /\ 0 <= u /\ u <= 255 /\ w.cell? ⟨b, off + i, none⟩ = some (.int .u8 u)
theorem l6Open_any (a : Option Addr) (n cap : Nat) (w : World) (h : Bytes w a n) (hc : n <= cap) (hn : cap <= 9223372036854775807) :
   Calls Try.prog 32 #[.slice a n cap] w fun e w' => e = .returned (.pointer (some ⟨w.heap.size, 0, none⟩)) /\ RdAt (w.heap.size + 1) w' w.heap.size 0 /\ Below w.heap.size w w' := by
 by_cases h2 : 2000 < n
 . have h2' : (2000 : Int) < (n : Int) := by omega
   obtain ⟨b, off, u, rfl, _⟩ := h 0 (by omega)
   have HR : Hid (∀ cap', RdAt (w.heap.size + 1) (w.alloc (.cells #[.slice (some ⟨b, off, none⟩) 2000 cap', .int .i64 0] 104)) w.heap.size 0) := fun cap' => by
     refine ⟨by omega, by simp, by simp [go_sem], by simp [go_sem], _, 2000, cap', by simp [go_sem]; rfl, by omega, fun i hi => ?_⟩
     obtain ⟨b', off', u', e, h1, h3, h4, h5⟩ := h i (by omega)
     exact ⟨b', off', u', e, by omega, by omega, h3, h4, by rw [World.cell?_alloc_past _ _ _ h1]; exact h5⟩
   have hcap : (2000 : Int) <= (cap : Int) := by omega
   clear h
   go_enter Try.func32, Try.ntmps32
   go_wp2_with fail
   go_ret
   exact ⟨rfl, HR.out _, bqn⟩
 . have h2' : ¬ (2000 : Int) < (n : Int) := by omega
   have HR : Hid (RdAt (w.heap.size + 1) (w.alloc (.cells #[.slice a n cap, .int .i64 0] 104)) w.heap.size 0) := by
     refine ⟨by omega, by simp, by simp [go_sem], by simp [go_sem], a, n, cap, by simp [go_sem], by omega, fun i hi => ?_⟩
     obtain ⟨b', off', u', e, h1, h3, h4, h5⟩ := h i (by omega)
     exact ⟨b', off', u', e, by omega, by omega, h3, h4, by rw [World.cell?_alloc_past _ _ _ h1]; exact h5⟩
   clear h
   go_enter Try.func32, Try.ntmps32
   go_wp2_with fail
   go_ret
   exact ⟨rfl, HR.out, bqn⟩
theorem l71Deed_any (B R p : Nat) (c : Int) (w : World) (h : RdAt B w R p) (hp : p <= 900000) (hc0 : 0 <= c) (hc3 : c <= 3) :
   Calls Try.prog 130 #[.pointer (some ⟨R, 0, none⟩), .int .i64 c] w fun e w' => ∃ (d : De) (p' : Nat), e = .returned (.agg #[.int .i64 d.k, .int .i64 d.a, .int .i64 d.b]) /\ p <= p' /\ p' <= p + 3 /\ RdAt B w' R p' /\ Fr R w.heap.size w w' := by
 have hlt := h.lt
 have hle := h.le
 have hR0 : ∀ o, RdAt B (w.alloc o) R p := fun o => h.below ((Below.refl _ _).alloc hle _)
 have hBn := Blk.new w #[.int .i64 0, .int .i64 0, .int .i64 0] 125
 have HF0 : Hid (∀ o, Fr R w.heap.size w (w.alloc o)) := fun o => (Fr.refl _ _ _).alloc (Nat.le_refl _) _
 have HBn : Hid (Blk (w.alloc (.cells #[.int .i64 0, .int .i64 0, .int .i64 0] 125)) w.heap.size 3) := hBn
 clear h hBn
 by_cases hcz : c = 0
 . subst hcz
   go_enter Try.func130, Try.ntmps130
   have HF1 : Hid (Fr R w.heap.size w (w.alloc (.cells #[.int .i64 0, .int .i64 0, .int .i64 0] 125))) := HF0.out _
   have hB1 := HBn.out
   have hR1 := hR0 (.cells #[.int .i64 0, .int .i64 0, .int .i64 0] 125)
   clear HF0 HBn hR0
   go_wp2_with fail
   refine (pick_any B R _ _ _ hR1 (by omega) (by omega) (by omega)).mono ?_
   rintro e w2 ⟨q2, rfl, a0, a1, hR2, hF2⟩
   have hB2 := hB1.fr hF2 (by omega)
   have HF2 : Hid (Fr R w.heap.size w w2) := HF1.out.trans (hF2.mono HF1.out.size)
   clear hF2 hB1 hR1 HF1
   go_wp2_with fail
   refine (pick_any B R _ _ _ hR2 (by omega) (by omega) (by omega)).mono ?_
   rintro e w3 ⟨q3, rfl, b0, b1, hR3, hF3⟩
   have hB3 := hB2.fr hF3 (by omega)
   have HF3 : Hid (Fr R w.heap.size w w3) := HF2.out.trans (hF3.mono HF2.out.size)
   have HR3 := (show Hid (RdAt _ _ _ _) from hR3)
   obtain ⟨⟨u0, f0⟩, g0⟩ := hB3.2 0 (by omega)
   obtain ⟨⟨u1, f1⟩, g1⟩ := hB3.2 1 (by omega)
   obtain ⟨⟨u2, f2⟩, g2⟩ := hB3.2 2 (by omega)
   have HB3 := (show Hid (Blk _ _ _) from hB3)
   clear hF3 hB2 hR2 HF2 hR3 hB3
   go_wp2_with fail
   obtain ⟨i0, i1, i2⟩ := set3_in HB3.out 0 (by omega) (.int .i64 3) (.int .i64 q2) (.int .i64 q3)
   refine bodyPost_ret (v := .agg #[.int .i64 3, .int .i64 q2, .int .i64 q3]) (by simp [results, Try.results130, go_sem, i0, i1, i2]) rfl ⟨⟨3, q2, q3⟩, p + 1 + 1, rfl, by omega, by omega, ?_, ?_⟩
   . exact HR3.out.below (((((Below.refl B _).setCell (by simp; omega) _).setCell (by simp; omega) _).setCell (by simp; omega) _))
   . exact ((HF3.out.setCell (.inl (by simp)) _).setCell (.inl (by simp)) _).setCell (.inl (by simp)) _
 have gc : (c == 0) = false := by simp [hcz]
 go_enter Try.func130, Try.ntmps130
 go_wp2_with fail
 refine (pick_any B R _ _ _ (hR0 _) (by omega) (by omega) (by omega)).mono ?_
 rintro e w1 ⟨q, rfl, q0, q1, hR1, hF1⟩
 have hB1 := Blk.fr HBn.out hF1 (by omega)
 have HF1 : Hid (Fr R w.heap.size w w1) := (HF0.out _).trans (hF1.mono (by simp))
 clear hF1 HF0 HBn hR0
 have hq : q = 0 \/ q = 1 \/ q = 2 \/ q = 3 \/ q = 4 \/ q = 5 \/ q = 6 \/ q = 7 \/ q = 8 \/ q = 9 := by omega
 rcases hq with rfl | rfl | rfl | rfl | rfl | rfl | rfl | rfl | rfl | rfl
 . go_wp2_with fail
   refine (pick_any B R _ _ _ hR1 (by omega) (by omega) (by omega)).mono ?_
   rintro e w2 ⟨q2, rfl, a0, a1, hR2, hF2⟩
   have hB2 := hB1.fr hF2 (by omega)
   have HF2 : Hid (Fr R w.heap.size w w2) := HF1.out.trans (hF2.mono HF1.out.size)
   clear hF2 hB1 hR1 HF1
   go_wp2_with fail
   refine (pick_any B R _ _ _ hR2 (by omega) (by omega) (by omega)).mono ?_
   rintro e w3 ⟨q3, rfl, b0, b1, hR3, hF3⟩
   have hB3 := hB2.fr hF3 (by omega)
   have HF3 : Hid (Fr R w.heap.size w w3) := HF2.out.trans (hF3.mono HF2.out.size)
   have HR3 := (show Hid (RdAt _ _ _ _) from hR3)
   obtain ⟨⟨u0, f0⟩, g0⟩ := hB3.2 0 (by omega)
   obtain ⟨⟨u1, f1⟩, g1⟩ := hB3.2 1 (by omega)
   obtain ⟨⟨u2, f2⟩, g2⟩ := hB3.2 2 (by omega)
   have HB3 := (show Hid (Blk _ _ _) from hB3)
   clear hF3 hB2 hR2 HF2 hR3 hB3
   go_wp2_with fail
   obtain ⟨i0, i1, i2⟩ := set3_in HB3.out 0 (by omega) (.int .i64 1) (.int .i64 q2) (.int .i64 q3)
   refine bodyPost_ret (v := .agg #[.int .i64 1, .int .i64 q2, .int .i64 q3]) (by simp [results, Try.results130, go_sem, i0, i1, i2]) rfl ⟨⟨1, q2, q3⟩, p + 1 + 1 + 1, rfl, by omega, by omega, ?_, ?_⟩
   . exact HR3.out.below (((((Below.refl B _).setCell (by simp; omega) _).setCell (by simp; omega) _).setCell (by simp; omega) _))
   . exact ((HF3.out.setCell (.inl (by simp)) _).setCell (.inl (by simp)) _).setCell (.inl (by simp)) _
 . go_wp2_with fail
   refine (pick_any B R _ _ _ hR1 (by omega) (by omega) (by omega)).mono ?_
   rintro e w2 ⟨q2, rfl, a0, a1, hR2, hF2⟩
   have hB2 := hB1.fr hF2 (by omega)
   have HF2 : Hid (Fr R w.heap.size w w2) := HF1.out.trans (hF2.mono HF1.out.size)
   clear hF2 hB1 hR1 HF1
   go_wp2_with fail
   refine (pick_any B R _ _ _ hR2 (by omega) (by omega) (by omega)).mono ?_
   rintro e w3 ⟨q3, rfl, b0, b1, hR3, hF3⟩
   have hB3 := hB2.fr hF3 (by omega)
   have HF3 : Hid (Fr R w.heap.size w w3) := HF2.out.trans (hF3.mono HF2.out.size)
   have HR3 := (show Hid (RdAt _ _ _ _) from hR3)
   obtain ⟨⟨u0, f0⟩, g0⟩ := hB3.2 0 (by omega)
   obtain ⟨⟨u1, f1⟩, g1⟩ := hB3.2 1 (by omega)
   obtain ⟨⟨u2, f2⟩, g2⟩ := hB3.2 2 (by omega)
   have HB3 := (show Hid (Blk _ _ _) from hB3)
   clear hF3 hB2 hR2 HF2 hR3 hB3
   go_wp2_with fail
   obtain ⟨i0, i1, i2⟩ := set3_in HB3.out 0 (by omega) (.int .i64 1) (.int .i64 q2) (.int .i64 q3)
   refine bodyPost_ret (v := .agg #[.int .i64 1, .int .i64 q2, .int .i64 q3]) (by simp [results, Try.results130, go_sem, i0, i1, i2]) rfl ⟨⟨1, q2, q3⟩, p + 1 + 1 + 1, rfl, by omega, by omega, ?_, ?_⟩
   . exact HR3.out.below (((((Below.refl B _).setCell (by simp; omega) _).setCell (by simp; omega) _).setCell (by simp; omega) _))
   . exact ((HF3.out.setCell (.inl (by simp)) _).setCell (.inl (by simp)) _).setCell (.inl (by simp)) _
 . go_wp2_with fail
   refine (pick_any B R _ _ _ hR1 (by omega) (by omega) (by omega)).mono ?_
   rintro e w2 ⟨q2, rfl, a0, a1, hR2, hF2⟩
   have hB2 := hB1.fr hF2 (by omega)
   have HF2 : Hid (Fr R w.heap.size w w2) := HF1.out.trans (hF2.mono HF1.out.size)
   clear hF2 hB1 hR1 HF1
   go_wp2_with fail
   refine (pick_any B R _ _ _ hR2 (by omega) (by omega) (by omega)).mono ?_
   rintro e w3 ⟨q3, rfl, b0, b1, hR3, hF3⟩
   have hB3 := hB2.fr hF3 (by omega)
   have HF3 : Hid (Fr R w.heap.size w w3) := HF2.out.trans (hF3.mono HF2.out.size)
   have HR3 := (show Hid (RdAt _ _ _ _) from hR3)
   obtain ⟨⟨u0, f0⟩, g0⟩ := hB3.2 0 (by omega)
   obtain ⟨⟨u1, f1⟩, g1⟩ := hB3.2 1 (by omega)
   obtain ⟨⟨u2, f2⟩, g2⟩ := hB3.2 2 (by omega)
   have HB3 := (show Hid (Blk _ _ _) from hB3)
   clear hF3 hB2 hR2 HF2 hR3 hB3
   go_wp2_with fail
   obtain ⟨i0, i1, i2⟩ := set3_in HB3.out 0 (by omega) (.int .i64 1) (.int .i64 q2) (.int .i64 q3)
   refine bodyPost_ret (v := .agg #[.int .i64 1, .int .i64 q2, .int .i64 q3]) (by simp [results, Try.results130, go_sem, i0, i1, i2]) rfl ⟨⟨1, q2, q3⟩, p + 1 + 1 + 1, rfl, by omega, by omega, ?_, ?_⟩
   . exact HR3.out.below (((((Below.refl B _).setCell (by simp; omega) _).setCell (by simp; omega) _).setCell (by simp; omega) _))
   . exact ((HF3.out.setCell (.inl (by simp)) _).setCell (.inl (by simp)) _).setCell (.inl (by simp)) _
 . go_wp2_with fail
   refine (pick_any B R _ _ _ hR1 (by omega) (by omega) (by omega)).mono ?_
   rintro e w2 ⟨q2, rfl, a0, a1, hR2, hF2⟩
   have hB2 := hB1.fr hF2 (by omega)
   have HF2 : Hid (Fr R w.heap.size w w2) := HF1.out.trans (hF2.mono HF1.out.size)
   clear hF2 hB1 hR1 HF1
   go_wp2_with fail
   refine (pick_any B R _ _ _ hR2 (by omega) (by omega) (by omega)).mono ?_
   rintro e w3 ⟨q3, rfl, b0, b1, hR3, hF3⟩
   have hB3 := hB2.fr hF3 (by omega)
   have HF3 : Hid (Fr R w.heap.size w w3) := HF2.out.trans (hF3.mono HF2.out.size)
   have HR3 := (show Hid (RdAt _ _ _ _) from hR3)
   obtain ⟨⟨u0, f0⟩, g0⟩ := hB3.2 0 (by omega)
   obtain ⟨⟨u1, f1⟩, g1⟩ := hB3.2 1 (by omega)
   obtain ⟨⟨u2, f2⟩, g2⟩ := hB3.2 2 (by omega)
   have HB3 := (show Hid (Blk _ _ _) from hB3)
   clear hF3 hB2 hR2 HF2 hR3 hB3
   go_wp2_with fail
   obtain ⟨i0, i1, i2⟩ := set3_in HB3.out 0 (by omega) (.int .i64 1) (.int .i64 q2) (.int .i64 q3)
   refine bodyPost_ret (v := .agg #[.int .i64 1, .int .i64 q2, .int .i64 q3]) (by simp [results, Try.results130, go_sem, i0, i1, i2]) rfl ⟨⟨1, q2, q3⟩, p + 1 + 1 + 1, rfl, by omega, by omega, ?_, ?_⟩
   . exact HR3.out.below (((((Below.refl B _).setCell (by simp; omega) _).setCell (by simp; omega) _).setCell (by simp; omega) _))
   . exact ((HF3.out.setCell (.inl (by simp)) _).setCell (.inl (by simp)) _).setCell (.inl (by simp)) _
 . go_wp2_with fail
   refine (pick_any B R _ _ _ hR1 (by omega) (by omega) (by omega)).mono ?_
   rintro e w2 ⟨q2, rfl, a0, a1, hR2, hF2⟩
   have hB2 := hB1.fr hF2 (by omega)
   have HF2 : Hid (Fr R w.heap.size w w2) := HF1.out.trans (hF2.mono HF1.out.size)
   clear hF2 hB1 hR1 HF1
   go_wp2_with fail
   refine (pick_any B R _ _ _ hR2 (by omega) (by omega) (by omega)).mono ?_
   rintro e w3 ⟨q3, rfl, b0, b1, hR3, hF3⟩
   have hB3 := hB2.fr hF3 (by omega)
   have HF3 : Hid (Fr R w.heap.size w w3) := HF2.out.trans (hF3.mono HF2.out.size)
   have HR3 := (show Hid (RdAt _ _ _ _) from hR3)
   obtain ⟨⟨u0, f0⟩, g0⟩ := hB3.2 0 (by omega)
   obtain ⟨⟨u1, f1⟩, g1⟩ := hB3.2 1 (by omega)
   obtain ⟨⟨u2, f2⟩, g2⟩ := hB3.2 2 (by omega)
   have HB3 := (show Hid (Blk _ _ _) from hB3)
   clear hF3 hB2 hR2 HF2 hR3 hB3
   go_wp2_with fail
   obtain ⟨i0, i1, i2⟩ := set3_in HB3.out 0 (by omega) (.int .i64 2) (.int .i64 q2) (.int .i64 q3)
   refine bodyPost_ret (v := .agg #[.int .i64 2, .int .i64 q2, .int .i64 q3]) (by simp [results, Try.results130, go_sem, i0, i1, i2]) rfl ⟨⟨2, q2, q3⟩, p + 1 + 1 + 1, rfl, by omega, by omega, ?_, ?_⟩
   . exact HR3.out.below (((((Below.refl B _).setCell (by simp; omega) _).setCell (by simp; omega) _).setCell (by simp; omega) _))
   . exact ((HF3.out.setCell (.inl (by simp)) _).setCell (.inl (by simp)) _).setCell (.inl (by simp)) _
 . go_wp2_with fail
   refine (pick_any B R _ _ _ hR1 (by omega) (by omega) (by omega)).mono ?_
   rintro e w2 ⟨q2, rfl, a0, a1, hR2, hF2⟩
   have hB2 := hB1.fr hF2 (by omega)
   have HF2 : Hid (Fr R w.heap.size w w2) := HF1.out.trans (hF2.mono HF1.out.size)
   clear hF2 hB1 hR1 HF1
   go_wp2_with fail
   refine (pick_any B R _ _ _ hR2 (by omega) (by omega) (by omega)).mono ?_
   rintro e w3 ⟨q3, rfl, b0, b1, hR3, hF3⟩
   have hB3 := hB2.fr hF3 (by omega)
   have HF3 : Hid (Fr R w.heap.size w w3) := HF2.out.trans (hF3.mono HF2.out.size)
   have HR3 := (show Hid (RdAt _ _ _ _) from hR3)
   obtain ⟨⟨u0, f0⟩, g0⟩ := hB3.2 0 (by omega)
   obtain ⟨⟨u1, f1⟩, g1⟩ := hB3.2 1 (by omega)
   obtain ⟨⟨u2, f2⟩, g2⟩ := hB3.2 2 (by omega)
   have HB3 := (show Hid (Blk _ _ _) from hB3)
   clear hF3 hB2 hR2 HF2 hR3 hB3
   go_wp2_with fail
   obtain ⟨i0, i1, i2⟩ := set3_in HB3.out 0 (by omega) (.int .i64 2) (.int .i64 q2) (.int .i64 q3)
   refine bodyPost_ret (v := .agg #[.int .i64 2, .int .i64 q2, .int .i64 q3]) (by simp [results, Try.results130, go_sem, i0, i1, i2]) rfl ⟨⟨2, q2, q3⟩, p + 1 + 1 + 1, rfl, by omega, by omega, ?_, ?_⟩
   . exact HR3.out.below (((((Below.refl B _).setCell (by simp; omega) _).setCell (by simp; omega) _).setCell (by simp; omega) _))
   . exact ((HF3.out.setCell (.inl (by simp)) _).setCell (.inl (by simp)) _).setCell (.inl (by simp)) _
 . go_wp2_with fail
   refine (pick_any B R _ _ _ hR1 (by omega) (by omega) (by omega)).mono ?_
   rintro e w2 ⟨q2, rfl, a0, a1, hR2, hF2⟩
   have hB2 := hB1.fr hF2 (by omega)
   have HF2 : Hid (Fr R w.heap.size w w2) := HF1.out.trans (hF2.mono HF1.out.size)
   clear hF2 hB1 hR1 HF1
   go_wp2_with fail
   refine (pick_any B R _ _ _ hR2 (by omega) (by omega) (by omega)).mono ?_
   rintro e w3 ⟨q3, rfl, b0, b1, hR3, hF3⟩
   have hB3 := hB2.fr hF3 (by omega)
   have HF3 : Hid (Fr R w.heap.size w w3) := HF2.out.trans (hF3.mono HF2.out.size)
   have HR3 := (show Hid (RdAt _ _ _ _) from hR3)
   obtain ⟨⟨u0, f0⟩, g0⟩ := hB3.2 0 (by omega)
   obtain ⟨⟨u1, f1⟩, g1⟩ := hB3.2 1 (by omega)
   obtain ⟨⟨u2, f2⟩, g2⟩ := hB3.2 2 (by omega)
   have HB3 := (show Hid (Blk _ _ _) from hB3)
   clear hF3 hB2 hR2 HF2 hR3 hB3
   go_wp2_with fail
   obtain ⟨i0, i1, i2⟩ := set3_in HB3.out 0 (by omega) (.int .i64 2) (.int .i64 q2) (.int .i64 q3)
   refine bodyPost_ret (v := .agg #[.int .i64 2, .int .i64 q2, .int .i64 q3]) (by simp [results, Try.results130, go_sem, i0, i1, i2]) rfl ⟨⟨2, q2, q3⟩, p + 1 + 1 + 1, rfl, by omega, by omega, ?_, ?_⟩
   . exact HR3.out.below (((((Below.refl B _).setCell (by simp; omega) _).setCell (by simp; omega) _).setCell (by simp; omega) _))
   . exact ((HF3.out.setCell (.inl (by simp)) _).setCell (.inl (by simp)) _).setCell (.inl (by simp)) _
 . go_wp2_with fail
   refine (pick_any B R _ _ _ hR1 (by omega) (by omega) (by omega)).mono ?_
   rintro e w2 ⟨q2, rfl, a0, a1, hR2, hF2⟩
   have hB2 := hB1.fr hF2 (by omega)
   have HF2 : Hid (Fr R w.heap.size w w2) := HF1.out.trans (hF2.mono HF1.out.size)
   clear hF2 hB1 hR1 HF1
   go_wp2_with fail
   refine (pick_any B R _ _ _ hR2 (by omega) (by omega) (by omega)).mono ?_
   rintro e w3 ⟨q3, rfl, b0, b1, hR3, hF3⟩
   have hB3 := hB2.fr hF3 (by omega)
   have HF3 : Hid (Fr R w.heap.size w w3) := HF2.out.trans (hF3.mono HF2.out.size)
   have HR3 := (show Hid (RdAt _ _ _ _) from hR3)
   obtain ⟨⟨u0, f0⟩, g0⟩ := hB3.2 0 (by omega)
   obtain ⟨⟨u1, f1⟩, g1⟩ := hB3.2 1 (by omega)
   obtain ⟨⟨u2, f2⟩, g2⟩ := hB3.2 2 (by omega)
   have HB3 := (show Hid (Blk _ _ _) from hB3)
   clear hF3 hB2 hR2 HF2 hR3 hB3
   go_wp2_with fail
   obtain ⟨i0, i1, i2⟩ := set3_in HB3.out 0 (by omega) (.int .i64 3) (.int .i64 q2) (.int .i64 q3)
   refine bodyPost_ret (v := .agg #[.int .i64 3, .int .i64 q2, .int .i64 q3]) (by simp [results, Try.results130, go_sem, i0, i1, i2]) rfl ⟨⟨3, q2, q3⟩, p + 1 + 1 + 1, rfl, by omega, by omega, ?_, ?_⟩
   . exact HR3.out.below (((((Below.refl B _).setCell (by simp; omega) _).setCell (by simp; omega) _).setCell (by simp; omega) _))
   . exact ((HF3.out.setCell (.inl (by simp)) _).setCell (.inl (by simp)) _).setCell (.inl (by simp)) _
 . go_wp2_with fail
   refine (pick_any B R _ _ _ hR1 (by omega) (by omega) (by omega)).mono ?_
   rintro e w2 ⟨q2, rfl, a0, a1, hR2, hF2⟩
   have hB2 := hB1.fr hF2 (by omega)
   have HF2 : Hid (Fr R w.heap.size w w2) := HF1.out.trans (hF2.mono HF1.out.size)
   clear hF2 hB1 hR1 HF1
   go_wp2_with fail
   refine (pick_any B R _ _ _ hR2 (by omega) (by omega) (by omega)).mono ?_
   rintro e w3 ⟨q3, rfl, b0, b1, hR3, hF3⟩
   have hB3 := hB2.fr hF3 (by omega)
   have HF3 : Hid (Fr R w.heap.size w w3) := HF2.out.trans (hF3.mono HF2.out.size)
   have HR3 := (show Hid (RdAt _ _ _ _) from hR3)
   obtain ⟨⟨u0, f0⟩, g0⟩ := hB3.2 0 (by omega)
   obtain ⟨⟨u1, f1⟩, g1⟩ := hB3.2 1 (by omega)
   obtain ⟨⟨u2, f2⟩, g2⟩ := hB3.2 2 (by omega)
   have HB3 := (show Hid (Blk _ _ _) from hB3)
   clear hF3 hB2 hR2 HF2 hR3 hB3
   go_wp2_with fail
   obtain ⟨i0, i1, i2⟩ := set3_in HB3.out 0 (by omega) (.int .i64 4) (.int .i64 q2) (.int .i64 q3)
   refine bodyPost_ret (v := .agg #[.int .i64 4, .int .i64 q2, .int .i64 q3]) (by simp [results, Try.results130, go_sem, i0, i1, i2]) rfl ⟨⟨4, q2, q3⟩, p + 1 + 1 + 1, rfl, by omega, by omega, ?_, ?_⟩
   . exact HR3.out.below (((((Below.refl B _).setCell (by simp; omega) _).setCell (by simp; omega) _).setCell (by simp; omega) _))
   . exact ((HF3.out.setCell (.inl (by simp)) _).setCell (.inl (by simp)) _).setCell (.inl (by simp)) _
 . go_wp2_with fail
   refine (pick_any B R _ _ _ hR1 (by omega) (by omega) (by omega)).mono ?_
   rintro e w3 ⟨q2, rfl, a0, a1, hR3, hF3⟩
   have hB3 := hB1.fr hF3 (by omega)
   have HF3 : Hid (Fr R w.heap.size w w3) := HF1.out.trans (hF3.mono HF1.out.size)
   have HR3 := (show Hid (RdAt _ _ _ _) from hR3)
   obtain ⟨⟨u0, f0⟩, g0⟩ := hB3.2 0 (by omega)
   obtain ⟨⟨u1, f1⟩, g1⟩ := hB3.2 1 (by omega)
   obtain ⟨⟨u2, f2⟩, g2⟩ := hB3.2 2 (by omega)
   have HB3 := (show Hid (Blk _ _ _) from hB3)
   clear hF3 hB1 hR1 HF1 hR3 hB3
   go_wp2_with fail
   obtain ⟨i0, i1, i2⟩ := set3_in HB3.out 0 (by omega) (.int .i64 5) (.int .i64 q2) (.int .i64 0)
   refine bodyPost_ret (v := .agg #[.int .i64 5, .int .i64 q2, .int .i64 0]) (by simp [results, Try.results130, go_sem, i0, i1, i2]) rfl ⟨⟨5, q2, 0⟩, p + 1 + 1, rfl, by omega, by omega, ?_, ?_⟩
   . exact HR3.out.below (((((Below.refl B _).setCell (by simp; omega) _).setCell (by simp; omega) _).setCell (by simp; omega) _))
   . exact ((HF3.out.setCell (.inl (by simp)) _).setCell (.inl (by simp)) _).setCell (.inl (by simp)) _

def deCells (ds : List De) : List Value := ds.flatMap fun d => [.int .i64 d.k, .int .i64 d.a, .int .i64 d.b]
def OwnDe (B : Nat) (w : World) (v : Value) (ds : List De) : Prop := w.ownsRow B 125 3 v ds.length (deCells ds)
def OwnInt (B : Nat) (w : World) (v : Value) (xs : List Int) : Prop := w.ownsRow B 3 1 v xs.length (xs.map (Value.int .i64))
theorem own_heap {w w' : World} {B : Nat} {e : TypeId} {size : Nat} {v : Value} {n : Nat} {xs : List Value} (h : w.ownsRow B e size v n xs) (hk : ∀ g, v.ownBlock = some g -> w'.heap[g]? = w.heap[g]?) : w'.ownsRow B e size v n xs := by
 refine ⟨h.1, ?_⟩
 rcases h.2 with hn | ⟨g, cap, cur, rfl, hb, hgg, rest⟩
 . exact .inl hn
 . exact .inr ⟨g, cap, cur, rfl, hb, by rw [hk g rfl]; exact hgg, rest⟩
theorem own_fr {R : Nat} {w w' : World} {B : Nat} {e : TypeId} {size : Nat} {v : Value} {n : Nat} {xs : List Value} (h : w.ownsRow B e size v n xs) (hf : Fr R w.heap.size w w') (hR : R < B) : w'.ownsRow B e size v n xs :=
 own_heap h fun g hg => by
  have := h.lt g hg
  exact hf.block g (by omega) (by omega)
theorem deCells_snoc (ds : List De) (d : De) : deCells (ds ++ [d]) = deCells ds ++ [.int .i64 d.k, .int .i64 d.a, .int .i64 d.b] := by simp [deCells]
theorem l71Deeds_any (B R p : Nat) (c : Int) (w : World) (h : RdAt B w R p) (hp : p <= 800000) (hc0 : 0 <= c) (hc3 : c <= 3) :
   Calls Try.prog 97 #[.pointer (some ⟨R, 0, none⟩), .int .i64 c] w fun e w' => ∃ (v : Value) (ds : List De) (p' : Nat), e = .returned v /\ OwnDe w.heap.size w' v ds /\ ds.length <= 5 /\ p <= p' /\ p' <= p + 20 /\ RdAt B w' R p' /\ Fr R w.heap.size w w' := by
 have hlt := h.lt
 have hle := h.le
 obtain ⟨i0, hi, hz0, hz1, hz2⟩ := info_parts Try.info_deed
 by_cases hcz : c = 0
 . subst hcz
   have hFw : Fr R w.heap.size w w := Fr.refl _ _ _
   go_enter Try.func97, Try.ntmps97
   have HRe : Hid (∀ o, RdAt B (w.alloc o) R _) := fun o => h.below ((Below.refl _ _).alloc h.le _)
   have HFe : Hid (∀ o, Fr R w.heap.size w (w.alloc o)) := fun o => hFw.alloc hFw.size _
   have HOe : Hid (OwnDe w.heap.size (w.alloc (.cells #[] 125)) (.slice (some ⟨w.heap.size, 0, none⟩) 0 0) []) := World.ownsRow_made w #[] 0 hFw.size (by unfold maxLen; omega) (by simp)
   have hsz1 := hFw.size
   clear h hFw
   go_wp2_with fail
   refine (pick_any B R _ _ _ (HRe.out _) (by omega) (by omega) (by omega)).mono ?_
   rintro e w2 ⟨q2, rfl, a0, a1, hR2, hF2⟩
   obtain ⟨m, rfl⟩ := Int.eq_ofNat_of_zero_le a0
   have HF2 : Hid (Fr R w.heap.size w w2) := (HFe.out _).trans (hF2.mono (HFe.out _).size)
   have HR2 := (show Hid (RdAt _ _ _ _) from hR2)
   have HO2 : Hid (OwnDe w.heap.size w2 (.slice (some ⟨w.heap.size, 0, none⟩) 0 0) []) := own_fr HOe.out hF2 (by omega)
   clear HRe HFe HOe hF2 hR2
   go_wp2_with fail
   go_loopw [6, 7] (fun o q w' => ∃ (k : Nat) (ds : List De) (p' : Nat), q = .int .i64 k /\ ds.length + k <= 5 /\ OwnDe w.heap.size w' o ds /\ p <= p' /\ p' + 3 * k <= p + 17 /\ RdAt B w' R p' /\ Fr R w.heap.size w w') (fun _ q _ => (intOf q).toNat)
   case atStart => exact ⟨m + 1, [], _, by go_num, by simp; omega, HO2.out, by omega, by omega, HR2.out, HF2.out⟩
   clear HF2 HR2 HO2
   case round =>
     obtain ⟨k, ds, p', rfl, hk, hown, hp1, hp2, hR, hF⟩ := hrel
     have HOW := (show Hid (OwnDe _ _ _ _) from hown)
     have HFR := (show Hid (Fr _ _ _ _) from hF)
     clear hown hF
     by_cases hk0 : 0 < k
     . have hk' : (0 : Int) < (k : Int) := by omega
       go_wp2_with fail
       refine (l71Deed_any B R p' _ _ hR (by omega) (by omega) (by omega)).mono ?_
       rintro e w3 ⟨d, p3, rfl, hp3, hp3', hR3, hF3⟩
       have HO3 : Hid (OwnDe w.heap.size w3 u6 ds) := own_fr HOW.out hF3 (by omega)
       have HF3 : Hid (Fr R w.heap.size w w3) := HFR.out.trans (hF3.mono HFR.out.size)
       have HR3 := (show Hid (RdAt _ _ _ _) from hR3)
       clear hF3 hR3 hR HOW HFR
       go_wp2_with (at_builtin; refine wpList_append_own _ rfl _ _ 120 rfl w.heap.size 125 i0 (.agg #[.int .i64 0, .int .i64 0, .int .i64 0]) 3 24 Try.underlying120 hi hz0 hz1 hz2 rfl (by decide) _ _ _ rfl (HO3.out.alloc _) ⟨w3.heap.size, 0, none⟩ 1 1 [.int .i64 d.k, .int .i64 d.a, .int .i64 d.b] rfl rfl ?a1 ?a2 ?a3 ?a4 ?a5 ?_)
       case a1 =>
         intro j u hj
         match j, hj with
         | 0, hj => simp at hj; subst hj; simp [Addr.add]
         | 1, hj => simp at hj; subst hj; simp [Addr.add]
         | 2, hj => simp at hj; subst hj; simp [Addr.add]
       case a2 => intro u hu; simp at hu; rcases hu with rfl | rfl | rfl <;> rfl
       case a3 => unfold maxLen; omega
       case a4 => omega
       case a5 => have := HF3.out.size; simp; omega
       intro v' w4 hown' hgrow _
       have HO4 : Hid (OwnDe w.heap.size w4 v' (ds ++ [d])) := by
         unfold Hid OwnDe; rw [deCells_snoc, List.length_append]; exact hown'
       have hge : ∀ g, u6.ownBlock = some g -> w.heap.size <= g := fun g hg => (HO3.out.lt g hg).1
       have HF4 : Hid (Fr R w.heap.size w w4) := (HF3.out.alloc HF3.out.size _).grown hgrow (by have := HF3.out.size; simp; omega) hge
       have HR4 : Hid (RdAt B w4 R p3) := HR3.out.below (((Below.refl _ _).alloc HR3.out.le _).grown hgrow (by have := HR3.out.le; simp; omega) (fun g hg => Nat.le_trans hle (hge g hg)))
       clear hown' hgrow HO3 HF3 HR3 hge
       go_wp2_with fail
       go_roundw
       case rel => exact ⟨k - 1, ds ++ [d], p3, by go_num, by simp; omega, HO4.out, by omega, by omega, HR4.out, HF4.out⟩
       case measure => simp [intOf]; omega
     . go_wp2_with fail
       go_ret
       exact ⟨_, ds, p', rfl, HOW.out, by omega, by omega, by omega, hR, HFR.out⟩
 have gc : decide (0 < c) = true := by simp; omega
 go_enter Try.func97, Try.ntmps97
 go_wp2_with fail
 refine (pick_any B R _ _ _ h (by omega) (by omega) (by omega)).mono ?_
 rintro e w1 ⟨q, rfl, q0, q1, hR1, hF1⟩
 clear h
 by_cases hq : q = 0
 . subst hq
   go_wp2_with fail
   refine (pick_any B R _ _ _ hR1 (by omega) (by omega) (by omega)).mono ?_
   rintro e w2 ⟨q2, rfl, a0, a1, hR2, hF2⟩
   have hF2' := hF1.trans (hF2.mono hF1.size)
   clear hR1 hF1 hF2
   go_wp2_with fail
   refine (pick_any B R _ _ _ hR2 (by omega) (by omega) (by omega)).mono ?_
   rintro e w3 ⟨q3, rfl, b0, b1, hR3, hF3⟩
   have HF3 : Hid (Fr R w.heap.size w w3) := hF2'.trans (hF3.mono hF2'.size)
   have HR3 := (show Hid (RdAt _ _ _ _) from hR3)
   clear hF2' hF3 hR3 hR2
   go_wp2_with fail
   go_ret
   refine ⟨_, [⟨1, 0, q2⟩, ⟨3, 1, 1 + q3⟩, ⟨4, 0, 1⟩, ⟨2, q2, 0⟩], p + 1 + 1 + 1, rfl, ?_, by simp, by omega, by omega, HR3.out.below ((Below.refl _ _).alloc HR3.out.le _), HF3.out.alloc HF3.out.size _⟩
   exact ⟨by simp [deCells], .inr ⟨w3.heap.size, 4, _, rfl, HF3.out.size, heap_alloc_new w3 _, by simp, by unfold maxLen; omega, by simp, by simp [deCells]⟩⟩
 . have gq : (q == 0) = false := by simp [hq]
   have HRe : Hid (∀ o, RdAt B (w1.alloc o) R _) := fun o => hR1.below ((Below.refl _ _).alloc hR1.le _)
   have HFe : Hid (∀ o, Fr R w.heap.size w (w1.alloc o)) := fun o => hF1.alloc hF1.size _
   have HOe : Hid (OwnDe w.heap.size (w1.alloc (.cells #[] 125)) (.slice (some ⟨w1.heap.size, 0, none⟩) 0 0) []) := World.ownsRow_made w1 #[] 0 hF1.size (by unfold maxLen; omega) (by simp)
   have hsz1 := hF1.size
   clear hR1 hF1
   go_wp2_with fail
   refine (pick_any B R _ _ _ (HRe.out _) (by omega) (by omega) (by omega)).mono ?_
   rintro e w2 ⟨q2, rfl, a0, a1, hR2, hF2⟩
   obtain ⟨m, rfl⟩ := Int.eq_ofNat_of_zero_le a0
   have HF2 : Hid (Fr R w.heap.size w w2) := (HFe.out _).trans (hF2.mono (HFe.out _).size)
   have HR2 := (show Hid (RdAt _ _ _ _) from hR2)
   have HO2 : Hid (OwnDe w.heap.size w2 (.slice (some ⟨w1.heap.size, 0, none⟩) 0 0) []) := own_fr HOe.out hF2 (by omega)
   clear HRe HFe HOe hF2 hR2
   go_wp2_with fail
   go_loopw [6, 7] (fun o q w' => ∃ (k : Nat) (ds : List De) (p' : Nat), q = .int .i64 k /\ ds.length + k <= 5 /\ OwnDe w.heap.size w' o ds /\ p <= p' /\ p' + 3 * k <= p + 17 /\ RdAt B w' R p' /\ Fr R w.heap.size w w') (fun _ q _ => (intOf q).toNat)
   case atStart => exact ⟨m + 1, [], _, by go_num, by simp; omega, HO2.out, by omega, by omega, HR2.out, HF2.out⟩
   clear HF2 HR2 HO2
   case round =>
     obtain ⟨k, ds, p', rfl, hk, hown, hp1, hp2, hR, hF⟩ := hrel
     have HOW := (show Hid (OwnDe _ _ _ _) from hown)
     have HFR := (show Hid (Fr _ _ _ _) from hF)
     clear hown hF
     by_cases hk0 : 0 < k
     . have hk' : (0 : Int) < (k : Int) := by omega
       go_wp2_with fail
       refine (l71Deed_any B R p' _ _ hR (by omega) (by omega) (by omega)).mono ?_
       rintro e w3 ⟨d, p3, rfl, hp3, hp3', hR3, hF3⟩
       have HO3 : Hid (OwnDe w.heap.size w3 u6 ds) := own_fr HOW.out hF3 (by omega)
       have HF3 : Hid (Fr R w.heap.size w w3) := HFR.out.trans (hF3.mono HFR.out.size)
       have HR3 := (show Hid (RdAt _ _ _ _) from hR3)
       clear hF3 hR3 hR HOW HFR
       go_wp2_with (at_builtin; refine wpList_append_own _ rfl _ _ 120 rfl w.heap.size 125 i0 (.agg #[.int .i64 0, .int .i64 0, .int .i64 0]) 3 24 Try.underlying120 hi hz0 hz1 hz2 rfl (by decide) _ _ _ rfl (HO3.out.alloc _) ⟨w3.heap.size, 0, none⟩ 1 1 [.int .i64 d.k, .int .i64 d.a, .int .i64 d.b] rfl rfl ?b1 ?b2 ?b3 ?b4 ?b5 ?_)
       case b1 =>
         intro j u hj
         match j, hj with
         | 0, hj => simp at hj; subst hj; simp [Addr.add]
         | 1, hj => simp at hj; subst hj; simp [Addr.add]
         | 2, hj => simp at hj; subst hj; simp [Addr.add]
       case b2 => intro u hu; simp at hu; rcases hu with rfl | rfl | rfl <;> rfl
       case b3 => unfold maxLen; omega
       case b4 => omega
       case b5 => have := HF3.out.size; simp; omega
       intro v' w4 hown' hgrow _
       have HO4 : Hid (OwnDe w.heap.size w4 v' (ds ++ [d])) := by
         unfold Hid OwnDe; rw [deCells_snoc, List.length_append]; exact hown'
       have hge : ∀ g, u6.ownBlock = some g -> w.heap.size <= g := fun g hg => (HO3.out.lt g hg).1
       have HF4 : Hid (Fr R w.heap.size w w4) := (HF3.out.alloc HF3.out.size _).grown hgrow (by have := HF3.out.size; simp; omega) hge
       have HR4 : Hid (RdAt B w4 R p3) := HR3.out.below (((Below.refl _ _).alloc HR3.out.le _).grown hgrow (by have := HR3.out.le; simp; omega) (fun g hg => Nat.le_trans hle (hge g hg)))
       clear hown' hgrow HO3 HF3 HR3 hge
       go_wp2_with fail
       go_roundw
       case rel => exact ⟨k - 1, ds ++ [d], p3, by go_num, by simp; omega, HO4.out, by omega, by omega, HR4.out, HF4.out⟩
       case measure => simp [intOf]; omega
     . go_wp2_with fail
       go_ret
       exact ⟨_, ds, p', rfl, HOW.out, by omega, by omega, by omega, hR, HFR.out⟩
end Go.Proofs.Ytgbgjljflgbcaaa
