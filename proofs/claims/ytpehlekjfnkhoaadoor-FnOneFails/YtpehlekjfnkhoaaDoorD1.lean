import Derived.Test.YtpehlekjfnkhoaaDoorD0
namespace Go.Proofs.YtpehlekjfnkhoaaDoor
open Go.RowKit
set_option linter.unusedSimpArgs false
set_option linter.unusedVariables false

theorem xor_i64_nat (a b : Nat) (ha : a < 1099511627776) (hb : b < 1099511627776) : bits .xor .i64 (a : Int) (b : Int) = ((a ^^^ b : Nat) : Int) := by
  have hx : a ^^^ b < 2 ^ 40 := Nat.xor_lt_two_pow (by omega) (by omega)
  have h1 : (BitVec.ofInt 64 (a : Int)).toNat = a := by
    rw [BitVec.ofInt_natCast, BitVec.toNat_ofNat]; exact Nat.mod_eq_of_lt (by omega)
  have h2 : (BitVec.ofInt 64 (b : Int)).toNat = b := by
    rw [BitVec.ofInt_natCast, BitVec.toNat_ofNat]; exact Nat.mod_eq_of_lt (by omega)
  show IntKind.i64.wrap ((BitVec.ofInt 64 (a : Int) ^^^ BitVec.ofInt 64 (b : Int)).toNat : Int) = _
  rw [BitVec.toNat_xor, h1, h2, IntKind.wrap_i64]
  omega
theorem xor_nonneg (x : Int) (h0 : 0 ≤ x) (h1 : x ≤ 1000000000) : 0 ≤ bits .xor .i64 x (x / 64) := by
  obtain ⟨a, rfl⟩ := Int.eq_ofNat_of_zero_le h0
  have d : ((a : Int) / 64) = ((a / 64 : Nat) : Int) := by omega
  rw [d, xor_i64_nat a (a / 64) (by omega) (by omega)]
  omega

set_option maxHeartbeats 1000000 in
theorem pick_any (B R p : Nat) (n : Int) (w : World) (h : RdAt B w R p) (hp : p ≤ 1000000) (hn : 1 ≤ n) (hn2 : n ≤ 1000000) :
    Calls Tryd.prog 31 #[.pointer (some ⟨R, 0, none⟩), .int .i64 n] w fun e w' => ∃ q : Int, e = .returned (.int .i64 q) ∧ 0 ≤ q ∧ q < n ∧ RdAt B w' R (p + 1) ∧ Fr R w.heap.size w w' := by
  obtain ⟨a, m, cap, h0, hm, hi⟩ := h.code
  have hpos := h.pos
  have hfree := h.free
  have hn1 : decide (n < 1) = false := by simp; omega
  have HG : Hid (RdAt B (w.setCell ⟨R, 1, none⟩ (.int .i64 ((p : Int) + 1))) R (p + 1)) := by
    have := h.go (p + 1)
    rwa [show ((p + 1 : Nat) : Int) = (p : Int) + 1 from by omega] at this
  have HF : Hid (Fr R w.heap.size w (w.setCell ⟨R, 1, none⟩ (.int .i64 ((p : Int) + 1)))) := (Fr.refl R w.heap.size w).setCell (p := ⟨R, 1, none⟩) (.inr rfl) _
  clear h
  by_cases hm0 : m = 0
  · subst hm0
    clear hi
    go_enter Tryd.func31, Tryd.ntmps31
    go_wp2_with fail
    go_ret
    exact ⟨0, rfl, by omega, by omega, HG.out, HF.out⟩
  have g0 : ((m : Int) == 0) = false := by simp; omega
  by_cases hpm : p < m
  · obtain ⟨b, off, u, rfl, hb, hbR, u0, u1, c0⟩ := hi p hpm
    have c1 : (w.setCell ⟨R, 1, none⟩ (.int .i64 ((p : Int) + 1))).cell? ⟨b, off + p, none⟩ = some (.int .u8 u) := by rw [World.cell?_setCell_other w ⟨R, 1, none⟩ ⟨b, _, none⟩ _ (by intro e; injection e with e1; omega)]; exact c0
    clear hi
    go_enter Tryd.func31, Tryd.ntmps31
    go_wp2_with fail
    go_ret
    exact ⟨_, rfl, Int.emod_nonneg _ (by omega), Int.emod_lt_of_pos _ (by omega), HG.out, HF.out⟩
  · have hk1 : p % m < m := Nat.mod_lt _ (by omega)
    have hk2 : (p * 7 + 3) % m < m := Nat.mod_lt _ (by omega)
    obtain ⟨b, off, u, rfl, hb, hbR, u0, u1, c0⟩ := hi (p % m) hk1
    obtain ⟨b', off', u', e', hb', hbR', u0', u1', c0'⟩ := hi ((p * 7 + 3) % m) hk2
    simp at e'
    obtain ⟨rfl, rfl⟩ := e'
    have c1 : (w.setCell ⟨R, 1, none⟩ (.int .i64 ((p : Int) + 1))).cell? ⟨b, off + p % m, none⟩ = some (.int .u8 u) := by rw [World.cell?_setCell_other w ⟨R, 1, none⟩ ⟨b, _, none⟩ _ (by intro e; injection e with e1; omega)]; exact c0
    have c2 : (w.setCell ⟨R, 1, none⟩ (.int .i64 ((p : Int) + 1))).cell? ⟨b, off + (p * 7 + 3) % m, none⟩ = some (.int .u8 u') := by rw [World.cell?_setCell_other w ⟨R, 1, none⟩ ⟨b, _, none⟩ _ (by intro e; injection e with e1; omega)]; exact c0'
    have q1 : 0 ≤ (p : Int) % (m : Int) := Int.emod_nonneg _ (by omega)
    have q2 : (p : Int) % (m : Int) < (m : Int) := Int.emod_lt_of_pos _ (by omega)
    have q3 : 0 ≤ ((p : Int) * 7 + 3) % (m : Int) := Int.emod_nonneg _ (by omega)
    have q4 : ((p : Int) * 7 + 3) % (m : Int) < (m : Int) := Int.emod_lt_of_pos _ (by omega)
    have q5 : 0 ≤ (p : Int) / (m : Int) := Int.ediv_nonneg (by omega) (by omega)
    have q6 : (p : Int) / (m : Int) ≤ 1000000 := Int.le_trans (Int.ediv_le_self _ (by omega)) (by omega)
    have t1 : ((p : Int) % (m : Int)).toNat = p % m := by omega
    have t2 : (((p : Int) * 7 + 3) % (m : Int)).toNat = (p * 7 + 3) % m := by
      have : ((p : Int) * 7 + 3) % (m : Int) = (((p * 7 + 3) % m : Nat) : Int) := by push_cast; rfl
      rw [this]; exact Int.toNat_natCast _
    clear hi c0 c0'
    go_enter Tryd.func31, Tryd.ntmps31
    go_wp2_with fail
    have HX : Hid (0 ≤ bits .xor .i64 (u * 131 + u' * 1117 + (p : Int) * 29 + (p : Int) / (m : Int) * 53) ((u * 131 + u' * 1117 + (p : Int) * 29 + (p : Int) / (m : Int) * 53) / 64)) := xor_nonneg _ (by omega) (by omega)
    go_quiet (fail)
    go_wp2_with fail
    go_ret
    exact ⟨_, rfl, Int.tmod_nonneg _ HX.out, Int.tmod_lt_of_pos _ (by omega), HG.out.below (below_drewN (Below.refl _ _) _), HF.out.drewN _⟩

end Go.Proofs.YtpehlekjfnkhoaaDoor
