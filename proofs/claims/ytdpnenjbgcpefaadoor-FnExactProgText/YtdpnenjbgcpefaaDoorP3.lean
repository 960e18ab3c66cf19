import Derived.Test.YtdpnenjbgcpefaaDoorP2
import Derived.Test.YtdpnenjbgcpefaaDoorT11
namespace Go.Proofs.YtdpnenjbgcpefaaDoor
open Go.RowKit
set_option linter.unusedSimpArgs false
set_option linter.unusedVariables false

/-- two strings that are not long -/
theorem add_ok {a b : ByteArray} {m n : Nat} (h1 : a.size ≤ m) (h2 : b.size ≤ n) (h : m + n ≤ 1000000) : ¬ (9223372036854775807 < a.size + b.size) := by omega
theorem num_nat {k : Int} (h : 0 ≤ k ∧ k < 100) : ∃ n : Nat, k = (n : Int) ∧ n < 100 := ⟨k.toNat, by omega, by omega⟩

set_option maxHeartbeats 1000000 in
theorem numsWritten_any (ks : List Int) (kv : Value) (w : World) (h : IntsAt w kv ks) (hn : ∀ k, k ∈ ks → 0 ≤ k ∧ k < 100) (hl : ks.length ≤ 1000) :
    Calls Tryd.prog 17 #[kv] w fun e w' => e = .returned (.string (bs (nuT ks))) ∧ Below w.heap.size w w' := by
  obtain ⟨a, cap, rfl, hm, hc⟩ := id h
  have HC := (show Hid (∀ i, i < ks.length → _) from hc)
  have HN := (show Hid (∀ k, k ∈ ks → _) from hn)
  clear h hc hn
  go_enter Tryd.func17, Tryd.ntmps17
  go_wp2_with fail
  go_loopw [3, 8] (fun t q w' => ∃ (k : Nat) (T : ByteArray), k ≤ ks.length ∧ q = .int .i64 k ∧ t = .string T ∧ T = bs (nuT (ks.take k)) ∧ Below w.heap.size w w') (fun _ q _ => ks.length - (intOf q).toNat)
  case atStart => exact ⟨0, _, Nat.zero_le _, rfl, rfl, rfl, Below.refl _ _⟩
  case round =>
    obtain ⟨k, T, hk, rfl, rfl, hT, hb⟩ := hrel
    have hTs : T.size ≤ 3000 := by
      have := nuT_len (ks.take k)
      rw [hT, bs_size]
      simp at this
      omega
    have HT := (show Hid (T = _) from hT)
    clear hT
    by_cases hlt : k < ks.length
    · have hlt' : (k : Int) < (ks.length : Int) := by omega
      obtain ⟨b, off, rfl, hbw, c0⟩ := HC.out k hlt
      rw [← hb.cell (p := ⟨b, _, none⟩) hbw] at c0
      obtain ⟨n, hn, hn1⟩ := num_nat (HN.out _ (nth_mem 0 ks k hlt))
      rw [hn] at c0
      obtain ⟨D, hD⟩ : ∃ D, D = bs (decT (n : Int)) := ⟨_, rfl⟩
      have hDs : D.size ≤ 2 := by rw [hD, bs_size]; exact decT_len _
      have HD := (show Hid (D = _) from hD)
      have HE : Hid (bs (nuT (ks.take (k + 1))) = T ++ (ByteArray.mk #[32] ++ D)) := by
        have e := flat_take 0 (fun k => [32] ++ decT k) ks k hlt
        rw [hn] at e
        rw [HT.out, HD.out, show ByteArray.mk #[32] = bs [32] from rfl, bs_app, bs_app]
        unfold nuT
        rw [e]
        exact (rfl : _ = _)
      have a1 : ¬ (9223372036854775807 < 1 + D.size) := by omega
      have a2 : ¬ (9223372036854775807 < T.size + (1 + D.size)) := by omega
      have hz : b < wr.heap.size := Nat.lt_of_lt_of_le hbw hb.size
      have H1 := (show Hid (Below _ _ _) from hb)
      clear hD hn hb
      go_wp2_with (go_at_call 29; refine (itoa_any n hn1 _).mono ?_; rintro e w2 ⟨rfl, hb2⟩; rw [← HD.out]; have H2 : Hid (Below w.heap.size w w2) := H1.out.trans (hb2.mono H1.out.size); clear hb2)
      go_roundw
      case rel => exact ⟨k + 1, _, by omega, by go_num, rfl, HE.out.symm, H2.out⟩
      case measure => simp [intOf]; omega
    · have hlt' : ¬ (k : Int) < (ks.length : Int) := by omega
      have HE : Hid (T = bs (nuT ks)) := by rw [HT.out, List.take_of_length_le (by omega)]; rfl
      have H1 := (show Hid (Below _ _ _) from hb)
      clear hb
      go_wp2_with fail
      go_ret
      exact ⟨ret_str HE.out, H1.out⟩

theorem wFail_any (w : World) :
    Calls Tryd.prog 81 #[.agg #[]] w fun e w' => e = .returned (.string (bs [102, 97, 105, 108])) ∧ Below w.heap.size w w' := by
  go_enter Tryd.func81, Tryd.ntmps81
  go_wp2_with fail
  go_ret
  exact ⟨rfl, (by repeat (first | exact Below.refl _ _ | refine Below.alloc ?_ (by simp; try omega) _ | refine Below.drew ?_ | refine Below.setCell ?_ (by simp; try omega) _))⟩
theorem wFailIf_any (r : Int) (h0 : 0 ≤ r) (h1 : r < 3) (w : World) :
    Calls Tryd.prog 82 #[.agg #[.int .i64 r]] w fun e w' => e = .returned (.string (bs ([102, 97, 105, 108, 105, 102, 32] ++ reT r))) ∧ Below w.heap.size w w' := by
  go_enter Tryd.func82, Tryd.ntmps82
  go_wp2_with (go_at_call 83; refine (regName_any r h0 h1 _).mono ?_; rintro e w' ⟨rfl, rfl⟩)
  go_ret
  exact ⟨ret_str (by rw [mk_bs, bs_app]; rfl), (by repeat (first | exact Below.refl _ _ | refine Below.alloc ?_ (by simp; try omega) _ | refine Below.drew ?_ | refine Below.setCell ?_ (by simp; try omega) _))⟩
set_option maxHeartbeats 1000000 in
theorem wFork_any (ks : List Int) (kv : Value) (w : World) (h : IntsAt w kv ks) (hn : ∀ k, k ∈ ks → 0 ≤ k ∧ k < 100) (hl : ks.length ≤ 1000) :
    Calls Tryd.prog 80 #[.agg #[kv]] w fun e w' => e = .returned (.string (bs ([102, 111, 114, 107] ++ nuT ks))) ∧ Below w.heap.size w w' := by
  obtain ⟨a, cap, rfl, hm⟩ := h.shape
  have HI : Hid (IntsAt (w.alloc (.cells #[.slice a ks.length cap] 66)) (.slice a ks.length cap) ks) := h.mono (by repeat (first | exact Below.refl _ _ | refine Below.alloc ?_ (by simp; try omega) _ | refine Below.drew ?_ | refine Below.setCell ?_ (by simp; try omega) _))
  obtain ⟨D, hD⟩ : ∃ D, D = bs (nuT ks) := ⟨_, rfl⟩
  have hDs : D.size ≤ 3000 := by have := nuT_len ks; rw [hD, bs_size]; omega
  have HD := (show Hid (D = _) from hD)
  have a1 : ¬ (9223372036854775807 < 4 + D.size) := by omega
  clear h hD
  go_enter Tryd.func80, Tryd.ntmps80
  go_wp2_with (go_at_call 17; refine (numsWritten_any ks _ _ HI.out hn hl).mono ?_; rintro e w2 ⟨rfl, hb2⟩; rw [← HD.out]; have H2 : Hid (Below w.heap.size w w2) := below_after (Below.refl _ _) (Nat.le_refl _) hb2; clear hb2)
  go_ret
  exact ⟨ret_str (by rw [HD.out, mk_bs, bs_app]; rfl), H2.out⟩

end Go.Proofs.YtdpnenjbgcpefaaDoor
