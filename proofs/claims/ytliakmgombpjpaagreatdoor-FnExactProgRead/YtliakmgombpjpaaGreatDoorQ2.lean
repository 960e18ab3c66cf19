import Derived.Test.YtliakmgombpjpaaGreatDoorQ1
import Derived.Test.YtliakmgombpjpaaGreatDoorP4
namespace Go.Proofs.YtliakmgombpjpaaGreatDoor
open Go.RowKit
set_option linter.unusedSimpArgs false
set_option linter.unusedVariables false

set_option maxHeartbeats 1000000 in
theorem l1SayDeed_any (d : De) (c : Int) (h : deB d c = true) (hc : c ≤ 3) (w : World) :
    Calls Tryz.prog 46 #[.agg #[.int .i64 d.k, .int .i64 d.a, .int .i64 d.b]] w fun e w' => e = .returned (.string (bs (deT d))) ∧ Below w.heap.size w w' := by
  have hx := deB_cases h hc
  clear h
  obtain ⟨k, a, b⟩ := d
  dsimp only at hx
  rcases hx with ⟨rfl, h1, h2⟩ | ⟨rfl, h1, h2⟩ | ⟨rfl, h1, h2⟩ | ⟨rfl, h1, h2⟩ | ⟨rfl, h1, rfl⟩
  · have w0a : IntKind.i64.wrap (114 + a) = 114 + a := by rw [IntKind.wrap_i64]; omega
    have w0b : IntKind.u8.wrap (114 + a) = 114 + a := by rw [IntKind.wrap_u8]; omega
    have w1a : IntKind.i64.wrap (65 + b) = 65 + b := by rw [IntKind.wrap_i64]; omega
    have w1b : IntKind.u8.wrap (65 + b) = 65 + b := by rw [IntKind.wrap_u8]; omega
    go_enter Tryz.func46, Tryz.ntmps46
    go_wp2_with fail
    go_ret
    exact ⟨ret_str (by rw [mk_bs, bs_app, bs_app]; rfl), (by repeat (first | exact Below.refl _ _ | refine Below.alloc ?_ (by simp; try omega) _ | refine Below.drew ?_ | refine Below.setCell ?_ (by simp; try omega) _))⟩
  · have w0a : IntKind.i64.wrap (114 + a) = 114 + a := by rw [IntKind.wrap_i64]; omega
    have w0b : IntKind.u8.wrap (114 + a) = 114 + a := by rw [IntKind.wrap_u8]; omega
    have w1a : IntKind.i64.wrap (65 + a) = 65 + a := by rw [IntKind.wrap_i64]; omega
    have w1b : IntKind.u8.wrap (65 + a) = 65 + a := by rw [IntKind.wrap_u8]; omega
    have w2a : IntKind.i64.wrap (114 + b) = 114 + b := by rw [IntKind.wrap_i64]; omega
    have w2b : IntKind.u8.wrap (114 + b) = 114 + b := by rw [IntKind.wrap_u8]; omega
    go_enter Tryz.func46, Tryz.ntmps46
    go_wp2_with fail
    go_ret
    exact ⟨ret_str (by rw [mk_bs, bs_app, bs_app]; rfl), (by repeat (first | exact Below.refl _ _ | refine Below.alloc ?_ (by simp; try omega) _ | refine Below.drew ?_ | refine Below.setCell ?_ (by simp; try omega) _))⟩
  · obtain ⟨n, hn, hn1⟩ := num_nat h2
    subst hn
    obtain ⟨D, hD⟩ : ∃ D, D = bs (decT (n : Int)) := ⟨_, rfl⟩
    have hDs : D.size ≤ 2 := by rw [hD, bs_size]; exact decT_len _
    have HD := (show Hid (D = _) from hD)
    have a1 : ¬ (9223372036854775807 < 1 + 1 + D.size) := by omega
    have wa : IntKind.i64.wrap (114 + a) = 114 + a := by rw [IntKind.wrap_i64]; omega
    have wb : IntKind.u8.wrap (114 + a) = 114 + a := by rw [IntKind.wrap_u8]; omega
    clear hD
    go_enter Tryz.func46, Tryz.ntmps46
    go_wp2_with (go_at_call 22; refine (l6Dec_any n hn1 _).mono ?_; rintro e w2 ⟨rfl, hb2⟩; rw [← HD.out]; have H2 : Hid (Below w.heap.size w w2) := below_after2 (Below.refl _ _) (Nat.le_refl _) hb2; clear hb2)
    go_ret
    exact ⟨ret_str (by rw [HD.out, mk_bs, bs_app, bs_app]; rfl), H2.out⟩
  · have w0a : IntKind.i64.wrap (114 + a) = 114 + a := by rw [IntKind.wrap_i64]; omega
    have w0b : IntKind.u8.wrap (114 + a) = 114 + a := by rw [IntKind.wrap_u8]; omega
    have w1a : IntKind.i64.wrap (114 + b) = 114 + b := by rw [IntKind.wrap_i64]; omega
    have w1b : IntKind.u8.wrap (114 + b) = 114 + b := by rw [IntKind.wrap_u8]; omega
    go_enter Tryz.func46, Tryz.ntmps46
    go_wp2_with fail
    go_ret
    exact ⟨ret_str (by rw [mk_bs, bs_app, bs_app]; rfl), (by repeat (first | exact Below.refl _ _ | refine Below.alloc ?_ (by simp; try omega) _ | refine Below.drew ?_ | refine Below.setCell ?_ (by simp; try omega) _))⟩
  · have w0a : IntKind.i64.wrap (114 + a) = 114 + a := by rw [IntKind.wrap_i64]; omega
    have w0b : IntKind.u8.wrap (114 + a) = 114 + a := by rw [IntKind.wrap_u8]; omega
    go_enter Tryz.func46, Tryz.ntmps46
    go_wp2_with fail
    go_ret
    exact ⟨ret_str (by rw [mk_bs, bs_app]; rfl), (by repeat (first | exact Below.refl _ _ | refine Below.alloc ?_ (by simp; try omega) _ | refine Below.drew ?_ | refine Below.setCell ?_ (by simp; try omega) _))⟩

end Go.Proofs.YtliakmgombpjpaaGreatDoor
