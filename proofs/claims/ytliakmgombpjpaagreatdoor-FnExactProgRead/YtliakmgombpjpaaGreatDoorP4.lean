import Derived.Test.YtliakmgombpjpaaGreatDoorJ3
namespace Go.Proofs.YtliakmgombpjpaaGreatDoor
open Go.RowKit
set_option linter.unusedSimpArgs false
set_option linter.unusedVariables false

/-! which function a call through the interface leads to -/
@[go_sem] theorem m_load (a b : Value) (w : World) : (method 289 132 (.agg #[a, b]) "loop.example/equerry/impl.written").run Tryz.prog w = .ok (156, .agg #[a, b]) w := by kernel_rfl
@[go_sem] theorem m_store (a b : Value) (w : World) : (method 289 134 (.agg #[a, b]) "loop.example/equerry/impl.written").run Tryz.prog w = .ok (158, .agg #[a, b]) w := by kernel_rfl
@[go_sem] theorem m_num (a b : Value) (w : World) : (method 289 136 (.agg #[a, b]) "loop.example/equerry/impl.written").run Tryz.prog w = .ok (159, .agg #[a, b]) w := by kernel_rfl
@[go_sem] theorem m_add (a b : Value) (w : World) : (method 289 138 (.agg #[a, b]) "loop.example/equerry/impl.written").run Tryz.prog w = .ok (160, .agg #[a, b]) w := by kernel_rfl
@[go_sem] theorem m_need (a : Value) (w : World) : (method 289 139 (.agg #[a]) "loop.example/equerry/impl.written").run Tryz.prog w = .ok (161, .agg #[a]) w := by kernel_rfl
@[go_sem] theorem m_try (a : Value) (w : World) : (method 289 69 (.agg #[a]) "loop.example/equerry/impl.written").run Tryz.prog w = .ok (149, .agg #[a]) w := by kernel_rfl
@[go_sem] theorem m_fork (a : Value) (w : World) : (method 289 71 (.agg #[a]) "loop.example/equerry/impl.written").run Tryz.prog w = .ok (150, .agg #[a]) w := by kernel_rfl
@[go_sem] theorem m_fail (w : World) : (method 289 73 (.agg #[]) "loop.example/equerry/impl.written").run Tryz.prog w = .ok (151, .agg #[]) w := by kernel_rfl
@[go_sem] theorem m_failif (a : Value) (w : World) : (method 289 75 (.agg #[a]) "loop.example/equerry/impl.written").run Tryz.prog w = .ok (152, .agg #[a]) w := by kernel_rfl

/-- a deed in form as a part of its own -/
def PartOf (d : De) (v : Value) : Prop :=
  (d.k = 1 ∧ (0 ≤ d.a ∧ d.a < 3) ∧ (0 ≤ d.b ∧ d.b < 3) ∧ v = .iface 132 (.agg #[.int .i64 d.a, .int .i64 d.b])) ∨
  (d.k = 2 ∧ (0 ≤ d.b ∧ d.b < 3) ∧ (0 ≤ d.a ∧ d.a < 3) ∧ v = .iface 134 (.agg #[.int .i64 d.a, .int .i64 d.b])) ∨
  (d.k = 3 ∧ (0 ≤ d.a ∧ d.a < 3) ∧ (0 ≤ d.b ∧ d.b < 100) ∧ v = .iface 136 (.agg #[.int .i64 d.a, .int .i64 d.b])) ∨
  (d.k = 4 ∧ (0 ≤ d.a ∧ d.a < 3) ∧ (0 ≤ d.b ∧ d.b < 3) ∧ v = .iface 138 (.agg #[.int .i64 d.a, .int .i64 d.b])) ∨
  (d.k = 5 ∧ (0 ≤ d.a ∧ d.a < 3) ∧ v = .iface 139 (.agg #[.int .i64 d.a]))
theorem deB_cases {d : De} {c : Int} (h : deB d c = true) (hc : c ≤ 3) :
    (d.k = 1 ∧ (0 ≤ d.a ∧ d.a < 3) ∧ (0 ≤ d.b ∧ d.b < 3)) ∨ (d.k = 2 ∧ (0 ≤ d.b ∧ d.b < 3) ∧ (0 ≤ d.a ∧ d.a < 3)) ∨ (d.k = 3 ∧ (0 ≤ d.a ∧ d.a < 3) ∧ (0 ≤ d.b ∧ d.b < 100)) ∨ (d.k = 4 ∧ (0 ≤ d.a ∧ d.a < 3) ∧ (0 ≤ d.b ∧ d.b < 3)) ∨ (d.k = 5 ∧ (0 ≤ d.a ∧ d.a < 3) ∧ d.b = 0) := by
  unfold deB at h
  split at h
  · rename_i h1; simp [plB] at h; exact .inl ⟨h1, by omega, by omega⟩
  split at h
  · rename_i h1; simp [plB] at h; exact .inr (.inl ⟨h1, by omega, by omega⟩)
  split at h
  · rename_i h1; simp [plB] at h; exact .inr (.inr (.inl ⟨h1, by omega, by omega⟩))
  split at h
  · rename_i h1; simp [plB] at h; exact .inr (.inr (.inr (.inl ⟨h1, by omega, by omega⟩)))
  split at h
  · rename_i h1; simp [plB] at h; exact .inr (.inr (.inr (.inr ⟨h1, by omega, by omega⟩)))
  · simp at h

set_option maxHeartbeats 1000000 in
theorem deedPart_any (d : De) (c : Int) (h : deB d c = true) (hc : c ≤ 3) (w : World) :
    Calls Tryz.prog 104 #[.agg #[.int .i64 d.k, .int .i64 d.a, .int .i64 d.b]] w fun e w' => ∃ v, e = .returned v ∧ PartOf d v ∧ Below w.heap.size w w' := by
  have hx := deB_cases h hc
  clear h
  obtain ⟨k, a, b⟩ := d
  dsimp only at hx
  rcases hx with ⟨rfl, h1, h2⟩ | ⟨rfl, h1, h2⟩ | ⟨rfl, h1, h2⟩ | ⟨rfl, h1, h2⟩ | ⟨rfl, h1, rfl⟩
  all_goals
    go_enter Tryz.func104, Tryz.ntmps104
    go_wp2_with fail
    go_ret
    exact ⟨_, rfl, by simp [PartOf, h1]; try exact h2, (by repeat (first | exact Below.refl _ _ | refine Below.alloc ?_ (by simp; try omega) _ | refine Below.drew ?_ | refine Below.setCell ?_ (by simp; try omega) _))⟩

set_option maxHeartbeats 1000000 in
theorem wTry_any (ds : List De) (dv : Value) (c : Int) (w : World) (h : DeedsAt w dv ds) (hn : ∀ d, d ∈ ds → deB d c = true) (hc : c ≤ 3) (hl : ds.length ≤ 5) :
    Calls Tryz.prog 149 #[.agg #[dv]] w fun e w' => e = .returned (.string (bs ([116, 114, 121] ++ dsT ds))) ∧ Below w.heap.size w w' := by
  obtain ⟨a, cap, rfl, hm, hc'⟩ := id h
  have HC := (show Hid (∀ i, i < ds.length → _) from hc')
  have HN := (show Hid (∀ k, k ∈ ds → _) from hn)
  clear h hc' hn
  go_enter Tryz.func149, Tryz.ntmps149
  go_wp2_with fail
  go_loopw [3, 9] (fun t q w' => ∃ (k : Nat) (T : ByteArray), k ≤ ds.length ∧ q = .int .i64 k ∧ t = .string T ∧ T = bs ([116, 114, 121] ++ dsT (ds.take k)) ∧ Below (w.alloc (.cells #[.slice a ds.length cap] 69)).heap.size (w.alloc (.cells #[.slice a ds.length cap] 69)) w') (fun _ q _ => ds.length - (intOf q).toNat)
  case atStart => exact ⟨0, _, Nat.zero_le _, rfl, rfl, rfl, Below.refl _ _⟩
  case round =>
    obtain ⟨k, T, hk, rfl, rfl, hT, hb⟩ := hrel
    have hTs : T.size ≤ 3000 := by
      have := dsT_len (ds.take k)
      rw [hT, bs_size]
      simp at this ⊢
      omega
    have HT := (show Hid (T = _) from hT)
    have hbw' : Below w.heap.size w wr := below_after (Below.refl _ _) (Nat.le_refl _) hb
    clear hT
    by_cases hlt : k < ds.length
    · have hlt' : (k : Int) < (ds.length : Int) := by omega
      obtain ⟨b, off, rfl, hbw, c0, c1, c2⟩ := HC.out k hlt
      rw [← hbw'.cell (p := ⟨b, _, none⟩) hbw] at c0 c1 c2
      have HDe : Hid (deB (nth De.z ds k) c = true) := HN.out _ (nth_mem De.z ds k hlt)
      obtain ⟨D, hD⟩ : ∃ D, D = bs (deT (nth De.z ds k)) := ⟨_, rfl⟩
      have hDs : D.size ≤ 4 := by rw [hD, bs_size]; exact deT_len _
      have HD := (show Hid (D = _) from hD)
      have HE : Hid (bs ([116, 114, 121] ++ dsT (ds.take (k + 1))) = T ++ (ByteArray.mk #[32] ++ D)) := by
        have e := flat_take De.z (fun d => [32] ++ deT d) ds k hlt
        rw [HT.out, HD.out, show ByteArray.mk #[32] = bs [32] from rfl, bs_app, bs_app]
        unfold dsT
        rw [e, List.append_assoc]
        exact (rfl : _ = _)
      have a1 : ¬ (9223372036854775807 < 1 + D.size) := by omega
      have a2 : ¬ (9223372036854775807 < T.size + (1 + D.size)) := by omega
      have hz : b < wr.heap.size := Nat.lt_of_lt_of_le hbw hbw'.size
      have H1 := (show Hid (Below _ _ _) from hb)
      clear hD hb hbw'
      generalize nth De.z ds k = d at *
      have HX1 : d.k = 1 → Hid (D = bs (reT d.a ++ [61] ++ ceT d.b)) := fun e => by rw [HD.out]; unfold deT; rw [if_pos e]; exact (rfl : _ = _)
      have HX2 : d.k = 2 → Hid (D = bs (ceT d.a ++ [61] ++ reT d.b)) := fun e => by rw [HD.out]; unfold deT; rw [if_neg (by omega), if_pos e]; exact (rfl : _ = _)
      have HX3 : d.k = 3 → Hid (D = bs (reT d.a ++ [61] ++ decT d.b)) := fun e => by rw [HD.out]; unfold deT; rw [if_neg (by omega), if_neg (by omega), if_pos e]; exact (rfl : _ = _)
      have HX4 : d.k = 4 → Hid (D = bs (reT d.a ++ [43] ++ reT d.b)) := fun e => by rw [HD.out]; unfold deT; rw [if_neg (by omega), if_neg (by omega), if_neg (by omega), if_pos e]; exact (rfl : _ = _)
      have HX5 : d.k = 5 → Hid (D = bs (reT d.a ++ [63])) := fun e => by rw [HD.out]; unfold deT; rw [if_neg (by omega), if_neg (by omega), if_neg (by omega), if_neg (by omega)]; exact (rfl : _ = _)
      have HXX := (show Hid ((d.k = 1 → _) ∧ (d.k = 2 → _) ∧ (d.k = 3 → _) ∧ (d.k = 4 → _) ∧ (d.k = 5 → _)) from ⟨HX1, HX2, HX3, HX4, HX5⟩)
      clear HX1 HX2 HX3 HX4 HX5
      go_wp2_with (go_at_call 104; refine (deedPart_any d c HDe.out hc _).mono ?_; rintro e w2 ⟨v, rfl, hP, hb2⟩; have H2 := (show Hid (Below _ _ _) from hb2); clear hb2; rcases hP with ⟨e1, r1, r2, rfl⟩ | ⟨e1, r1, r2, rfl⟩ | ⟨e1, r1, r2, rfl⟩ | ⟨e1, r1, r2, rfl⟩ | ⟨e1, r1, rfl⟩)
      · have HX := HXX.out.1 e1
        refine (wLoad_any d.a d.b r1.1 r1.2 r2.1 r2.2 _).mono ?_
        rintro e w3 ⟨rfl, hb3⟩
        rw [← HX.out]
        have H4 := below_after H1.out H1.out.size H2.out
        have H3 := (show Hid (Below _ _ _) from H4.trans (hb3.mono H4.size))
        clear hb3 H4 H2 e1 HX HXX
        go_wp2_with fail
        go_roundw
        case rel => exact ⟨k + 1, _, by omega, by go_num, rfl, HE.out.symm, H3.out⟩
        case measure => simp [intOf]; omega
      · have HX := HXX.out.2.1 e1
        refine (wStore_any d.a d.b r1.1 r1.2 r2.1 r2.2 _).mono ?_
        rintro e w3 ⟨rfl, hb3⟩
        rw [← HX.out]
        have H4 := below_after H1.out H1.out.size H2.out
        have H3 := (show Hid (Below _ _ _) from H4.trans (hb3.mono H4.size))
        clear hb3 H4 H2 e1 HX HXX
        go_wp2_with fail
        go_roundw
        case rel => exact ⟨k + 1, _, by omega, by go_num, rfl, HE.out.symm, H3.out⟩
        case measure => simp [intOf]; omega
      · have HX := HXX.out.2.2.1 e1
        obtain ⟨n, hn, hn1⟩ := num_nat r2
        rw [hn] at HX ⊢
        refine (wNum_any d.a n r1.1 r1.2 hn1 _).mono ?_
        rintro e w3 ⟨rfl, hb3⟩
        rw [← HX.out]
        have H4 := below_after H1.out H1.out.size H2.out
        have H3 := (show Hid (Below _ _ _) from H4.trans (hb3.mono H4.size))
        clear hb3 H4 H2 e1 HX HXX
        go_wp2_with fail
        go_roundw
        case rel => exact ⟨k + 1, _, by omega, by go_num, rfl, HE.out.symm, H3.out⟩
        case measure => simp [intOf]; omega
      · have HX := HXX.out.2.2.2.1 e1
        refine (wAdd_any d.a d.b r1.1 r1.2 r2.1 r2.2 _).mono ?_
        rintro e w3 ⟨rfl, hb3⟩
        rw [← HX.out]
        have H4 := below_after H1.out H1.out.size H2.out
        have H3 := (show Hid (Below _ _ _) from H4.trans (hb3.mono H4.size))
        clear hb3 H4 H2 e1 HX HXX
        go_wp2_with fail
        go_roundw
        case rel => exact ⟨k + 1, _, by omega, by go_num, rfl, HE.out.symm, H3.out⟩
        case measure => simp [intOf]; omega
      · have HX := HXX.out.2.2.2.2 e1
        refine (wNeed_any d.a r1.1 r1.2 _).mono ?_
        rintro e w3 ⟨rfl, hb3⟩
        rw [← HX.out]
        have H4 := below_after H1.out H1.out.size H2.out
        have H3 := (show Hid (Below _ _ _) from H4.trans (hb3.mono H4.size))
        clear hb3 H4 H2 e1 HX HXX
        go_wp2_with fail
        go_roundw
        case rel => exact ⟨k + 1, _, by omega, by go_num, rfl, HE.out.symm, H3.out⟩
        case measure => simp [intOf]; omega
    · have hlt' : ¬ (k : Int) < (ds.length : Int) := by omega
      have HE : Hid (T = bs ([116, 114, 121] ++ dsT ds)) := by rw [HT.out, List.take_of_length_le (by omega)]; exact (rfl : _ = _)
      have H1 := (show Hid (Below _ _ _) from hbw')
      clear hb hbw'
      go_wp2_with fail
      go_ret
      exact ⟨ret_str HE.out, H1.out⟩

end Go.Proofs.YtliakmgombpjpaaGreatDoor
