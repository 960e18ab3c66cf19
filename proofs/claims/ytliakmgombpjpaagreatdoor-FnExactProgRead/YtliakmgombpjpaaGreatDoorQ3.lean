import Derived.Test.YtliakmgombpjpaaGreatDoorQ2
import Derived.Test.YtliakmgombpjpaaGreatDoorP5
import Derived.Test.YtliakmgombpjpaaGreatDoorT14
namespace Go.Proofs.YtliakmgombpjpaaGreatDoor
open Go.RowKit
set_option linter.unusedSimpArgs false
set_option linter.unusedVariables false

set_option maxHeartbeats 1000000 in
theorem l1Say_1 (ad ak : Option Addr) (cd ck : Nat) (w : World) (ds : List De) (nc : Int) (hnc : nc ≤ 3) (hl : ds.length ≤ 5) (hd : DeedsAt w (.slice ad ds.length cd) ds) (he : ∀ d, d ∈ ds → deB d nc = true) :
    Calls Tryz.prog 23 #[.agg #[.int .i64 1, .slice ad ds.length cd, .slice ak 0 ck, .int .i64 0]] w fun e w' => e = .returned (.string (bs ([116, 114, 121] ++ dsT ds))) ∧ Below w.heap.size w w' := by
  obtain ⟨ad', cd', hv', hmd, hds⟩ := id hd
  injection hv' with e1' _ e3'
  subst e1' e3'
  have HDS := (show Hid (∀ i, i < ds.length → _) from hds)
  have HE5 := (show Hid (∀ d, d ∈ ds → _) from he)
  clear hd hds he
  go_enter Tryz.func23, Tryz.ntmps23
  go_wp2_with fail
  have HS : Hid (((w.alloc (.cells #[.int .i64 1, .slice ad ds.length cd, .slice ak 0 ck, .int .i64 0] 44)).alloc (.cells #[.string ⟨#[]⟩, .string ⟨#[116, 114, 121]⟩, .string ⟨#[102, 111, 114, 107]⟩, .string ⟨#[102, 97, 105, 108]⟩, .string ⟨#[102, 97, 105, 108, 105, 102]⟩] 9)).cell? ⟨w.heap.size, 0, none⟩ = some (.int .i64 1) ∧ ((w.alloc (.cells #[.int .i64 1, .slice ad ds.length cd, .slice ak 0 ck, .int .i64 0] 44)).alloc (.cells #[.string ⟨#[]⟩, .string ⟨#[116, 114, 121]⟩, .string ⟨#[102, 111, 114, 107]⟩, .string ⟨#[102, 97, 105, 108]⟩, .string ⟨#[102, 97, 105, 108, 105, 102]⟩] 9)).cell? ⟨w.heap.size, 1, none⟩ = some (.slice ad ds.length cd) ∧ ((w.alloc (.cells #[.int .i64 1, .slice ad ds.length cd, .slice ak 0 ck, .int .i64 0] 44)).alloc (.cells #[.string ⟨#[]⟩, .string ⟨#[116, 114, 121]⟩, .string ⟨#[102, 111, 114, 107]⟩, .string ⟨#[102, 97, 105, 108]⟩, .string ⟨#[102, 97, 105, 108, 105, 102]⟩] 9)).cell? ⟨w.heap.size, 2, none⟩ = some (.slice ak 0 ck) ∧ ((w.alloc (.cells #[.int .i64 1, .slice ad ds.length cd, .slice ak 0 ck, .int .i64 0] 44)).alloc (.cells #[.string ⟨#[]⟩, .string ⟨#[116, 114, 121]⟩, .string ⟨#[102, 111, 114, 107]⟩, .string ⟨#[102, 97, 105, 108]⟩, .string ⟨#[102, 97, 105, 108, 105, 102]⟩] 9)).cell? ⟨w.heap.size, 3, none⟩ = some (.int .i64 0) ∧ Below w.heap.size w ((w.alloc (.cells #[.int .i64 1, .slice ad ds.length cd, .slice ak 0 ck, .int .i64 0] 44)).alloc (.cells #[.string ⟨#[]⟩, .string ⟨#[116, 114, 121]⟩, .string ⟨#[102, 111, 114, 107]⟩, .string ⟨#[102, 97, 105, 108]⟩, .string ⟨#[102, 97, 105, 108, 105, 102]⟩] 9)) ∧ w.heap.size < ((w.alloc (.cells #[.int .i64 1, .slice ad ds.length cd, .slice ak 0 ck, .int .i64 0] 44)).alloc (.cells #[.string ⟨#[]⟩, .string ⟨#[116, 114, 121]⟩, .string ⟨#[102, 111, 114, 107]⟩, .string ⟨#[102, 97, 105, 108]⟩, .string ⟨#[102, 97, 105, 108, 105, 102]⟩] 9)).heap.size) :=
    ⟨by simp [go_sem], by simp [go_sem], by simp [go_sem], by simp [go_sem], (by repeat (first | exact Below.refl _ _ | refine Below.alloc ?_ (by simp; try omega) _ | refine Below.drew ?_ | refine Below.setCell ?_ (by simp; try omega) _)), by simp; omega⟩
  generalize ((w.alloc (.cells #[.int .i64 1, .slice ad ds.length cd, .slice ak 0 ck, .int .i64 0] 44)).alloc (.cells #[.string ⟨#[]⟩, .string ⟨#[116, 114, 121]⟩, .string ⟨#[102, 111, 114, 107]⟩, .string ⟨#[102, 97, 105, 108]⟩, .string ⟨#[102, 97, 105, 108, 105, 102]⟩] 9)) = V at HS ⊢
  obtain ⟨b0, b1, b2, b3, hbV, hzV⟩ := HS.out
  have HW := (show Hid (Below w.heap.size w V) from hbV)
  clear HS hbV
  go_loopw [3, 4] (fun t q w' => ∃ (k : Nat) (T : ByteArray), k ≤ ds.length ∧ q = .int .i64 k ∧ t = .string T ∧ T = bs ([116, 114, 121] ++ dsT (ds.take k)) ∧ Below V.heap.size V w') (fun _ q _ => ds.length - (intOf q).toNat)
  case atStart => exact ⟨0, _, Nat.zero_le _, rfl, rfl, rfl, Below.refl _ _⟩
  case round =>
    obtain ⟨k, T, hk, rfl, rfl, hT, hb⟩ := hrel
    have hTs : T.size ≤ 3000 := by
      have := dsT_len (ds.take k)
      rw [hT, bs_size]
      simp at this ⊢
      omega
    have HT := (show Hid (T = _) from hT)
    have hz : w.heap.size < wr.heap.size := Nat.lt_of_lt_of_le hzV hb.size
    have f0 : wr.cell? ⟨w.heap.size, 0, none⟩ = some (.int .i64 1) := (hb.cell (p := ⟨w.heap.size, 0, none⟩) hzV).trans b0
    have f1 : wr.cell? ⟨w.heap.size, 1, none⟩ = some (.slice ad ds.length cd) := (hb.cell (p := ⟨w.heap.size, 1, none⟩) hzV).trans b1
    have f2 : wr.cell? ⟨w.heap.size, 2, none⟩ = some (.slice ak 0 ck) := (hb.cell (p := ⟨w.heap.size, 2, none⟩) hzV).trans b2
    have f3 : wr.cell? ⟨w.heap.size, 3, none⟩ = some (.int .i64 0) := (hb.cell (p := ⟨w.heap.size, 3, none⟩) hzV).trans b3
    clear hT
    by_cases hlt : k < ds.length
    · have hlt' : (k : Int) < (ds.length : Int) := by omega
      have hbw' : Below w.heap.size w wr := HW.out.trans (hb.mono HW.out.size)
      obtain ⟨b, off, rfl, hbw, c0, c1, c2⟩ := HDS.out k hlt
      rw [← hbw'.cell (p := ⟨b, _, none⟩) hbw] at c0 c1 c2
      have HDe : Hid (deB (nth De.z ds k) nc = true) := HE5.out _ (nth_mem De.z ds k hlt)
      obtain ⟨D, hD⟩ : ∃ D, D = bs (deT (nth De.z ds k)) := ⟨_, rfl⟩
      have hDs : D.size ≤ 4 := by rw [hD, bs_size]; exact deT_len _
      have HD := (show Hid (D = _) from hD)
      have HE0 : bs ([116, 114, 121] ++ dsT (ds.take (k + 1))) = T ++ ByteArray.mk #[32] ++ D := by
        have e := flat_take De.z (fun d => [32] ++ deT d) ds k hlt
        rw [HT.out, HD.out, show ByteArray.mk #[32] = bs [32] from rfl, bs_app, bs_app]
        unfold dsT
        rw [e]
        simp [List.append_assoc]
      have HE := (show Hid (_ = _) from HE0)
      clear HE0
      have a1 : ¬ (9223372036854775807 < T.size + 1) := by omega
      have a2 : ¬ (9223372036854775807 < T.size + 1 + D.size) := by omega
      have hz2 : b < wr.heap.size := Nat.lt_of_lt_of_le hbw hbw'.size
      have H1 := (show Hid (Below _ _ _) from hb)
      clear hD hb hbw'
      generalize nth De.z ds k = d at *
      go_wp2_with (go_at_call 46; refine (l1SayDeed_any d nc HDe.out hnc _).mono ?_; rintro e w2 ⟨rfl, hb2⟩; rw [← HD.out]; have H2 := (show Hid (Below V.heap.size V w2) from H1.out.trans (hb2.mono H1.out.size)); clear hb2)
      go_roundw
      case rel => exact ⟨k + 1, _, by omega, by go_num, rfl, HE.out.symm, H2.out⟩
      case measure => simp [intOf]; omega
    have hlt' : ¬ (k : Int) < (ds.length : Int) := by omega
    have HE : Hid (T = bs ([116, 114, 121] ++ dsT ds)) := by rw [HT.out, List.take_of_length_le (by omega)]; exact (rfl : _ = _)
    have H1 := (show Hid (Below V.heap.size V wr) from hb)
    clear hb
    go_wp2_with fail
    go_loopw [3, 5] (fun t q w' => q = .int .i64 0 ∧ t = .string T ∧ w' = wr) (fun _ _ _ => 0)
    case atStart => exact ⟨rfl, rfl, rfl⟩
    case round =>
      obtain ⟨rfl, rfl, rfl⟩ := hrel
      go_wp2_with fail
      go_ret
      exact ⟨ret_str HE.out, HW.out.trans (H1.out.mono HW.out.size)⟩

set_option maxHeartbeats 1000000 in
theorem l1Say_2 (ad ak : Option Addr) (cd ck : Nat) (w : World) (ks : List Int) (hl : ks.length ≤ 3) (hk : IntsAt w (.slice ak ks.length ck) ks) (he : ∀ k, k ∈ ks → 0 ≤ k ∧ k < 100) :
    Calls Tryz.prog 23 #[.agg #[.int .i64 2, .slice ad 0 cd, .slice ak ks.length ck, .int .i64 0]] w fun e w' => e = .returned (.string (bs ([102, 111, 114, 107] ++ nuT ks))) ∧ Below w.heap.size w w' := by
  obtain ⟨ak', ck', hv', hmk, hks⟩ := id hk
  injection hv' with e1' _ e3'
  subst e1' e3'
  have HKS := (show Hid (∀ i, i < ks.length → _) from hks)
  have HE5 := (show Hid (∀ k, k ∈ ks → _) from he)
  clear hk hks he
  go_enter Tryz.func23, Tryz.ntmps23
  go_wp2_with fail
  have HS : Hid (((w.alloc (.cells #[.int .i64 2, .slice ad 0 cd, .slice ak ks.length ck, .int .i64 0] 44)).alloc (.cells #[.string ⟨#[]⟩, .string ⟨#[116, 114, 121]⟩, .string ⟨#[102, 111, 114, 107]⟩, .string ⟨#[102, 97, 105, 108]⟩, .string ⟨#[102, 97, 105, 108, 105, 102]⟩] 9)).cell? ⟨w.heap.size, 0, none⟩ = some (.int .i64 2) ∧ ((w.alloc (.cells #[.int .i64 2, .slice ad 0 cd, .slice ak ks.length ck, .int .i64 0] 44)).alloc (.cells #[.string ⟨#[]⟩, .string ⟨#[116, 114, 121]⟩, .string ⟨#[102, 111, 114, 107]⟩, .string ⟨#[102, 97, 105, 108]⟩, .string ⟨#[102, 97, 105, 108, 105, 102]⟩] 9)).cell? ⟨w.heap.size, 1, none⟩ = some (.slice ad 0 cd) ∧ ((w.alloc (.cells #[.int .i64 2, .slice ad 0 cd, .slice ak ks.length ck, .int .i64 0] 44)).alloc (.cells #[.string ⟨#[]⟩, .string ⟨#[116, 114, 121]⟩, .string ⟨#[102, 111, 114, 107]⟩, .string ⟨#[102, 97, 105, 108]⟩, .string ⟨#[102, 97, 105, 108, 105, 102]⟩] 9)).cell? ⟨w.heap.size, 2, none⟩ = some (.slice ak ks.length ck) ∧ ((w.alloc (.cells #[.int .i64 2, .slice ad 0 cd, .slice ak ks.length ck, .int .i64 0] 44)).alloc (.cells #[.string ⟨#[]⟩, .string ⟨#[116, 114, 121]⟩, .string ⟨#[102, 111, 114, 107]⟩, .string ⟨#[102, 97, 105, 108]⟩, .string ⟨#[102, 97, 105, 108, 105, 102]⟩] 9)).cell? ⟨w.heap.size, 3, none⟩ = some (.int .i64 0) ∧ Below w.heap.size w ((w.alloc (.cells #[.int .i64 2, .slice ad 0 cd, .slice ak ks.length ck, .int .i64 0] 44)).alloc (.cells #[.string ⟨#[]⟩, .string ⟨#[116, 114, 121]⟩, .string ⟨#[102, 111, 114, 107]⟩, .string ⟨#[102, 97, 105, 108]⟩, .string ⟨#[102, 97, 105, 108, 105, 102]⟩] 9)) ∧ w.heap.size < ((w.alloc (.cells #[.int .i64 2, .slice ad 0 cd, .slice ak ks.length ck, .int .i64 0] 44)).alloc (.cells #[.string ⟨#[]⟩, .string ⟨#[116, 114, 121]⟩, .string ⟨#[102, 111, 114, 107]⟩, .string ⟨#[102, 97, 105, 108]⟩, .string ⟨#[102, 97, 105, 108, 105, 102]⟩] 9)).heap.size) :=
    ⟨by simp [go_sem], by simp [go_sem], by simp [go_sem], by simp [go_sem], (by repeat (first | exact Below.refl _ _ | refine Below.alloc ?_ (by simp; try omega) _ | refine Below.drew ?_ | refine Below.setCell ?_ (by simp; try omega) _)), by simp; omega⟩
  generalize ((w.alloc (.cells #[.int .i64 2, .slice ad 0 cd, .slice ak ks.length ck, .int .i64 0] 44)).alloc (.cells #[.string ⟨#[]⟩, .string ⟨#[116, 114, 121]⟩, .string ⟨#[102, 111, 114, 107]⟩, .string ⟨#[102, 97, 105, 108]⟩, .string ⟨#[102, 97, 105, 108, 105, 102]⟩] 9)) = V at HS ⊢
  obtain ⟨b0, b1, b2, b3, hbV, hzV⟩ := HS.out
  have HW := (show Hid (Below w.heap.size w V) from hbV)
  clear HS hbV
  go_loopw [3, 4] (fun t q w' => q = .int .i64 0 ∧ t = .string ⟨#[102, 111, 114, 107]⟩ ∧ w' = V) (fun _ _ _ => 0)
  case atStart => exact ⟨rfl, rfl, rfl⟩
  case round =>
    obtain ⟨rfl, rfl, rfl⟩ := hrel
    go_wp2_with fail
    generalize wr = V at *
    go_loopw [3, 5] (fun t q w' => ∃ (k : Nat) (T : ByteArray), k ≤ ks.length ∧ q = .int .i64 k ∧ t = .string T ∧ T = bs ([102, 111, 114, 107] ++ nuT (ks.take k)) ∧ Below V.heap.size V w') (fun _ q _ => ks.length - (intOf q).toNat)
    case atStart => exact ⟨0, _, Nat.zero_le _, rfl, rfl, rfl, Below.refl _ _⟩
    case round =>
      obtain ⟨k, T, hk, rfl, rfl, hT, hb⟩ := hrel
      have hTs : T.size ≤ 3000 := by
        have := nuT_len (ks.take k)
        rw [hT, bs_size]
        simp at this ⊢
        omega
      have HT := (show Hid (T = _) from hT)
      have hz : w.heap.size < wr.heap.size := Nat.lt_of_lt_of_le hzV hb.size
      have f0 : wr.cell? ⟨w.heap.size, 0, none⟩ = some (.int .i64 2) := (hb.cell (p := ⟨w.heap.size, 0, none⟩) hzV).trans b0
      have f1 : wr.cell? ⟨w.heap.size, 1, none⟩ = some (.slice ad 0 cd) := (hb.cell (p := ⟨w.heap.size, 1, none⟩) hzV).trans b1
      have f2 : wr.cell? ⟨w.heap.size, 2, none⟩ = some (.slice ak ks.length ck) := (hb.cell (p := ⟨w.heap.size, 2, none⟩) hzV).trans b2
      have f3 : wr.cell? ⟨w.heap.size, 3, none⟩ = some (.int .i64 0) := (hb.cell (p := ⟨w.heap.size, 3, none⟩) hzV).trans b3
      clear hT
      by_cases hlt : k < ks.length
      · have hlt' : (k : Int) < (ks.length : Int) := by omega
        have hbw' : Below w.heap.size w wr := HW.out.trans (hb.mono HW.out.size)
        obtain ⟨b, off, rfl, hbw, c0⟩ := HKS.out k hlt
        rw [← hbw'.cell (p := ⟨b, _, none⟩) hbw] at c0
        obtain ⟨n, hn, hn1⟩ := num_nat (HE5.out _ (nth_mem 0 ks k hlt))
        rw [hn] at c0
        obtain ⟨D, hD⟩ : ∃ D, D = bs (decT (n : Int)) := ⟨_, rfl⟩
        have hDs : D.size ≤ 2 := by rw [hD, bs_size]; exact decT_len _
        have HD := (show Hid (D = _) from hD)
        have HE0 : bs ([102, 111, 114, 107] ++ nuT (ks.take (k + 1))) = T ++ ByteArray.mk #[32] ++ D := by
          have e := flat_take 0 (fun k => [32] ++ decT k) ks k hlt
          rw [hn] at e
          rw [HT.out, HD.out, show ByteArray.mk #[32] = bs [32] from rfl, bs_app, bs_app]
          unfold nuT
          rw [e]
          simp [List.append_assoc]
        have HE := (show Hid (_ = _) from HE0)
        have a1 : ¬ (9223372036854775807 < T.size + 1) := by omega
        have a2 : ¬ (9223372036854775807 < T.size + 1 + D.size) := by omega
        have hz2 : b < wr.heap.size := Nat.lt_of_lt_of_le hbw hbw'.size
        have H1 := (show Hid (Below _ _ _) from hb)
        clear hD hb hbw' HE0 hn
        go_wp2_with (go_at_call 22; refine (l6Dec_any n hn1 _).mono ?_; rintro e w2 ⟨rfl, hb2⟩; rw [← HD.out]; have H2 := (show Hid (Below V.heap.size V w2) from H1.out.trans (hb2.mono H1.out.size)); clear hb2)
        go_roundw
        case rel => exact ⟨k + 1, _, by omega, by go_num, rfl, HE.out.symm, H2.out⟩
        case measure => simp [intOf]; omega
      have hlt' : ¬ (k : Int) < (ks.length : Int) := by omega
      have HE : Hid (T = bs ([102, 111, 114, 107] ++ nuT ks)) := by rw [HT.out, List.take_of_length_le (by omega)]; exact (rfl : _ = _)
      have H1 := (show Hid (Below V.heap.size V wr) from hb)
      clear hb
      go_wp2_with fail
      go_ret
      exact ⟨ret_str HE.out, HW.out.trans (H1.out.mono HW.out.size)⟩

set_option maxHeartbeats 1000000 in
theorem l1Say_3 (ad ak : Option Addr) (cd ck : Nat) (w : World)  :
    Calls Tryz.prog 23 #[.agg #[.int .i64 3, .slice ad 0 cd, .slice ak 0 ck, .int .i64 0]] w fun e w' => e = .returned (.string (bs ([102, 97, 105, 108]))) ∧ Below w.heap.size w w' := by
  go_enter Tryz.func23, Tryz.ntmps23
  go_wp2_with fail
  have HS : Hid (((w.alloc (.cells #[.int .i64 3, .slice ad 0 cd, .slice ak 0 ck, .int .i64 0] 44)).alloc (.cells #[.string ⟨#[]⟩, .string ⟨#[116, 114, 121]⟩, .string ⟨#[102, 111, 114, 107]⟩, .string ⟨#[102, 97, 105, 108]⟩, .string ⟨#[102, 97, 105, 108, 105, 102]⟩] 9)).cell? ⟨w.heap.size, 0, none⟩ = some (.int .i64 3) ∧ ((w.alloc (.cells #[.int .i64 3, .slice ad 0 cd, .slice ak 0 ck, .int .i64 0] 44)).alloc (.cells #[.string ⟨#[]⟩, .string ⟨#[116, 114, 121]⟩, .string ⟨#[102, 111, 114, 107]⟩, .string ⟨#[102, 97, 105, 108]⟩, .string ⟨#[102, 97, 105, 108, 105, 102]⟩] 9)).cell? ⟨w.heap.size, 1, none⟩ = some (.slice ad 0 cd) ∧ ((w.alloc (.cells #[.int .i64 3, .slice ad 0 cd, .slice ak 0 ck, .int .i64 0] 44)).alloc (.cells #[.string ⟨#[]⟩, .string ⟨#[116, 114, 121]⟩, .string ⟨#[102, 111, 114, 107]⟩, .string ⟨#[102, 97, 105, 108]⟩, .string ⟨#[102, 97, 105, 108, 105, 102]⟩] 9)).cell? ⟨w.heap.size, 2, none⟩ = some (.slice ak 0 ck) ∧ ((w.alloc (.cells #[.int .i64 3, .slice ad 0 cd, .slice ak 0 ck, .int .i64 0] 44)).alloc (.cells #[.string ⟨#[]⟩, .string ⟨#[116, 114, 121]⟩, .string ⟨#[102, 111, 114, 107]⟩, .string ⟨#[102, 97, 105, 108]⟩, .string ⟨#[102, 97, 105, 108, 105, 102]⟩] 9)).cell? ⟨w.heap.size, 3, none⟩ = some (.int .i64 0) ∧ Below w.heap.size w ((w.alloc (.cells #[.int .i64 3, .slice ad 0 cd, .slice ak 0 ck, .int .i64 0] 44)).alloc (.cells #[.string ⟨#[]⟩, .string ⟨#[116, 114, 121]⟩, .string ⟨#[102, 111, 114, 107]⟩, .string ⟨#[102, 97, 105, 108]⟩, .string ⟨#[102, 97, 105, 108, 105, 102]⟩] 9)) ∧ w.heap.size < ((w.alloc (.cells #[.int .i64 3, .slice ad 0 cd, .slice ak 0 ck, .int .i64 0] 44)).alloc (.cells #[.string ⟨#[]⟩, .string ⟨#[116, 114, 121]⟩, .string ⟨#[102, 111, 114, 107]⟩, .string ⟨#[102, 97, 105, 108]⟩, .string ⟨#[102, 97, 105, 108, 105, 102]⟩] 9)).heap.size) :=
    ⟨by simp [go_sem], by simp [go_sem], by simp [go_sem], by simp [go_sem], (by repeat (first | exact Below.refl _ _ | refine Below.alloc ?_ (by simp; try omega) _ | refine Below.drew ?_ | refine Below.setCell ?_ (by simp; try omega) _)), by simp; omega⟩
  generalize ((w.alloc (.cells #[.int .i64 3, .slice ad 0 cd, .slice ak 0 ck, .int .i64 0] 44)).alloc (.cells #[.string ⟨#[]⟩, .string ⟨#[116, 114, 121]⟩, .string ⟨#[102, 111, 114, 107]⟩, .string ⟨#[102, 97, 105, 108]⟩, .string ⟨#[102, 97, 105, 108, 105, 102]⟩] 9)) = V at HS ⊢
  obtain ⟨b0, b1, b2, b3, hbV, hzV⟩ := HS.out
  have HW := (show Hid (Below w.heap.size w V) from hbV)
  clear HS hbV
  go_loopw [3, 4] (fun t q w' => q = .int .i64 0 ∧ t = .string ⟨#[102, 97, 105, 108]⟩ ∧ w' = V) (fun _ _ _ => 0)
  case atStart => exact ⟨rfl, rfl, rfl⟩
  case round =>
    obtain ⟨rfl, rfl, rfl⟩ := hrel
    go_wp2_with fail
    go_loopw [3, 5] (fun t q w' => q = .int .i64 0 ∧ t = .string ⟨#[102, 97, 105, 108]⟩ ∧ w' = wr) (fun _ _ _ => 0)
    case atStart => exact ⟨rfl, rfl, rfl⟩
    case round =>
      obtain ⟨rfl, rfl, rfl⟩ := hrel
      go_wp2_with fail
      go_ret
      exact ⟨rfl, HW.out⟩

set_option maxHeartbeats 1000000 in
theorem l1Say_4 (ad ak : Option Addr) (cd ck : Nat) (w : World) (r : Int) (h0 : 0 ≤ r) (h1 : r < 3) :
    Calls Tryz.prog 23 #[.agg #[.int .i64 4, .slice ad 0 cd, .slice ak 0 ck, .int .i64 r]] w fun e w' => e = .returned (.string (bs ([102, 97, 105, 108, 105, 102, 32] ++ reT r))) ∧ Below w.heap.size w w' := by
  go_enter Tryz.func23, Tryz.ntmps23
  go_wp2_with fail
  have HS : Hid (((w.alloc (.cells #[.int .i64 4, .slice ad 0 cd, .slice ak 0 ck, .int .i64 r] 44)).alloc (.cells #[.string ⟨#[]⟩, .string ⟨#[116, 114, 121]⟩, .string ⟨#[102, 111, 114, 107]⟩, .string ⟨#[102, 97, 105, 108]⟩, .string ⟨#[102, 97, 105, 108, 105, 102]⟩] 9)).cell? ⟨w.heap.size, 0, none⟩ = some (.int .i64 4) ∧ ((w.alloc (.cells #[.int .i64 4, .slice ad 0 cd, .slice ak 0 ck, .int .i64 r] 44)).alloc (.cells #[.string ⟨#[]⟩, .string ⟨#[116, 114, 121]⟩, .string ⟨#[102, 111, 114, 107]⟩, .string ⟨#[102, 97, 105, 108]⟩, .string ⟨#[102, 97, 105, 108, 105, 102]⟩] 9)).cell? ⟨w.heap.size, 1, none⟩ = some (.slice ad 0 cd) ∧ ((w.alloc (.cells #[.int .i64 4, .slice ad 0 cd, .slice ak 0 ck, .int .i64 r] 44)).alloc (.cells #[.string ⟨#[]⟩, .string ⟨#[116, 114, 121]⟩, .string ⟨#[102, 111, 114, 107]⟩, .string ⟨#[102, 97, 105, 108]⟩, .string ⟨#[102, 97, 105, 108, 105, 102]⟩] 9)).cell? ⟨w.heap.size, 2, none⟩ = some (.slice ak 0 ck) ∧ ((w.alloc (.cells #[.int .i64 4, .slice ad 0 cd, .slice ak 0 ck, .int .i64 r] 44)).alloc (.cells #[.string ⟨#[]⟩, .string ⟨#[116, 114, 121]⟩, .string ⟨#[102, 111, 114, 107]⟩, .string ⟨#[102, 97, 105, 108]⟩, .string ⟨#[102, 97, 105, 108, 105, 102]⟩] 9)).cell? ⟨w.heap.size, 3, none⟩ = some (.int .i64 r) ∧ Below w.heap.size w ((w.alloc (.cells #[.int .i64 4, .slice ad 0 cd, .slice ak 0 ck, .int .i64 r] 44)).alloc (.cells #[.string ⟨#[]⟩, .string ⟨#[116, 114, 121]⟩, .string ⟨#[102, 111, 114, 107]⟩, .string ⟨#[102, 97, 105, 108]⟩, .string ⟨#[102, 97, 105, 108, 105, 102]⟩] 9)) ∧ w.heap.size < ((w.alloc (.cells #[.int .i64 4, .slice ad 0 cd, .slice ak 0 ck, .int .i64 r] 44)).alloc (.cells #[.string ⟨#[]⟩, .string ⟨#[116, 114, 121]⟩, .string ⟨#[102, 111, 114, 107]⟩, .string ⟨#[102, 97, 105, 108]⟩, .string ⟨#[102, 97, 105, 108, 105, 102]⟩] 9)).heap.size) :=
    ⟨by simp [go_sem], by simp [go_sem], by simp [go_sem], by simp [go_sem], (by repeat (first | exact Below.refl _ _ | refine Below.alloc ?_ (by simp; try omega) _ | refine Below.drew ?_ | refine Below.setCell ?_ (by simp; try omega) _)), by simp; omega⟩
  generalize ((w.alloc (.cells #[.int .i64 4, .slice ad 0 cd, .slice ak 0 ck, .int .i64 r] 44)).alloc (.cells #[.string ⟨#[]⟩, .string ⟨#[116, 114, 121]⟩, .string ⟨#[102, 111, 114, 107]⟩, .string ⟨#[102, 97, 105, 108]⟩, .string ⟨#[102, 97, 105, 108, 105, 102]⟩] 9)) = V at HS ⊢
  obtain ⟨b0, b1, b2, b3, hbV, hzV⟩ := HS.out
  have HW := (show Hid (Below w.heap.size w V) from hbV)
  clear HS hbV
  go_loopw [3, 4] (fun t q w' => q = .int .i64 0 ∧ t = .string ⟨#[102, 97, 105, 108, 105, 102]⟩ ∧ w' = V) (fun _ _ _ => 0)
  case atStart => exact ⟨rfl, rfl, rfl⟩
  case round =>
    obtain ⟨rfl, rfl, rfl⟩ := hrel
    go_wp2_with fail
    have w1 : IntKind.i64.wrap (114 + r) = 114 + r := by rw [IntKind.wrap_i64]; omega
    have w2 : IntKind.u8.wrap (114 + r) = 114 + r := by rw [IntKind.wrap_u8]; omega
    go_loopw [3, 5] (fun t q w' => q = .int .i64 0 ∧ t = .string ⟨#[102, 97, 105, 108, 105, 102]⟩ ∧ w' = wr) (fun _ _ _ => 0)
    case atStart => exact ⟨rfl, rfl, rfl⟩
    case round =>
      obtain ⟨rfl, rfl, rfl⟩ := hrel
      go_wp2_with fail
      go_ret
      exact ⟨ret_str (by rw [mk_bs, mk_bs, bs_app, bs_app]; rfl), HW.out.alloc HW.out.size _⟩

end Go.Proofs.YtliakmgombpjpaaGreatDoor
