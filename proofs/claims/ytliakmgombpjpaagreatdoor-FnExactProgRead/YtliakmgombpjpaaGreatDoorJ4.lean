import Derived.Test.YtliakmgombpjpaaGreatDoorR1
import Derived.Test.YtliakmgombpjpaaGreatDoorSh
import Derived.Lib.AtoiErrMem
import Derived.Test.YtliakmgombpjpaaGreatDoorX1
import Derived.Test.YtliakmgombpjpaaGreatDoorD4
/-
  One word is guessed: a name, a number, a deed.
-/
namespace Go.Proofs.YtliakmgombpjpaaGreatDoor
open Go.RowKit
set_option linter.unusedSimpArgs false
set_option linter.unusedVariables false

/-- what variables of the library hold, as far as it matters -/
structure Gl (w : World) : Prop where
  m : ∃ m, w.cell? ⟨1, 0, none⟩ = some (.int .i64 m)
  s : ∃ ev, w.cell? ⟨4, 0, none⟩ = some ev ∧ (ev = .nilIface ∨ ∃ te pe, ev = .iface te pe)
  r : ∃ ev, w.cell? ⟨5, 0, none⟩ = some ev ∧ (ev = .nilIface ∨ ∃ te pe, ev = .iface te pe)
theorem Gl.mono {w w' : World} (h : Gl w) (hb : Below w.heap.size w w') : Gl w' := by
  obtain ⟨⟨m, hm⟩, ⟨s, hs, hs'⟩, ⟨r, hr, hr'⟩⟩ := h
  exact ⟨⟨m, by rw [hb.cell (p := ⟨_, 0, none⟩) (World.block_lt_of_cell? w _ hm)]; exact hm⟩, ⟨s, by rw [hb.cell (p := ⟨_, 0, none⟩) (World.block_lt_of_cell? w _ hs)]; exact hs, hs'⟩, ⟨r, by rw [hb.cell (p := ⟨_, 0, none⟩) (World.block_lt_of_cell? w _ hr)]; exact hr, hr'⟩⟩

theorem ba_list (s : ByteArray) : bs s.data.toList = s := by
  apply ByteArray.ext
  simp [bs]
theorem bs_data (l : List UInt8) : (bs l).data.toList = l := by simp [bs]
theorem mk_data (l : List UInt8) : (ByteArray.mk l.toArray).data.toList = l := by simp

set_option maxHeartbeats 400000 in
theorem nameGuess_any (l nm : List UInt8) (w : World) (hs : l.length ≤ 9223372036854775807) :
    Calls Tryz.prog 67 #[.string (bs l), .string (bs nm)] w fun e w' => e = .returned (.int .i64 (nmG l nm)) ∧ w' = w := by
  have hz := bs_size l
  by_cases h1 : l.length = 1
  · obtain ⟨c, rfl⟩ : ∃ c, l = [c] := by
      match l, h1 with
      | [c], _ => exact ⟨c, rfl⟩
    clear h1 hz
    have HV : Hid (nmG [c] nm = Lib.indexByte (bs nm).data.toList c) := by rw [Hid, bs_data]; simp [nmG]
    go_enter Tryz.func67, Tryz.ntmps67
    go_wp2_with (go_at_call 81; refine (Tryz.strings_Index_one (bs nm) c _).mono ?_; rintro e w' ⟨rfl, hw⟩; have hw := hw.symm; subst hw)
    go_ret
    exact ⟨by rw [HV.out]; rfl, rfl⟩
  · have h1' : (((bs l).size : Int) != 1) = true := by rw [hz]; simp; omega
    have HV : Hid (nmG l nm = -1) := by rw [Hid]; simp [nmG, h1]
    clear hz
    go_enter Tryz.func67, Tryz.ntmps67
    go_wp2_with fail
    go_ret
    exact ⟨by rw [HV.out]; rfl, rfl⟩

set_option maxHeartbeats 400000 in
theorem numGuess_any (l : List UInt8) (w : World) (hG : Gl w) (hs : l.length ≤ 281474976710656) :
    Calls Tryz.prog 65 #[.string (bs l)] w fun e w' => e = .returned (.int .i64 (nuG l)) ∧ Below w.heap.size w w' := by
  have hz := bs_size l
  obtain ⟨_, ⟨sv, hsv, hsv'⟩, ⟨rv, hrv, hrv'⟩⟩ := hG
  cases hA : Lib.atoiAll l with
  | ok v =>
    have HV : Hid (nuG l = v) := by rw [Hid]; simp [nuG, hA]
    have HA : Hid (Lib.atoiAll (bs l).data.toList = .ok v) := by rw [Hid, bs_data]; exact hA
    clear hA hsv hrv hsv' hrv'
    go_enter Tryz.func65, Tryz.ntmps65
    go_wp2_with (go_at_call 83; refine (Tryz.strconv_Atoi_ok (bs l) (by omega) v HA.out _).mono ?_; rintro e w1 ⟨rfl, hw1⟩)
    go_ret
    refine ⟨by rw [HV.out]; rfl, ?_⟩
    rcases hw1 with rfl | ⟨t, rfl⟩
    · exact Below.refl _ _
    · exact Lib.bytesWorld_below _ _ _
  | «syntax» =>
    have HV : Hid (nuG l = -1) := by rw [Hid]; simp [nuG, hA]
    have HA : Hid (Lib.atoiAll (bs l).data.toList = .«syntax») := by rw [Hid, bs_data]; exact hA
    have HS := (show Hid (w.cell? _ = some sv) from hsv)
    clear hA hsv hrv hrv'
    go_enter Tryz.func65, Tryz.ntmps65
    go_wp2_with (go_at_call 83; refine (Tryz.strconv_Atoi_syntax (bs l) (by omega) HA.out sv _ HS.out hsv').mono ?_; rintro e w1 ⟨N, rfl, hN, hh, hb⟩; clear hh)
    go_ret
    exact ⟨by rw [HV.out]; rfl, hb⟩
  | range =>
    have HV : Hid (nuG l = -1) := by rw [Hid]; simp [nuG, hA]
    have HA : Hid (Lib.atoiAll (bs l).data.toList = .range) := by rw [Hid, bs_data]; exact hA
    have HS := (show Hid (w.cell? _ = some rv) from hrv)
    clear hA hsv hrv hsv'
    go_enter Tryz.func65, Tryz.ntmps65
    go_wp2_with (go_at_call 83; refine (Tryz.strconv_Atoi_range (bs l) (by omega) HA.out rv _ HS.out hrv').mono ?_; rintro e w1 ⟨N, rfl, hN, hh, hb⟩; clear hh)
    go_ret
    exact ⟨by rw [HV.out]; rfl, hb⟩

theorem cut_le (s sep : List UInt8) : (Lib.cut s sep).1.length ≤ s.length ∧ (Lib.cut s sep).2.1.length ≤ s.length := by
  unfold Lib.cut
  split <;> simp <;> omega
theorem trim_le (s p : List UInt8) : (Lib.trimSuffix s p).length ≤ s.length := by
  unfold Lib.trimSuffix
  split <;> simp <;> omega
theorem nmG_RST (l : List UInt8) : -1 ≤ nmG l RST ∧ nmG l RST ≤ 2 := by
  unfold nmG
  split
  · have h1 := Lib.indexByte_ge RST (l.getD 0 0)
    refine ⟨h1, ?_⟩
    unfold RST
    simp only [Lib.indexByte]
    repeat' split
    all_goals first | omega | simp_all
  · omega

end Go.Proofs.YtliakmgombpjpaaGreatDoor

/-
  A deed is guessed; lists of words.
-/
namespace Go.Proofs.YtliakmgombpjpaaGreatDoor
open Go.RowKit
set_option linter.unusedSimpArgs false
set_option linter.unusedVariables false

theorem cutSuffix_l (l : List UInt8) (c : UInt8) (w : World) (h : l.length ≤ 9223372036854775807) :
    Calls Tryz.prog 100 #[.string (bs l), .string ⟨#[c]⟩] w fun e w' => e = .returned (.tuple #[.string (bs (Lib.trimSuffix l [c])), .bool (Lib.hasSuffix l [c])]) ∧ w' = w := by
  refine (Tryz.strings_CutSuffix (bs l) ⟨#[c]⟩ w (by rw [bs_size]; exact h)).mono ?_
  rintro e w' ⟨rfl, rfl⟩
  rw [bs_data]
  exact ⟨rfl, rfl⟩
theorem cut_l (l : List UInt8) (c : UInt8) (w : World) (hG : Gl w) (h : l.length < 4294967281) :
    Calls Tryz.prog 101 #[.string (bs l), .string ⟨#[c]⟩] w fun e w' => e = .returned (.tuple #[.string (bs (Lib.cut l [c]).1), .string (bs (Lib.cut l [c]).2.1), .bool (Lib.cut l [c]).2.2]) ∧ Below w.heap.size w w' := by
  obtain ⟨m, hm⟩ := hG.m
  refine (Tryz.strings_Cut (bs l) ⟨#[c]⟩ m w (by rw [bs_size]; exact h) hm).mono ?_
  rintro e w' ⟨rfl, n, rfl⟩
  rw [bs_data]
  exact ⟨rfl, below_drewN (Below.refl _ _) n⟩

set_option maxHeartbeats 2000000 in
theorem deedGuess_any (l : List UInt8) (w : World) (hG : Gl w) (hs : l.length < 4294967281) :
    Calls Tryz.prog 84 #[.string (bs l)] w fun e w' => e = .returned (.agg #[.int .i64 (deG l).k, .int .i64 (deG l).a, .int .i64 (deG l).b]) ∧ Below w.heap.size w w' := by
  have hG0 : ∀ o, Gl (w.alloc o) := fun o => hG.mono ((Below.refl _ _).alloc (Nat.le_refl _) _)
  have HG0 := (show Hid (∀ o, Gl (w.alloc o)) from hG0)
  have ht := trim_le l [63]
  have hc4 := cut_le l [43]
  have hc6 := cut_le l [61]
  clear hG hG0
  cases h1 : Lib.hasSuffix l [63]
  case true =>
    have HV : Hid (deG l = ⟨5, nmG (Lib.trimSuffix l [63]) RST, 0⟩) := by rw [Hid]; simp [deG, h1]
    go_enter Tryz.func84, Tryz.ntmps84
    go_wp2_with fail
    refine (cutSuffix_l l 63 _ (by omega)).mono ?_
    rintro e w' ⟨rfl, hw⟩
    rw [h1]
    have hw := hw.symm
    subst hw
    go_wp2_with fail
    refine (nameGuess_any (Lib.trimSuffix l [63]) RST _ (by omega)).mono ?_
    rintro e w' ⟨rfl, hw⟩
    have hw := hw.symm
    subst hw
    go_wp2_with fail
    refine bodyPost_ret (v := .agg #[.int .i64 5, .int .i64 (nmG (Lib.trimSuffix l [63]) RST), .int .i64 0]) (by simp [results, Tryz.results84, go_sem]) rfl ⟨by rw [HV.out], (by repeat (first | exact Below.refl _ _ | refine Below.alloc ?_ (by simp; try omega) _ | refine Below.drew ?_ | refine Below.setCell ?_ (by simp; try omega) _))⟩
  case false =>
    go_enter Tryz.func84, Tryz.ntmps84
    go_wp2_with fail
    refine (cutSuffix_l l 63 _ (by omega)).mono ?_
    rintro e w' ⟨rfl, hw⟩
    rw [h1]
    have hw := hw.symm
    subst hw
    go_wp2_with fail
    refine (cut_l l 43 _ (HG0.out _) hs).mono ?_
    rintro e w2 ⟨rfl, hb2⟩
    have HB2 : Hid (Below w.heap.size w w2) := below_after (Below.refl _ _) (Nat.le_refl _) hb2
    have HG2 := (show Hid (Gl _) from (HG0.out _).mono hb2)
    have hz2 : w.heap.size < w2.heap.size := by have := hb2.size; simp at this; omega
    have HK2 : Hid (Blk w2 w.heap.size 3) := (Blk.new w #[.int .i64 0, .int .i64 0, .int .i64 0] 79).below hb2
    clear hb2 HG0
    cases h2 : (Lib.cut l [43]).2.2
    case true =>
      have HV : Hid (deG l = ⟨4, nmG (Lib.cut l [43]).1 RST, nmG (Lib.cut l [43]).2.1 RST⟩) := by rw [Hid]; simp [deG, h1, h2]
      obtain ⟨⟨u0, f0⟩, g0⟩ := HK2.out.2 0 (by omega)
      obtain ⟨⟨u1, f1⟩, g1⟩ := HK2.out.2 1 (by omega)
      obtain ⟨⟨u2, f2⟩, g2⟩ := HK2.out.2 2 (by omega)
      go_wp2_with fail
      refine (nameGuess_any (Lib.cut l [43]).1 RST _ (by omega)).mono ?_
      rintro e w' ⟨rfl, hw⟩
      have hw := hw.symm
      subst hw
      go_wp2_with fail
      refine (nameGuess_any (Lib.cut l [43]).2.1 RST _ (by omega)).mono ?_
      rintro e w' ⟨rfl, hw⟩
      have hw := hw.symm
      subst hw
      go_wp2_with fail
      obtain ⟨i0, i1, i2⟩ := set3_in HK2.out 0 (by omega) (.int .i64 4) (.int .i64 (nmG (Lib.cut l [43]).1 RST)) (.int .i64 (nmG (Lib.cut l [43]).2.1 RST))
      refine bodyPost_ret (v := .agg #[.int .i64 4, .int .i64 (nmG (Lib.cut l [43]).1 RST), .int .i64 (nmG (Lib.cut l [43]).2.1 RST)]) (by simp [results, Tryz.results84, go_sem, i0, i1, i2]) rfl ⟨by rw [HV.out], ((HB2.out.setCell (by simp) _).setCell (by simp) _).setCell (by simp) _⟩
    case false =>
      go_wp2_with fail
      refine (cut_l l 61 _ HG2.out hs).mono ?_
      rintro e w3 ⟨rfl, hb3⟩
      have HB3 : Hid (Below w.heap.size w w3) := below_then HB2.out HB2.out.size hb3
      have HG3 := (show Hid (Gl _) from HG2.out.mono hb3)
      have HK3 := (show Hid (Blk _ _ _) from HK2.out.below hb3)
      have hz3 : w.heap.size < w3.heap.size := Nat.lt_of_lt_of_le hz2 hb3.size
      clear hb3 HB2 HG2 HK2
      obtain ⟨⟨u0, f0⟩, g0⟩ := HK3.out.2 0 (by omega)
      obtain ⟨⟨u1, f1⟩, g1⟩ := HK3.out.2 1 (by omega)
      obtain ⟨⟨u2, f2⟩, g2⟩ := HK3.out.2 2 (by omega)
      go_wp2_with fail
      refine (nameGuess_any (Lib.cut l [61]).1 ABC _ (by omega)).mono ?_
      rintro e w' ⟨rfl, hw⟩
      have hw := hw.symm
      subst hw
      by_cases h3 : 0 ≤ nmG (Lib.cut l [61]).1 ABC
      · have HV : Hid (deG l = ⟨2, nmG (Lib.cut l [61]).1 ABC, nmG (Lib.cut l [61]).2.1 RST⟩) := by rw [Hid]; simp [deG, h1, h2, h3]
        go_wp2_with fail
        refine (nameGuess_any (Lib.cut l [61]).2.1 RST _ (by omega)).mono ?_
        rintro e w' ⟨rfl, hw⟩
        have hw := hw.symm
        subst hw
        go_wp2_with fail
        obtain ⟨i0, i1, i2⟩ := set3_in HK3.out 0 (by omega) (.int .i64 2) (.int .i64 (nmG (Lib.cut l [61]).1 ABC)) (.int .i64 (nmG (Lib.cut l [61]).2.1 RST))
        refine bodyPost_ret (v := .agg #[.int .i64 2, .int .i64 (nmG (Lib.cut l [61]).1 ABC), .int .i64 (nmG (Lib.cut l [61]).2.1 RST)]) (by simp [results, Tryz.results84, go_sem, i0, i1, i2]) rfl ⟨by rw [HV.out], ((HB3.out.setCell (by simp) _).setCell (by simp) _).setCell (by simp) _⟩
      · go_wp2_with fail
        refine (nameGuess_any (Lib.cut l [61]).2.1 ABC _ (by omega)).mono ?_
        rintro e w' ⟨rfl, hw⟩
        have hw := hw.symm
        subst hw
        by_cases h4 : 0 ≤ nmG (Lib.cut l [61]).2.1 ABC
        · have HV : Hid (deG l = ⟨1, nmG (Lib.cut l [61]).1 RST, nmG (Lib.cut l [61]).2.1 ABC⟩) := by rw [Hid]; simp [deG, h1, h2, h3, h4]
          go_wp2_with fail
          refine (nameGuess_any (Lib.cut l [61]).1 RST _ (by omega)).mono ?_
          rintro e w' ⟨rfl, hw⟩
          have hw := hw.symm
          subst hw
          go_wp2_with fail
          obtain ⟨i0, i1, i2⟩ := set3_in HK3.out 0 (by omega) (.int .i64 1) (.int .i64 (nmG (Lib.cut l [61]).1 RST)) (.int .i64 (nmG (Lib.cut l [61]).2.1 ABC))
          refine bodyPost_ret (v := .agg #[.int .i64 1, .int .i64 (nmG (Lib.cut l [61]).1 RST), .int .i64 (nmG (Lib.cut l [61]).2.1 ABC)]) (by simp [results, Tryz.results84, go_sem, i0, i1, i2]) rfl ⟨by rw [HV.out], ((HB3.out.setCell (by simp) _).setCell (by simp) _).setCell (by simp) _⟩
        · have HV : Hid (deG l = ⟨3, nmG (Lib.cut l [61]).1 RST, nuG (Lib.cut l [61]).2.1⟩) := by rw [Hid]; simp [deG, h1, h2, h3, h4]
          go_wp2_with fail
          refine (nameGuess_any (Lib.cut l [61]).1 RST _ (by omega)).mono ?_
          rintro e w' ⟨rfl, hw⟩
          have hw := hw.symm
          subst hw
          go_wp2_with fail
          refine (numGuess_any (Lib.cut l [61]).2.1 _ HG3.out (by omega)).mono ?_
          rintro e w5 ⟨rfl, hb5⟩
          have HK5 := (show Hid (Blk _ _ _) from HK3.out.below hb5)
          have HB5 : Hid (Below w.heap.size w w5) := below_then HB3.out HB3.out.size hb5
          have hz5 : w.heap.size < w5.heap.size := Nat.lt_of_lt_of_le hz3 hb5.size
          clear hb5 f0 f1 f2 g0 g1 g2
          obtain ⟨⟨v0, f0⟩, g0⟩ := HK5.out.2 0 (by omega)
          obtain ⟨⟨v1, f1⟩, g1⟩ := HK5.out.2 1 (by omega)
          obtain ⟨⟨v2, f2⟩, g2⟩ := HK5.out.2 2 (by omega)
          go_wp2_with fail
          obtain ⟨i0, i1, i2⟩ := set3_in HK5.out 0 (by omega) (.int .i64 3) (.int .i64 (nmG (Lib.cut l [61]).1 RST)) (.int .i64 (nuG (Lib.cut l [61]).2.1))
          refine bodyPost_ret (v := .agg #[.int .i64 3, .int .i64 (nmG (Lib.cut l [61]).1 RST), .int .i64 (nuG (Lib.cut l [61]).2.1)]) (by simp [results, Tryz.results84, go_sem, i0, i1, i2]) rfl ⟨by rw [HV.out], ((HB5.out.setCell (by simp) _).setCell (by simp) _).setCell (by simp) _⟩

end Go.Proofs.YtliakmgombpjpaaGreatDoor

/-
  Words in memory; lists of numbers and of deeds are guessed.
-/
namespace Go.Proofs.YtliakmgombpjpaaGreatDoor
open Go.RowKit
set_option linter.unusedSimpArgs false
set_option linter.unusedVariables false

/-- a slice of strings -/
def StrsAt (w : World) (v : Value) (ws : List (List UInt8)) : Prop :=
  ∃ a cap, v = .slice a ws.length cap ∧ (ws.length ≤ cap ∧ cap ≤ 9223372036854775807) ∧ ∀ i, i < ws.length → ∃ b off, a = some ⟨b, off, none⟩ ∧ b < w.heap.size ∧ w.cell? ⟨b, off + i, none⟩ = some (.string (bs (nth [] ws i)))
theorem StrsAt.mono {w w' : World} {v : Value} {ws : List (List UInt8)} (h : StrsAt w v ws) (hb : Below w.heap.size w w') : StrsAt w' v ws := by
  obtain ⟨a, cap, rfl, hm, hc⟩ := h
  refine ⟨a, cap, rfl, hm, fun i hi => ?_⟩
  obtain ⟨b, off, rfl, hbw, c0⟩ := hc i hi
  exact ⟨b, off, rfl, Nat.lt_of_lt_of_le hbw hb.size, by rw [hb.cell (p := ⟨b, _, none⟩) hbw]; exact c0⟩

set_option maxHeartbeats 1000000 in
theorem numsGuess_any (v : Value) (ws : List (List UInt8)) (w : World) (h : StrsAt w v ws) (hG : Gl w) (hl : ws.length ≤ 1048576) (hw : ∀ x, x ∈ ws → x.length ≤ 281474976710656) :
    Calls Tryz.prog 49 #[v] w fun e w' => ∃ v', e = .returned v' ∧ OwnInt w.heap.size w' v' (ws.map nuG) ∧ Below w.heap.size w w' := by
  obtain ⟨a, cap, rfl, hm, hc⟩ := h
  obtain ⟨i0, hi, hz0, hz1, hz2⟩ := info_parts Tryz.info_int
  have HCS := (show Hid (∀ i, i < ws.length → _) from hc)
  have HG := (show Hid (Gl _) from hG)
  have HW := (show Hid (∀ x, x ∈ ws → _) from hw)
  clear hc hG hw
  go_enter Tryz.func49, Tryz.ntmps49
  go_wp2_with fail
  go_loopw [3, 8] (fun o q w' => ∃ k : Nat, k ≤ ws.length ∧ q = .int .i64 k ∧ OwnInt w.heap.size w' o ((ws.take k).map nuG) ∧ Below w.heap.size w w') (fun _ q _ => ws.length - (intOf q).toNat)
  case atStart => exact ⟨0, Nat.zero_le _, rfl, World.ownsRow_nil _ _ _ _, Below.refl _ _⟩
  case round =>
    obtain ⟨k, hk, rfl, hown, hb⟩ := hrel
    have HB := (show Hid (Below _ _ _) from hb)
    have hsz := hb.size
    obtain ⟨ys, hys⟩ : ∃ ys, ys = (ws.take k).map nuG := ⟨_, rfl⟩
    rw [← hys] at hown
    have HO := (show Hid (OwnInt _ _ _ _) from hown)
    have HY := (show Hid (ys = _) from hys)
    have hlk : ys.length ≤ k := by rw [hys]; simp; omega
    clear hys
    by_cases hlt : k < ws.length
    · have hlt' : (k : Int) < (ws.length : Int) := by omega
      obtain ⟨b, off, rfl, hbw, c0⟩ := HCS.out k hlt
      rw [← hb.cell (p := ⟨b, _, none⟩) hbw] at c0
      have HS : Hid ((ws.take (k + 1)).map nuG = ys ++ [nuG (nth [] ws k)]) := by rw [Hid, HY.out, take_nth [] ws k hlt]; simp
      clear hown hb
      go_wp2_with fail
      refine (numGuess_any (nth [] ws k) _ (HG.out.mono HB.out) (HW.out _ (nth_mem [] ws k hlt))).mono ?_
      rintro e w3 ⟨rfl, hb3⟩
      have HO3 : Hid (OwnInt w.heap.size w3 u3 ys) := own_heap HO.out fun g hg => hb3.block g (HO.out.lt g hg).2
      have HB3 : Hid (Below w.heap.size w w3) := below_then HB.out hsz hb3
      have hsz3 := HB3.out.size
      clear hb3 HO HB c0
      go_wp2_with (at_builtin; refine wpList_append_own _ rfl _ _ 23 rfl w.heap.size 3 i0 (.int .i64 0) 1 8 Tryz.underlying23 hi hz0 hz1 hz2 rfl (by decide) _ _ _ rfl (World.ownsRow.alloc HO3.out _) ⟨w3.heap.size, 0, none⟩ 1 1 [.int .i64 (nuG (nth [] ws k))] rfl rfl ?a1 ?a2 ?a3 ?a4 ?a5 ?_)
      case a1 =>
        intro j u hj
        match j, hj with
        | 0, hj => simp at hj; subst hj; simp [Addr.add]
      case a2 => intro u hu; simp at hu; subst hu; rfl
      case a3 => unfold maxLen; omega
      case a4 => omega
      case a5 => simp; omega
      intro v' w4 hown' hgrow _
      have HO4 : Hid (OwnInt w.heap.size w4 v' ((ws.take (k + 1)).map nuG)) := by
        unfold Hid OwnInt; rw [HS.out, List.map_append, List.length_append]; exact hown'
      have HB4 : Hid (Below w.heap.size w w4) := (HB3.out.alloc hsz3 _).grown hgrow (by simp; omega) (fun g hg => (HO3.out.lt g hg).1)
      clear hown' hgrow HO3 HB3 HS
      go_wp2_with fail
      go_roundw
      case rel => exact ⟨k + 1, by omega, by go_num, HO4.out, HB4.out⟩
      case measure => simp [intOf]; omega
    · have hlt' : ¬ (k : Int) < (ws.length : Int) := by omega
      have he : k = ws.length := by omega
      have HO2 : Hid (OwnInt w.heap.size wr u3 (ws.map nuG)) := by have h1 := HY.out; rw [he, List.take_length] at h1; rw [h1] at hown; exact hown
      clear hown hb he HO
      go_wp2_with fail
      go_ret
      exact ⟨_, rfl, HO2.out, HB.out⟩

set_option maxHeartbeats 1000000 in
theorem deedsGuess_any (v : Value) (ws : List (List UInt8)) (w : World) (h : StrsAt w v ws) (hG : Gl w) (hl : ws.length ≤ 1048576) (hw : ∀ x, x ∈ ws → x.length < 4294967281) :
    Calls Tryz.prog 66 #[v] w fun e w' => ∃ v', e = .returned v' ∧ OwnDe w.heap.size w' v' (ws.map deG) ∧ Below w.heap.size w w' := by
  obtain ⟨a, cap, rfl, hm, hc⟩ := h
  obtain ⟨i0, hi, hz0, hz1, hz2⟩ := info_parts Tryz.info_deed
  have HCS := (show Hid (∀ i, i < ws.length → _) from hc)
  have HG := (show Hid (Gl _) from hG)
  have HW := (show Hid (∀ x, x ∈ ws → _) from hw)
  clear hc hG hw
  go_enter Tryz.func66, Tryz.ntmps66
  go_wp2_with fail
  go_loopw [3, 8] (fun o q w' => ∃ k : Nat, k ≤ ws.length ∧ q = .int .i64 k ∧ OwnDe w.heap.size w' o ((ws.take k).map deG) ∧ Below w.heap.size w w') (fun _ q _ => ws.length - (intOf q).toNat)
  case atStart => exact ⟨0, Nat.zero_le _, rfl, World.ownsRow_nil _ _ _ _, Below.refl _ _⟩
  case round =>
    obtain ⟨k, hk, rfl, hown, hb⟩ := hrel
    have HB := (show Hid (Below _ _ _) from hb)
    have hsz := hb.size
    obtain ⟨ys, hys⟩ : ∃ ys, ys = (ws.take k).map deG := ⟨_, rfl⟩
    rw [← hys] at hown
    have HO := (show Hid (OwnDe _ _ _ _) from hown)
    have HY := (show Hid (ys = _) from hys)
    have hlk : ys.length ≤ k := by rw [hys]; simp; omega
    clear hys
    by_cases hlt : k < ws.length
    · have hlt' : (k : Int) < (ws.length : Int) := by omega
      obtain ⟨b, off, rfl, hbw, c0⟩ := HCS.out k hlt
      rw [← hb.cell (p := ⟨b, _, none⟩) hbw] at c0
      have HS : Hid ((ws.take (k + 1)).map deG = ys ++ [deG (nth [] ws k)]) := by rw [Hid, HY.out, take_nth [] ws k hlt]; simp
      clear hown hb
      go_wp2_with fail
      refine (deedGuess_any (nth [] ws k) _ (HG.out.mono HB.out) (HW.out _ (nth_mem [] ws k hlt))).mono ?_
      rintro e w3 ⟨rfl, hb3⟩
      have HO3 : Hid (OwnDe w.heap.size w3 u3 ys) := own_heap HO.out fun g hg => hb3.block g (HO.out.lt g hg).2
      have HB3 : Hid (Below w.heap.size w w3) := below_then HB.out hsz hb3
      have hsz3 := HB3.out.size
      clear hb3 HO HB c0
      go_wp2_with (at_builtin; refine wpList_append_own _ rfl _ _ 42 rfl w.heap.size 79 i0 (.agg #[.int .i64 0, .int .i64 0, .int .i64 0]) 3 24 Tryz.underlying42 hi hz0 hz1 hz2 rfl (by decide) _ _ _ rfl (World.ownsRow.alloc HO3.out _) ⟨w3.heap.size, 0, none⟩ 1 1 [.int .i64 (deG (nth [] ws k)).k, .int .i64 (deG (nth [] ws k)).a, .int .i64 (deG (nth [] ws k)).b] rfl rfl ?a1 ?a2 ?a3 ?a4 ?a5 ?_)
      case a1 =>
        intro j u hj
        match j, hj with
        | 0, hj => simp at hj; subst hj; simp [Addr.add]
        | 1, hj => simp at hj; subst hj; simp [Addr.add]
        | 2, hj => simp at hj; subst hj; simp [Addr.add]
      case a2 => intro u hu; simp at hu; rcases hu with rfl | rfl | rfl <;> rfl
      case a3 => unfold maxLen; omega
      case a4 => omega
      case a5 => simp; omega
      intro v' w4 hown' hgrow _
      have HO4 : Hid (OwnDe w.heap.size w4 v' ((ws.take (k + 1)).map deG)) := by
        unfold Hid OwnDe; rw [HS.out, deCells_snoc, List.length_append]; exact hown'
      have HB4 : Hid (Below w.heap.size w w4) := (HB3.out.alloc hsz3 _).grown hgrow (by simp; omega) (fun g hg => (HO3.out.lt g hg).1)
      clear hown' hgrow HO3 HB3 HS
      go_wp2_with fail
      go_roundw
      case rel => exact ⟨k + 1, by omega, by go_num, HO4.out, HB4.out⟩
      case measure => simp [intOf]; omega
    · have hlt' : ¬ (k : Int) < (ws.length : Int) := by omega
      have he : k = ws.length := by omega
      have HO2 : Hid (OwnDe w.heap.size wr u3 (ws.map deG)) := by have h1 := HY.out; rw [he, List.take_length] at h1; rw [h1] at hown; exact hown
      clear hown hb he HO
      go_wp2_with fail
      go_ret
      exact ⟨_, rfl, HO2.out, HB.out⟩

end Go.Proofs.YtliakmgombpjpaaGreatDoor

/-
  An act is guessed.
-/
namespace Go.Proofs.YtliakmgombpjpaaGreatDoor
open Go.RowKit
set_option linter.unusedSimpArgs false
set_option linter.unusedVariables false

theorem bs_eq (n m : List UInt8) : ((bs n).toList == m) = decide (n = m) := by
  rw [ByteArray.toList_eq, bs_data, Bool.eq_iff_iff]
  simp
theorem map_data (ws : List (List UInt8)) : (ws.map bs).map (·.data.toList) = ws := by
  rw [List.map_map]
  conv => rhs; rw [← List.map_id ws]
  exact List.map_congr_left (fun x _ => bs_data x)
/-- Join, at a blank -/
theorem join_l (v : Value) (ws : List (List UInt8)) (w : World) (h : StrsAt w v ws) (hl : ws.length ≤ 1048576) (hj : (([32] : List UInt8).intercalate ws).length ≤ 140737488355328) :
    Calls Tryz.prog 68 #[v, .string ⟨#[32]⟩] w fun e w' => e = .returned (.string (bs (([32] : List UInt8).intercalate ws))) ∧ Below w.heap.size w w' := by
  obtain ⟨a, cap, rfl, hm, hc⟩ := h
  by_cases h0 : ws.length = 0
  · have h1 : ws = [] := List.eq_nil_of_length_eq_zero h0
    subst h1
    refine (Tryz.strings_Join_none a cap ⟨#[32]⟩ w).mono ?_
    rintro e w' ⟨rfl, rfl⟩
    exact ⟨by simp [List.intercalate, bs], Below.refl _ _⟩
  · obtain ⟨b, off, rfl, hb, _⟩ := hc 0 (by omega)
    have hml : (ws.map bs).length = ws.length := by simp
    have hJ : Lib.join ((ws.map bs).map (·.data.toList)) [32] = ([32] : List UInt8).intercalate ws := by rw [map_data]; rfl
    have := Tryz.strings_Join b off cap (ws.map bs) ⟨#[32]⟩ w (fun j x hx => by
      have hjl : j < ws.length := by
        rcases Nat.lt_or_ge j ws.length with h | h
        · exact h
        · rw [List.getElem?_eq_none (by simpa using h)] at hx; cases hx
      obtain ⟨b', off', e', _, c0⟩ := hc j hjl
      injection e' with e2
      injection e2 with e3 e4
      subst e3 e4
      rw [c0, nth_eq [] ws j hjl]
      simp [hjl] at hx
      rw [hx]) hb (by rw [hml]; omega) (by rw [hml]; omega) (by
        show (Lib.join ((ws.map bs).map (·.data.toList)) [32]).length ≤ _
        rw [hJ]; exact hj)
    rw [hml] at this
    refine this.mono ?_
    rintro e w' ⟨rfl, hb'⟩
    refine ⟨?_, hb'⟩
    show Ending.returned (.string ⟨(Lib.join ((ws.map bs).map (·.data.toList)) [32]).toArray⟩) = _
    rw [hJ]; rfl

set_option maxHeartbeats 2000000 in
theorem actGuess_any (n : List UInt8) (v : Value) (ws : List (List UInt8)) (w : World) (h : StrsAt w v ws) (hG : Gl w) (hl : ws.length ≤ 1048576) (hw : ∀ x, x ∈ ws → x.length < 4294967281) (hj : (([32] : List UInt8).intercalate ws).length ≤ 140737488355328) :
    Calls Tryz.prog 50 #[.string (bs n), v] w fun e w' => ∃ dv kv, e = .returned (.agg #[.int .i64 (acG n ws).k, dv, kv, .int .i64 (acG n ws).r]) ∧ OwnDe (w.heap.size + 1) w' dv (acG n ws).ds ∧ OwnInt (w.heap.size + 1) w' kv (acG n ws).ks ∧ Below w.heap.size w w' := by
  have HS := (show Hid (StrsAt _ _ _) from h)
  have HG := (show Hid (Gl _) from hG)
  have HW := (show Hid (∀ x, x ∈ ws → _) from hw)
  obtain ⟨a, cap, rfl, hm, _⟩ := h
  clear hG hw
  have HS0 : Hid (∀ o, StrsAt (w.alloc o) (.slice a ws.length cap) ws) := fun o => HS.out.mono ((Below.refl _ _).alloc (Nat.le_refl _) _)
  have HG0 : Hid (∀ o, Gl (w.alloc o)) := fun o => HG.out.mono ((Below.refl _ _).alloc (Nat.le_refl _) _)
  have HK0 : Hid (Blk (w.alloc (.cells #[.int .i64 0, .slice none 0 0, .slice none 0 0, .int .i64 0] 44)) w.heap.size 4) := Blk.new w #[.int .i64 0, .slice none 0 0, .slice none 0 0, .int .i64 0] 44
  clear HS HG
  by_cases h1 : n = TRY
  · have q1 : ((bs n).toList == [116, 114, 121]) = true := by rw [bs_eq, h1]; rfl
    have HV : Hid (acG n ws = ⟨1, ws.map deG, [], 0⟩) := by rw [Hid]; unfold acG; rw [if_pos h1]
    clear h1
    go_enter Tryz.func50, Tryz.ntmps50
    go_wp2_with fail
    refine (deedsGuess_any _ ws _ (HS0.out _) (HG0.out _) hl HW.out).mono ?_
    rintro e w2 ⟨dv, rfl, ho2, hb2⟩
    have HO2 : Hid (OwnDe (w.heap.size + 1) w2 dv (ws.map deG)) := by
      have := ho2
      simp at this
      exact this
    have HB2 : Hid (Below w.heap.size w w2) := below_after (Below.refl _ _) (Nat.le_refl _) hb2
    have HK2 := (show Hid (Blk _ _ _) from HK0.out.below hb2)
    have hz2 : w.heap.size < w2.heap.size := by have := hb2.size; simp at this; omega
    clear ho2 hb2 HK0 HS0 HG0
    obtain ⟨ad, kd, e2, _⟩ := own_shape HO2.out
    have e2' : dv = .slice ad ws.length kd := by simpa using e2
    clear e2
    subst e2'
    obtain ⟨⟨u0, f0⟩, g0⟩ := HK2.out.2 0 (by omega)
    obtain ⟨⟨u1, f1⟩, g1⟩ := HK2.out.2 1 (by omega)
    obtain ⟨⟨u2, f2⟩, g2⟩ := HK2.out.2 2 (by omega)
    obtain ⟨⟨u3, f3⟩, g3⟩ := HK2.out.2 3 (by omega)
    go_wp2_with fail
    obtain ⟨i0, i1, i2, i3⟩ := set4_in HK2.out 0 (by omega) (.int .i64 1) (.slice ad ws.length kd) (.slice none 0 0) (.int .i64 0)
    refine bodyPost_ret (v := .agg #[.int .i64 1, (.slice ad ws.length kd), (.slice none 0 0), .int .i64 0]) (by simp [results, Tryz.results50, go_sem, i0, i1, i2, i3]) rfl ⟨(.slice ad ws.length kd), (.slice none 0 0), by rw [HV.out], ?_, ?_, (((HB2.out.setCell (by simp) _).setCell (by simp) _).setCell (by simp) _).setCell (by simp) _⟩
    · rw [HV.out]; exact (ownsRow_setCell_below (ownsRow_setCell_below (ownsRow_setCell_below (ownsRow_setCell_below HO2.out (by simp) _) (by simp) _) (by simp) _) (by simp) _)
    · rw [HV.out]; exact World.ownsRow_nil _ _ _ _
  have q1 : ((bs n).toList == [116, 114, 121]) = false := by rw [bs_eq]; exact decide_eq_false h1
  by_cases h2 : n = FORK
  · have q2 : ((bs n).toList == [102, 111, 114, 107]) = true := by rw [bs_eq, h2]; rfl
    have HV : Hid (acG n ws = ⟨2, [], ws.map nuG, 0⟩) := by rw [Hid]; unfold acG; rw [if_neg h1, if_pos h2]
    clear h1 h2
    go_enter Tryz.func50, Tryz.ntmps50
    go_wp2_with fail
    refine (numsGuess_any _ ws _ (HS0.out _) (HG0.out _) hl (fun x hx => by have := HW.out x hx; omega)).mono ?_
    rintro e w2 ⟨kv, rfl, ho2, hb2⟩
    have HO2 : Hid (OwnInt (w.heap.size + 1) w2 kv (ws.map nuG)) := by
      have := ho2
      simp at this
      exact this
    have HB2 : Hid (Below w.heap.size w w2) := below_after (Below.refl _ _) (Nat.le_refl _) hb2
    have HK2 := (show Hid (Blk _ _ _) from HK0.out.below hb2)
    have hz2 : w.heap.size < w2.heap.size := by have := hb2.size; simp at this; omega
    clear ho2 hb2 HK0 HS0 HG0
    obtain ⟨ad, kd, e2, _⟩ := own_shape HO2.out
    have e2' : kv = .slice ad ws.length kd := by simpa using e2
    clear e2
    subst e2'
    obtain ⟨⟨u0, f0⟩, g0⟩ := HK2.out.2 0 (by omega)
    obtain ⟨⟨u1, f1⟩, g1⟩ := HK2.out.2 1 (by omega)
    obtain ⟨⟨u2, f2⟩, g2⟩ := HK2.out.2 2 (by omega)
    obtain ⟨⟨u3, f3⟩, g3⟩ := HK2.out.2 3 (by omega)
    go_wp2_with fail
    obtain ⟨i0, i1, i2, i3⟩ := set4_in HK2.out 0 (by omega) (.int .i64 2) (.slice none 0 0) (.slice ad ws.length kd) (.int .i64 0)
    refine bodyPost_ret (v := .agg #[.int .i64 2, (.slice none 0 0), (.slice ad ws.length kd), .int .i64 0]) (by simp [results, Tryz.results50, go_sem, i0, i1, i2, i3]) rfl ⟨(.slice none 0 0), (.slice ad ws.length kd), by rw [HV.out], ?_, ?_, (((HB2.out.setCell (by simp) _).setCell (by simp) _).setCell (by simp) _).setCell (by simp) _⟩
    · rw [HV.out]; exact World.ownsRow_nil _ _ _ _
    · rw [HV.out]; exact (ownsRow_setCell_below (ownsRow_setCell_below (ownsRow_setCell_below (ownsRow_setCell_below HO2.out (by simp) _) (by simp) _) (by simp) _) (by simp) _)
  have q2 : ((bs n).toList == [102, 111, 114, 107]) = false := by rw [bs_eq]; exact decide_eq_false h2
  by_cases h3 : n = FAIL
  · have q3 : ((bs n).toList == [102, 97, 105, 108]) = true := by rw [bs_eq, h3]; rfl
    have HV : Hid (acG n ws = ⟨3, [], [], 0⟩) := by rw [Hid]; unfold acG; rw [if_neg h1, if_neg h2, if_pos h3]
    clear h1 h2 h3
    go_enter Tryz.func50, Tryz.ntmps50
    go_wp2_with fail
    refine bodyPost_ret (v := .agg #[.int .i64 3, .slice none 0 0, .slice none 0 0, .int .i64 0]) (by simp [results, Tryz.results50, go_sem]) rfl ⟨.slice none 0 0, .slice none 0 0, by rw [HV.out], by rw [HV.out]; exact World.ownsRow_nil _ _ _ _, by rw [HV.out]; exact World.ownsRow_nil _ _ _ _, (by repeat (first | exact Below.refl _ _ | refine Below.alloc ?_ (by simp; try omega) _ | refine Below.drew ?_ | refine Below.setCell ?_ (by simp; try omega) _))⟩
  have q3 : ((bs n).toList == [102, 97, 105, 108]) = false := by rw [bs_eq]; exact decide_eq_false h3
  by_cases h4 : n = FAILIF
  · have q4 : ((bs n).toList == [102, 97, 105, 108, 105, 102]) = true := by rw [bs_eq, h4]; rfl
    have HV : Hid (acG n ws = ⟨4, [], [], nmG (([32] : List UInt8).intercalate ws) RST⟩) := by rw [Hid]; unfold acG; rw [if_neg h1, if_neg h2, if_neg h3, if_pos h4]
    clear h1 h2 h3 h4
    go_enter Tryz.func50, Tryz.ntmps50
    go_wp2_with fail
    refine (join_l _ ws _ (HS0.out _) hl hj).mono ?_
    rintro e w2 ⟨rfl, hb2⟩
    have HB2 : Hid (Below w.heap.size w w2) := below_after (Below.refl _ _) (Nat.le_refl _) hb2
    have HK2 := (show Hid (Blk _ _ _) from HK0.out.below hb2)
    have hz2 : w.heap.size < w2.heap.size := by have := hb2.size; simp at this; omega
    clear hb2 HK0 HS0 HG0
    generalize hjl : ([32] : List UInt8).intercalate ws = jl at hj HV ⊢
    clear hjl
    obtain ⟨⟨u0, f0⟩, g0⟩ := HK2.out.2 0 (by omega)
    obtain ⟨⟨u1, f1⟩, g1⟩ := HK2.out.2 1 (by omega)
    obtain ⟨⟨u2, f2⟩, g2⟩ := HK2.out.2 2 (by omega)
    obtain ⟨⟨u3, f3⟩, g3⟩ := HK2.out.2 3 (by omega)
    go_wp2_with fail
    refine (nameGuess_any jl RST _ (by omega)).mono ?_
    rintro e w' ⟨rfl, hw⟩
    have hw := hw.symm
    subst hw
    go_wp2_with fail
    obtain ⟨i0, i1, i2, i3⟩ := set4_in HK2.out 0 (by omega) (.int .i64 4) (.slice none 0 0) (.slice none 0 0) (.int .i64 (nmG jl RST))
    refine bodyPost_ret (v := .agg #[.int .i64 4, (.slice none 0 0), (.slice none 0 0), .int .i64 (nmG jl RST)]) (by simp [results, Tryz.results50, go_sem, i0, i1, i2, i3]) rfl ⟨(.slice none 0 0), (.slice none 0 0), by rw [HV.out], ?_, ?_, (((HB2.out.setCell (by simp) _).setCell (by simp) _).setCell (by simp) _).setCell (by simp) _⟩
    · rw [HV.out]; exact World.ownsRow_nil _ _ _ _
    · rw [HV.out]; exact World.ownsRow_nil _ _ _ _
  have q4 : ((bs n).toList == [102, 97, 105, 108, 105, 102]) = false := by rw [bs_eq]; exact decide_eq_false h4
  have HV : Hid (acG n ws = ⟨0, [], [], 0⟩) := by rw [Hid]; unfold acG; rw [if_neg h1, if_neg h2, if_neg h3, if_neg h4]
  clear h1 h2 h3 h4
  go_enter Tryz.func50, Tryz.ntmps50
  go_wp2_with fail
  refine bodyPost_ret (v := .agg #[.int .i64 0, .slice none 0 0, .slice none 0 0, .int .i64 0]) (by simp [results, Tryz.results50, go_sem]) rfl ⟨.slice none 0 0, .slice none 0 0, by rw [HV.out], by rw [HV.out]; exact World.ownsRow_nil _ _ _ _, by rw [HV.out]; exact World.ownsRow_nil _ _ _ _, (by repeat (first | exact Below.refl _ _ | refine Below.alloc ?_ (by simp; try omega) _ | refine Below.drew ?_ | refine Below.setCell ?_ (by simp; try omega) _))⟩

end Go.Proofs.YtliakmgombpjpaaGreatDoor

/-
  Lines and words in memory.
-/
namespace Go.Proofs.YtliakmgombpjpaaGreatDoor
open Go.RowKit
set_option linter.unusedSimpArgs false
set_option linter.unusedVariables false

theorem trim_l (l : List UInt8) (c : UInt8) (w : World) (h : l.length ≤ 9223372036854775807) :
    Calls Tryz.prog 48 #[.string (bs l), .string ⟨#[c]⟩] w fun e w' => e = .returned (.string (bs (Lib.trimSuffix l [c]))) ∧ w' = w := by
  refine (Tryz.strings_TrimSuffix (bs l) ⟨#[c]⟩ w (by rw [bs_size]; exact h)).mono ?_
  rintro e w' ⟨rfl, rfl⟩
  rw [bs_data]
  exact ⟨rfl, rfl⟩
theorem splC_len (c : UInt8) (l : List UInt8) : (splC c l).length ≤ l.length + 1 ∧ ∀ x, x ∈ splC c l → x.length ≤ l.length := by
  induction l with
  | nil => simp [splC]
  | cons x xs ih =>
    rw [splC_step]
    split
    · refine ⟨by simp; omega, fun y hy => ?_⟩
      simp at hy
      rcases hy with rfl | hy
      · simp
      · have := ih.2 y hy; simp; omega
    · cases hs : splC c xs with
      | nil => exact absurd hs (splC_ne c xs)
      | cons y ys =>
        rw [hs] at ih
        refine ⟨by simpa using Nat.le_succ_of_le ih.1, fun z hz => ?_⟩
        simp at hz
        rcases hz with rfl | hz
        · have := ih.2 y (by simp); simp; omega
        · have := ih.2 z (by simp [hz]); simp; omega
theorem split_l (l : List UInt8) (c : UInt8) (w : World) (hG : Gl w) (h : l.length < 4294967281) :
    Calls Tryz.prog 47 #[.string (bs l), .string ⟨#[c]⟩] w fun e w' => e = .returned (.slice (some ⟨w.heap.size, 0, none⟩) (splC c l).length (splC c l).length) ∧ StrsAt w' (.slice (some ⟨w.heap.size, 0, none⟩) (splC c l).length (splC c l).length) (splC c l) ∧ Below w.heap.size w w' := by
  obtain ⟨m, hm⟩ := hG.m
  have hlen := (splC_len c l).1
  have hB : (Lib.splitB ⟨#[c]⟩ 0 (Lib.countB (bs l) ⟨#[c]⟩) (bs l)).map (·.data.toList) = splC c l := by
    rw [Lib.splitB_data, bs_data]
    show Lib.splitK [c] 0 (Lib.count (bs l).data.toList [c]) l = _
    rw [bs_data]
    exact split_one l c
  have hL := Lib.splitB_all ⟨#[c]⟩ (by show 1 ≤ 1; omega) 0 _ (bs l) rfl
  have hN : (splC c l).length = Lib.countB (bs l) ⟨#[c]⟩ + 1 := by rw [← hB, List.length_map, hL]
  refine (Tryz.strings_Split (bs l) ⟨#[c]⟩ m w (by rw [bs_size]; exact h) hm (by show 1 ≤ 1; omega)).mono ?_
  rintro e w' ⟨rfl, rfl⟩
  refine ⟨by rw [hN], ⟨_, _, rfl, ⟨Nat.le_refl _, by omega⟩, fun i hi => ⟨w.heap.size, 0, rfl, by simp, ?_⟩⟩, (Below.refl _ _).alloc (Nat.le_refl _) _⟩
  have hi2 : i < (Lib.splitB ⟨#[c]⟩ 0 (Lib.countB (bs l) ⟨#[c]⟩) (bs l)).length := by rw [hL]; omega
  have hx : nth [] (splC c l) i = ((Lib.splitB ⟨#[c]⟩ 0 (Lib.countB (bs l) ⟨#[c]⟩) (bs l))[i]).data.toList := by
    rw [nth_eq [] _ i hi]
    have : (splC c l)[i]? = ((Lib.splitB ⟨#[c]⟩ 0 (Lib.countB (bs l) ⟨#[c]⟩) (bs l)).map (·.data.toList))[i]? := by rw [hB]
    rw [List.getElem?_eq_getElem hi, List.getElem?_map, List.getElem?_eq_getElem hi2] at this
    simpa using this
  rw [hx, ba_list, Nat.zero_add]
  simp [hi2]

end Go.Proofs.YtliakmgombpjpaaGreatDoor

/-
  A program that is being gathered, in memory: its cells, its bodies, no two of which have their acts in one block.
-/
namespace Go.Proofs.YtliakmgombpjpaaGreatDoor
open Go.RowKit
set_option linter.unusedSimpArgs false
set_option linter.unusedVariables false

/-- no two share a block -/
def Off (x y : Value) : Prop := ∀ g, x.ownBlock = some g → y.ownBlock ≠ some g
/-- the bodies' inner rows: no two in one block, none in the block of the cells -/
def Inn (B : Nat) (w : World) (cv : Value) (L : List (List Ac × Value)) : Prop :=
  ∃ K : List (List (Ac × Value × Value) × Value), K.map (fun x => (x.1.map (·.1), x.2)) = L ∧ (∀ x, x ∈ K → w.ownsRow B 44 4 x.2 x.1.length (acCells x.1)) ∧
    (∀ x, x ∈ K → ∀ y, y ∈ x.1 → OwnDe B w y.2.1 y.1.ds ∧ OwnInt B w y.2.2 y.1.ks) ∧ (K.map (·.1)).flatten.Pairwise (fun x y => Off x.2.1 y.2.1 ∧ Off x.2.2 y.2.2) ∧ ∀ x, x ∈ (K.map (·.1)).flatten → Off cv x.2.2
theorem Inn.keep {B B' : Nat} {w w' : World} {cv : Value} {L : List (List Ac × Value)} (h : Inn B w cv L) (hk : ∀ e size v n xs, (e = 44 ∨ e = 79 ∨ e = 3) → w.ownsRow B e size v n xs → w'.ownsRow B' e size v n xs) : Inn B' w' cv L := by
  obtain ⟨K, e, hr, hi, hp, hc⟩ := h
  exact ⟨K, e, fun x hx => hk _ _ _ _ _ (.inl rfl) (hr x hx), fun x hx y hy => ⟨hk _ _ _ _ _ (.inr (.inl rfl)) (hi x hx y hy).1, hk _ _ _ _ _ (.inr (.inr rfl)) (hi x hx y hy).2⟩, hp, hc⟩
theorem own_uniq {w : World} {B : Nat} {e : TypeId} {size : Nat} {v : Value} {n n' : Nat} {xs xs' : List Value} (h : w.ownsRow B e size v n xs) (h' : w.ownsRow B e size v n' xs') : xs = xs' := by
  have l1 := h.1
  have l2 := h'.1
  rcases h.2 with ⟨rfl, rfl⟩ | ⟨g, cap, cur, rfl, hb, hg, h1, h2, h3, h4⟩
  · rcases h'.2 with ⟨_, rfl⟩ | ⟨g', cap', cur', e', _⟩
    · rw [List.eq_nil_of_length_eq_zero (by omega : xs.length = 0), List.eq_nil_of_length_eq_zero (by omega : xs'.length = 0)]
    · cases e'
  · rcases h'.2 with ⟨e', _⟩ | ⟨g', cap', cur', e', hb', hg', h1', h2', h3', h4'⟩
    · cases e'
    · injection e' with e1 e2 e3
      injection e1 with e1
      injection e1 with e1
      subst e1 e2
      rw [hg] at hg'
      injection hg' with hg'
      injection hg' with hg'
      subst hg'
      rw [← h4, ← h4']
theorem acCells_inj : ∀ (M M' : List (Ac × Value × Value)), acCells M = acCells M' → M.map (·.1) = M'.map (·.1) → M = M'
  | [], [], _, _ => rfl
  | [], y :: ys, _, h => by simp at h
  | x :: xs, [], _, h => by simp at h
  | x :: xs, y :: ys, h, h' => by
    have e1 : ∀ (z : Ac × Value × Value) zs, acCells (z :: zs) = .int .i64 z.1.k :: z.2.1 :: z.2.2 :: .int .i64 z.1.r :: acCells zs := fun z zs => by simp [acCells]
    rw [e1, e1] at h
    simp only [List.map_cons, List.cons.injEq] at h h'
    obtain ⟨_, h2, h3, _, h5⟩ := h
    rw [acCells_inj xs ys h5 h'.2]
    congr 1
    obtain ⟨x1, x2, x3⟩ := x
    obtain ⟨y1, y2, y3⟩ := y
    simp only at h2 h3 h'
    rw [h2, h3, h'.1]

structure PG (B P : Nat) (w0 w : World) (cv bv : Value) (cs : List Int) (L : List (List Ac × Value)) : Prop where
  fr : Fr P B w0 w
  lt : P < B
  le : B ≤ w0.heap.size
  c0 : w.cell? ⟨P, 0, none⟩ = some cv
  c1 : w.cell? ⟨P, 1, none⟩ = some bv
  f0 : w.frozen? ⟨P, 0, none⟩ = false
  f1 : w.frozen? ⟨P, 1, none⟩ = false
  cells : OwnInt B w cv cs
  row : w.ownsRow B 41 1 bv L.length (L.map (·.2))
  acts : ∀ x, x ∈ L → OwnActs B w x.2 x.1
  apart : L.Pairwise (fun x y => x.2.ownBlock = none ∨ x.2.ownBlock ≠ y.2.ownBlock)
  inner : Inn B w cv L
theorem PG.size {B P : Nat} {w0 w : World} {cv bv : Value} {cs : List Int} {L : List (List Ac × Value)} (h : PG B P w0 w cv bv cs L) : B ≤ w.heap.size := Nat.le_trans h.le h.fr.size
theorem own_new {C : Nat} {w w' : World} {B : Nat} {e : TypeId} {size : Nat} {v : Value} {n : Nat} {xs : List Value} (h : w.ownsRow B e size v n xs) (hb : Below w.heap.size w w') : w'.ownsRow B e size v n xs :=
  own_heap h fun g hg => hb.block g (h.lt g hg).2
theorem OwnActs.new {B : Nat} {w w' : World} {v : Value} {acts : List Ac} (h : OwnActs B w v acts) (hb : Below w.heap.size w w') : OwnActs B w' v acts := by
  obtain ⟨L, rfl, hr, hi⟩ := h
  exact ⟨L, rfl, own_heap hr fun g hg => hb.block g (hr.lt g hg).2, fun x hx => ⟨own_heap (hi x hx).1 fun g hg => hb.block g ((hi x hx).1.lt g hg).2, own_heap (hi x hx).2 fun g hg => hb.block g ((hi x hx).2.lt g hg).2⟩⟩
/-- what only makes memory -/
theorem PG.next {B P : Nat} {w0 w w' : World} {cv bv : Value} {cs : List Int} {L : List (List Ac × Value)} (h : PG B P w0 w cv bv cs L) (hb : Below w.heap.size w w') : PG B P w0 w' cv bv cs L := by
  have hP : P < w.heap.size := Nat.lt_of_lt_of_le h.lt h.size
  exact ⟨h.fr.trans (Fr.of_below (hb.mono h.size)), h.lt, h.le, by rw [hb.cell (p := ⟨P, 0, none⟩) hP]; exact h.c0, by rw [hb.cell (p := ⟨P, 1, none⟩) hP]; exact h.c1, by rw [hb.frozen (p := ⟨P, 0, none⟩) hP]; exact h.f0, by rw [hb.frozen (p := ⟨P, 1, none⟩) hP]; exact h.f1,
    own_heap h.cells fun g hg => hb.block g (h.cells.lt g hg).2, own_heap h.row fun g hg => hb.block g (h.row.lt g hg).2, fun x hx => (h.acts x hx).new hb, h.apart, h.inner.keep fun e s v n xs _ h => own_heap h fun g hg => hb.block g (h.lt g hg).2⟩
theorem OwnActs.setLow {B : Nat} {w : World} {v : Value} {acts : List Ac} (h : OwnActs B w v acts) {a : Addr} (ha : a.block < B) (u : Value) : OwnActs B (w.setCell a u) v acts := by
  obtain ⟨L, rfl, hr, hi⟩ := h
  exact ⟨L, rfl, ownsRow_setCell_below hr ha u, fun x hx => ⟨ownsRow_setCell_below (hi x hx).1 ha u, ownsRow_setCell_below (hi x hx).2 ha u⟩⟩
/-- other cells, made anew -/
theorem PG.setCells {B P : Nat} {w0 w w' : World} {cv bv cv' : Value} {cs cs' : List Int} {L : List (List Ac × Value)} (h0 : PG B P w0 w cv bv cs L) (hb : Below w.heap.size w w') (hc' : OwnInt w.heap.size w' cv' cs') : PG B P w0 (w'.setCell ⟨P, 0, none⟩ cv') cv' bv cs' L := by
  have h := h0.next hb
  have hc : OwnInt B w' cv' cs' := own_base hc' h0.size
  have hl := h.lt
  refine ⟨h.fr.setCell (.inr rfl) _, h.lt, h.le, World.cell?_setCell_same w' ⟨P, 0, none⟩ _ h.c0, by rw [World.cell?_setCell_other w' ⟨P, 0, none⟩ ⟨P, 1, none⟩ _ (by intro e; injection e; omega)]; exact h.c1, by simpa using h.f0, by simpa using h.f1,
    ownsRow_setCell_below hc hl _, ownsRow_setCell_below h.row hl _, fun x hx => (h.acts x hx).setLow hl _, h.apart, ?_⟩
  obtain ⟨K, e, hr, hi, hp, _⟩ := h0.inner
  have hI : Inn B w cv' L := ⟨K, e, hr, hi, hp, fun y hy g hg hg' => by
    obtain ⟨l, hl1, hl2⟩ := List.mem_flatten.1 hy
    obtain ⟨x, hx, rfl⟩ := List.mem_map.1 hl1
    have := ((hi x hx y hl2).2.lt g hg').2
    have := (hc'.lt g hg).1
    omega⟩
  exact hI.keep fun e s v n xs _ h => ownsRow_setCell_below (own_heap h fun g hg => hb.block g (h.lt g hg).2) hl _
/-- a body more -/
theorem PG.addBody {B P : Nat} {w0 w w' : World} {cv bv bv' : Value} {cs : List Int} {L : List (List Ac × Value)} (h : PG B P w0 w cv bv cs L) (ho : w'.ownsRow B 41 1 bv' (L.length + 1) (L.map (·.2) ++ [.slice none 0 0])) (hg : w.grownBy w' bv.ownBlock) :
    PG B P w0 (w'.setCell ⟨P, 1, none⟩ bv') cv bv' cs (L ++ [([], .slice none 0 0)]) := by
  have hl := h.lt
  have T := TagKept.grown h.row hg
  have hge : ∀ k, bv.ownBlock = some k → B ≤ k := fun k hk => (h.row.lt k hk).1
  have hP : P < w.heap.size := Nat.lt_of_lt_of_le h.lt h.size
  have hPb : some P ≠ bv.ownBlock := fun e => by have := hge P e.symm; omega
  have hc0 : w'.cell? ⟨P, 0, none⟩ = some cv := (World.cell?_of_block (w := w) (hg.block P hP hPb)).trans h.c0
  have hc1 : w'.cell? ⟨P, 1, none⟩ = some bv := (World.cell?_of_block (w := w) (hg.block P hP hPb)).trans h.c1
  have hf0 : w'.frozen? ⟨P, 0, none⟩ = false := (World.frozen?_of_block (w := w) (hg.block P hP hPb)).trans h.f0
  have hf1 : w'.frozen? ⟨P, 1, none⟩ = false := (World.frozen?_of_block (w := w) (hg.block P hP hPb)).trans h.f1
  refine ⟨(h.fr.grown hg h.size hge).setCell (.inr rfl) _, h.lt, h.le, by rw [World.cell?_setCell_other w' ⟨P, 1, none⟩ ⟨P, 0, none⟩ _ (by intro e; injection e; omega)]; exact hc0, World.cell?_setCell_same w' ⟨P, 1, none⟩ _ hc1, by simpa using hf0, by simpa using hf1,
    ownsRow_setCell_below (own_tag h.cells T (by decide)) hl _, by rw [List.length_append, List.map_append]; exact ownsRow_setCell_below ho hl _, fun x hx => ?_, ?_, ?_⟩
  · rcases List.mem_append.1 hx with h1 | h1
    · exact ((h.acts x h1).tag T (by decide) (by decide) (by decide)).setLow hl _
    · simp at h1; subst h1
      exact ⟨[], rfl, World.ownsRow_nil _ _ _ _, fun y hy => by cases hy⟩
  · rw [List.pairwise_append]
    refine ⟨h.apart, List.pairwise_singleton _ _, fun x hx y hy => ?_⟩
    simp at hy; subst hy
    cases hb : x.2.ownBlock with
    | none => exact .inl rfl
    | some g => exact .inr (by simp [Value.ownBlock])
  · have hI : Inn B w cv (L ++ [([], .slice none 0 0)]) := by
      obtain ⟨K, e, hr, hi, hp, hc⟩ := h.inner
      refine ⟨K ++ [([], .slice none 0 0)], by simp [e], fun x hx => ?_, fun x hx y hy => ?_, by simpa using hp, by simpa using hc⟩
      · rcases List.mem_append.1 hx with h1 | h1
        · exact hr x h1
        · simp at h1; subst h1; exact World.ownsRow_nil _ _ _ _
      · rcases List.mem_append.1 hx with h1 | h1
        · exact hi x h1 y hy
        · simp at h1; subst h1; cases hy
    exact hI.keep fun e s v n xs he h => ownsRow_setCell_below (own_tag h T (by rcases he with rfl | rfl | rfl <;> decide)) hl _
/-- an act more, in the last body -/
theorem PG.addAct {B P : Nat} {w0 wo w w' : World} {cv av av' dv kv : Value} {gb n cap : Nat} {cs : List Int} {L : List (List Ac × Value)} {M : List (Ac × Value × Value)} {a : Ac} (h0 : PG B P w0 wo cv (.slice (some ⟨gb, 0, none⟩) n cap) cs (L ++ [(M.map (·.1), av)]))
    (hM : w.ownsRow B 44 4 av M.length (acCells M)) (hMi : ∀ x, x ∈ M → OwnDe B w x.2.1 x.1.ds ∧ OwnInt B w x.2.2 x.1.ks)
    (hbo : Below wo.heap.size wo w) (hdo : OwnDe wo.heap.size w dv a.ds) (hko : OwnInt wo.heap.size w kv a.ks)
    (ho : w'.ownsRow B 44 4 av' (M.length + 1) (acCells M ++ [.int .i64 a.k, dv, kv, .int .i64 a.r])) (hg : w.grownBy w' av.ownBlock) (hb : av'.ownBlock = av.ownBlock ∨ av'.ownBlock = some w.heap.size) :
    PG B P w0 (w'.setCell ⟨gb, L.length, none⟩ av') cv (.slice (some ⟨gb, 0, none⟩) n cap) cs (L ++ [(M.map (·.1) ++ [a], av')]) := by
  have h := h0.next hbo
  have hd : OwnDe B w dv a.ds := own_base hdo h0.size
  have hk : OwnInt B w kv a.ks := own_base hko h0.size
  have hl := h.lt
  have T := TagKept.grown hM hg
  have hge : ∀ k, av.ownBlock = some k → B ≤ k := fun k hk' => (hM.lt k hk').1
  have hP : P < w.heap.size := Nat.lt_of_lt_of_le h.lt h.size
  have hPb : some P ≠ av.ownBlock := fun e => by have := hge P e.symm; omega
  have hgb := h.row.lt gb rfl
  have hn : n = (L ++ [(M.map (·.1), av)]).length := by
    obtain ⟨_, _, e, _⟩ := own_shape h.row
    injection e
  have hrow' : w'.ownsRow B 41 1 (.slice (some ⟨gb, 0, none⟩) n cap) (L ++ [(M.map (·.1), av)]).length ((L ++ [(M.map (·.1), av)]).map (·.2)) := own_tag h.row T (by decide)
  obtain ⟨cur, hcur⟩ : ∃ cur, w'.heap[gb]? = some (.cells cur 41 (0, 0)) := by
    rcases hrow'.2 with ⟨e, _⟩ | ⟨g, c, cur, e, _, hg', _⟩
    · cases e
    · injection e with e1
      injection e1 with e2
      injection e2 with e3
      subst e3
      exact ⟨cur, hg'⟩
  have T2 : TagKept 41 w' (w'.setCell ⟨gb, L.length, none⟩ av') := TagKept.set hcur
  have hPg : P ≠ gb := by omega
  have hc0 : w'.cell? ⟨P, 0, none⟩ = some cv := (World.cell?_of_block (w := w) (hg.block P hP hPb)).trans h.c0
  have hc1 : w'.cell? ⟨P, 1, none⟩ = some (.slice (some ⟨gb, 0, none⟩) n cap) := (World.cell?_of_block (w := w) (hg.block P hP hPb)).trans h.c1
  have hf0 : w'.frozen? ⟨P, 0, none⟩ = false := (World.frozen?_of_block (w := w) (hg.block P hP hPb)).trans h.f0
  have hf1 : w'.frozen? ⟨P, 1, none⟩ = false := (World.frozen?_of_block (w := w) (hg.block P hP hPb)).trans h.f1
  have hne : ∀ o, (⟨P, o, none⟩ : Addr) ≠ ⟨gb, L.length, none⟩ := fun o e => hPg (by injection e)
  obtain ⟨hap1, _, hap2⟩ := List.pairwise_append.1 h.apart
  refine ⟨(h.fr.grown hg h.size hge).setCell (.inl hgb.1) _, h.lt, h.le, by rw [cell_set_other _ _ _ _ _ (hne 0)]; exact hc0, by rw [cell_set_other _ _ _ _ _ (hne 1)]; exact hc1, by simpa using hf0, by simpa using hf1,
    own_tag (own_tag h.cells T (by decide)) T2 (by decide), ?_, fun x hx => ?_, ?_, ?_⟩
  · subst hn
    have h1 := (World.ownsRow.stored hrow' L.length av').1
    have e1 : ((L ++ [(M.map (·.1), av)]).map (·.2)).set L.length av' = (L ++ [(M.map (·.1) ++ [a], av')]).map (·.2) := by simp
    rw [e1] at h1
    simpa using h1
  · rcases List.mem_append.1 hx with h1 | h1
    · have hx2 := h.acts x (List.mem_append.2 (.inl h1))
      obtain ⟨L', e, hr, hi⟩ := hx2
      have hnb : x.2.ownBlock = none ∨ x.2.ownBlock ≠ av.ownBlock := hap2 x h1 (M.map (·.1), av) (by simp)
      have hr' : w'.ownsRow B 44 4 x.2 L'.length (acCells L') := World.ownsRow.kept hr hg hnb
      have hA : OwnActs B w' x.2 x.1 := ⟨L', e, hr', fun y hy => ⟨own_tag (hi y hy).1 T (by decide), own_tag (hi y hy).2 T (by decide)⟩⟩
      exact hA.tag T2 (by decide) (by decide) (by decide)
    · simp at h1; subst h1
      exact (act_snoc hM hMi hd hk ho hg).tag T2 (by decide) (by decide) (by decide)
  · rw [List.pairwise_append]
    refine ⟨hap1, List.pairwise_singleton _ _, fun x hx y hy => ?_⟩
    simp at hy; subst hy
    have h2 := hap2 x hx (M.map (·.1), av) (by simp)
    rcases h2 with h2 | h2
    · exact .inl h2
    · rcases hb with hb | hb
      · right; rw [hb]; exact h2
      · right
        intro e
        rw [hb] at e
        obtain ⟨L', _, hr, _⟩ := h.acts x (List.mem_append.2 (.inl hx))
        have := (hr.lt _ e).2
        omega
  · obtain ⟨K, eK, hr, hi, hp, hc⟩ := h0.inner
    obtain ⟨K0, K1, rfl, e0, e1⟩ := List.map_eq_append_iff.1 eK
    obtain ⟨x0, rfl, e2⟩ := List.map_eq_singleton_iff.1 e1
    obtain ⟨M', v0⟩ := x0
    simp only [Prod.mk.injEq] at e2
    obtain ⟨e2, rfl⟩ := e2
    have hr0 := hr (M', v0) (by simp)
    have hM0 : M' = M := acCells_inj M' M (own_uniq (own_heap hr0 fun g hg => hbo.block g (hr0.lt g hg).2) hM) e2
    subst hM0
    have hfl : ((K0 ++ [(M' ++ [(a, dv, kv)], av')]).map (·.1)).flatten = ((K0 ++ [(M', v0)]).map (·.1)).flatten ++ [(a, dv, kv)] := by simp
    have hold : ∀ y, y ∈ ((K0 ++ [(M', v0)]).map (·.1)).flatten → OwnDe B wo y.2.1 y.1.ds ∧ OwnInt B wo y.2.2 y.1.ks := fun y hy => by
      obtain ⟨l, hl1, hl2⟩ := List.mem_flatten.1 hy
      obtain ⟨x, hx, rfl⟩ := List.mem_map.1 hl1
      exact hi x hx y hl2
    have hN : ∀ {e s v n xs}, wo.ownsRow B e s v n xs → w.ownsRow B e s v n xs := fun h => own_heap h fun g hg => hbo.block g (h.lt g hg).2
    refine ⟨K0 ++ [(M' ++ [(a, dv, kv)], av')], by simp [e0], fun x hx => ?_, fun x hx y hy => ?_, ?_, ?_⟩
    · rcases List.mem_append.1 hx with h1 | h1
      · have hnb : x.2.ownBlock = none ∨ x.2.ownBlock ≠ v0.ownBlock := hap2 (x.1.map (·.1), x.2) (by rw [← e0]; exact List.mem_map.2 ⟨x, h1, rfl⟩) (M'.map (·.1), v0) (by simp)
        exact own_tag (World.ownsRow.kept (hN (hr x (by simp [h1]))) hg hnb) T2 (by decide)
      · simp at h1; subst h1
        have := own_tag ho T2 (by decide)
        rw [acCells_snoc]
        simpa using this
    · rcases List.mem_append.1 hx with h1 | h1
      · have := hi x (by simp [h1]) y hy
        exact ⟨own_tag (own_tag (hN this.1) T (by decide)) T2 (by decide), own_tag (own_tag (hN this.2) T (by decide)) T2 (by decide)⟩
      · simp at h1; subst h1
        rcases List.mem_append.1 hy with h2 | h2
        · have := hi (M', v0) (by simp) y h2
          exact ⟨own_tag (own_tag (hN this.1) T (by decide)) T2 (by decide), own_tag (own_tag (hN this.2) T (by decide)) T2 (by decide)⟩
        · simp at h2; subst h2
          exact ⟨own_tag (own_tag hd T (by decide)) T2 (by decide), own_tag (own_tag hk T (by decide)) T2 (by decide)⟩
    · rw [hfl, List.pairwise_append]
      refine ⟨hp, List.pairwise_singleton _ _, fun x hx y hy => ?_⟩
      simp at hy; subst hy
      exact ⟨fun g h1 h2 => by have := ((hold x hx).1.lt g h1).2; have := (hdo.lt g h2).1; omega, fun g h1 h2 => by have := ((hold x hx).2.lt g h1).2; have := (hko.lt g h2).1; omega⟩
    · rw [hfl]
      intro x hx
      rcases List.mem_append.1 hx with h1 | h1
      · exact hc x h1
      · simp at h1; subst h1
        exact fun g h1 h2 => by have := (h0.cells.lt g h1).2; have := (hko.lt g h2).1; omega

end Go.Proofs.YtliakmgombpjpaaGreatDoor
