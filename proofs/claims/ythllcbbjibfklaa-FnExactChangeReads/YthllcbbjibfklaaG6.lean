/-
  The walk of FnExactChangeReads.
-/
import Derived.Test.YthllcbbjibfklaaE3
import Derived.Test.YthllcbbjibfklaaG5
namespace Go.Proofs.Ythllcbbjibfklaa
open Go.RowKit
set_option linter.unusedSimpArgs false
set_option linter.unusedVariables false
set_option maxRecDepth 20000

set_option maxHeartbeats 4000000 in
theorem exactChangeReads_walk (ds : List De) (dv : Value) (w : World) (hd : DeedsAt w dv ds) :
    Calls Try.prog 7 #[dv] w fun r w' => r = .returned (.bool true) ∧ Below w.heap.size w w' := by
  obtain ⟨ad, cd, rfl, hmd⟩ := hd.shape
  have HD := (show Hid (DeedsAt _ _ _) from hd)
  have h3 : (chR ds).length ≤ 3 := srt_len _
  clear hd
  go_enter Try.func7, Try.ntmps7
  go_wp2_with fail
  refine (szDeedS_any _ _ _ 1048576 _ hmd (by omega) (by omega)).mono ?_
  rintro e w1 ⟨q, rfl, q1, q2, q3, hw⟩
  have hw := hw.symm
  subst hw
  by_cases hneg : q < 0
  · go_wp2_with fail
    go_ret
    exact ⟨rfl, Below.refl _ _⟩
  have hsm := q3 (by omega)
  clear q3
  go_wp2_with fail
  refine (toDeedS_any _ ds _ HD.out hsm).mono ?_
  rintro e w2 ⟨v2, rfl, h2, hb2⟩
  obtain ⟨a2, k2, rfl, _⟩ := h2.shape
  have H2 : Hid (DeedsAt w2 _ ds) := h2.at
  have HB2 := (show Hid (Below _ _ _) from hb2)
  clear h2 hb2
  go_wp2_with fail
  refine (sChangeReads_any _ ds _ H2.out hsm).mono ?_
  rintro e w3 ⟨sv, rfl, hs3, hb3⟩
  obtain ⟨asv, ks, rfl, _⟩ := own_shape hs3
  have HB3 : Hid (Below w.heap.size w w3) := below_then HB2.out HB2.out.size hb3
  have HS3 : Hid (OwnInt w.heap.size w3 _ (chR ds)) := own_base hs3 HB2.out.size
  clear hb3 HB2 H2 hs3
  go_wp2_with fail
  refine (toDeedS_blk _ ds _ (HD.out.mono HB3.out) hsm).mono ?_
  rintro e w4 ⟨rfl, hx4, hk4, hb4⟩
  have HX4 := (show Hid (DeedsAt _ _ _) from hx4)
  have HK4 := (show Hid (Blk _ _ _) from hk4)
  have HB4 : Hid (Below w.heap.size w w4) := below_then HB3.out HB3.out.size hb4
  have HS4 : Hid (OwnInt w.heap.size w4 _ (chR ds)) := own_below HS3.out hb4 (Nat.le_refl _)
  have HLT : Hid (∀ g, (Value.slice asv (chR ds).length ks).ownBlock = some g → g < w3.heap.size) := fun g hg => (HS3.out.lt g hg).2
  have h34 : w3.heap.size < w4.heap.size := hk4.1
  have h03 : w.heap.size ≤ w3.heap.size := HB3.out.size
  clear hx4 hk4 hb4 HS3 HB3
  go_wp2_with fail
  refine (changeReads_any _ ds _ HX4.out).mono ?_
  rintro e w5 ⟨gv, rfl, hg5, hb5⟩
  obtain ⟨ag, kg, rfl, _⟩ := own_shape hg5
  have HLG : Hid (∀ g, (Value.slice ag (chR ds).length kg).ownBlock = some g → w4.heap.size ≤ g) := fun g hg => (hg5.lt g hg).1
  have HG5 : Hid (OwnInt w.heap.size w5 _ (chR ds)) := own_base hg5 HB4.out.size
  have HX5 := (show Hid (DeedsAt _ _ _) from HX4.out.mono hb5)
  have HK5 := (show Hid (Blk _ _ _) from HK4.out.below hb5)
  have HS5 : Hid (OwnInt w.heap.size w5 _ (chR ds)) := own_below HS4.out hb5 (Nat.le_refl _)
  have HB5 : Hid (Below w.heap.size w w5) := below_then HB4.out HB4.out.size hb5
  clear hg5 hb5 HX4 HK4 HS4 HB4
  go_wp2_with fail
  refine (eqIntS_same _ _ (chR ds) _ HG5.out.at HS5.out.at).mono ?_
  rintro e w6 ⟨rfl, hb6⟩
  have HG6 : Hid (OwnInt w.heap.size w6 _ (chR ds)) := own_below HG5.out hb6 (Nat.le_refl _)
  have HX6 := (show Hid (DeedsAt _ _ _) from HX5.out.mono hb6)
  have HK6 := (show Hid (Blk _ _ _) from HK5.out.below hb6)
  have HS6 : Hid (OwnInt w.heap.size w6 _ (chR ds)) := own_below HS5.out hb6 (Nat.le_refl _)
  have HB6 : Hid (Below w.heap.size w w6) := below_then HB5.out HB5.out.size hb6
  clear hb6 HG5 HX5 HK5 HS5 HB5
  go_wp2_with fail
  refine (toDeedS_any _ ds _ (HD.out.mono HB6.out) hsm).mono ?_
  rintro e w7 ⟨v7, rfl, h7, hb7⟩
  obtain ⟨a7, k7, rfl, _⟩ := h7.shape
  have H7 : Hid (DeedsAt w7 _ ds) := h7.at
  have HG7 : Hid (OwnInt w.heap.size w7 _ (chR ds)) := own_below HG6.out hb7 (Nat.le_refl _)
  have HX7 := (show Hid (DeedsAt _ _ _) from HX6.out.mono hb7)
  have HK7 := (show Hid (Blk _ _ _) from HK6.out.below hb7)
  have HS7 : Hid (OwnInt w.heap.size w7 _ (chR ds)) := own_below HS6.out hb7 (Nat.le_refl _)
  have HB7 : Hid (Below w.heap.size w w7) := below_then HB6.out HB6.out.size hb7
  clear h7 hb7 HG6 HX6 HK6 HS6 HB6
  go_wp2_with fail
  refine (eqDeedS_same _ _ ds _ HX7.out H7.out).mono ?_
  rintro e w8 ⟨rfl, hb8⟩
  have HG8 : Hid (OwnInt w.heap.size w8 _ (chR ds)) := own_below HG7.out hb8 (Nat.le_refl _)
  have HK8 := (show Hid (Blk _ _ _) from HK7.out.below hb8)
  have HS8 : Hid (OwnInt w.heap.size w8 _ (chR ds)) := own_below HS7.out hb8 (Nat.le_refl _)
  have HB8 : Hid (Below w.heap.size w w8) := below_then HB7.out HB7.out.size hb8
  clear hb8 H7 HG7 HX7 HK7 HS7 HB7
  go_wp2_with fail
  refine (markDeedS_at _ _ _ 1 _ HK8.out (by omega) (by omega)).mono ?_
  rintro e w9 ⟨rfl, hf9⟩
  have HG9 : Hid (OwnInt w.heap.size w9 _ (chR ds)) := HG8.out.frS hf9 (fun g hg e => by have := HLG.out g hg; omega)
  have HS9 : Hid (OwnInt w.heap.size w9 _ (chR ds)) := HS8.out.frS hf9 (fun g hg e => by have := HLT.out g hg; omega)
  have HB9 : Hid (Below w.heap.size w w9) := HB8.out.trans (hf9.below (fun k hk => by omega) HB8.out.size)
  clear hf9 HG8 HS8 HB8 HK8
  go_wp2_with fail
  refine (eqIntS_same _ _ (chR ds) _ HG9.out.at HS9.out.at).mono ?_
  rintro e w10 ⟨rfl, hb10⟩
  have HG10 : Hid (OwnInt w.heap.size w10 _ (chR ds)) := own_below HG9.out hb10 (Nat.le_refl _)
  have HS10 : Hid (OwnInt w.heap.size w10 _ (chR ds)) := own_below HS9.out hb10 (Nat.le_refl _)
  have HB10 : Hid (Below w.heap.size w w10) := below_then HB9.out HB9.out.size hb10
  clear hb10 HG9 HS9 HB9
  go_wp2_with fail
  refine (markOwn w.heap.size _ (chR ds) 1 _ HG10.out (by omega) (by omega)).mono ?_
  rintro e w11 ⟨rfl, ho11, hf11⟩
  have HM11 := (show Hid (OwnInt _ _ _ (marks 1 (chR ds).length)) from ho11)
  have HS11 : Hid (OwnInt w.heap.size w11 _ (chR ds)) := HS10.out.frS hf11 (fun g hg e => by have := HLT.out g hg; have := HLG.out g e; omega)
  have HB11 : Hid (Below w.heap.size w w11) := HB10.out.trans (hf11.below (fun k hk => (HG10.out.lt k hk).1) HB10.out.size)
  clear ho11 hf11 HG10 HS10 HB10
  go_wp2_with fail
  refine (heldIntS_any _ 1 (chR ds).length _ HM11.out.at (by omega) (by omega)).mono ?_
  rintro e w' ⟨rfl, hw⟩
  have hw := hw.symm
  subst hw
  go_wp2_with fail
  refine (toDeedS_any _ ds _ (HD.out.mono HB11.out) hsm).mono ?_
  rintro e w12 ⟨v12, rfl, h12, hb12⟩
  obtain ⟨a12, k12, rfl, _⟩ := h12.shape
  have H12 : Hid (DeedsAt w12 _ ds) := h12.at
  have HM12 := (show Hid (OwnInt _ _ _ (marks 1 (chR ds).length)) from own_below HM11.out hb12 (Nat.le_refl _))
  have HS12 : Hid (OwnInt w.heap.size w12 _ (chR ds)) := own_below HS11.out hb12 (Nat.le_refl _)
  have HB12 : Hid (Below w.heap.size w w12) := below_then HB11.out HB11.out.size hb12
  clear h12 hb12 HM11 HS11 HB11
  go_wp2_with fail
  refine (changeReads_any _ ds _ H12.out).mono ?_
  rintro e w13 ⟨hv, rfl, hh13, hb13⟩
  obtain ⟨ah, kh, rfl, _⟩ := own_shape hh13
  have HH13 := (show Hid (OwnInt _ _ _ _) from hh13)
  have HM13 := (show Hid (OwnInt _ _ _ (marks 1 (chR ds).length)) from own_below HM12.out hb13 (Nat.le_refl _))
  have HS13 : Hid (OwnInt w.heap.size w13 _ (chR ds)) := own_below HS12.out hb13 (Nat.le_refl _)
  have HB13 : Hid (Below w.heap.size w w13) := below_then HB12.out HB12.out.size hb13
  clear hh13 hb13 H12 HM12 HS12 HB12
  go_wp2_with fail
  refine (eqIntS_same _ _ (chR ds) _ HH13.out.at HS13.out.at).mono ?_
  rintro e w14 ⟨rfl, hb14⟩
  have HM14 := (show Hid (OwnInt _ _ _ (marks 1 (chR ds).length)) from own_below HM13.out hb14 (Nat.le_refl _))
  have HB14 : Hid (Below w.heap.size w w14) := below_then HB13.out HB13.out.size hb14
  clear hb14 HH13 HM13 HS13 HB13
  go_wp2_with fail
  refine (heldIntS_any _ 1 (chR ds).length _ HM14.out.at (by omega) (by omega)).mono ?_
  rintro e w' ⟨rfl, hw⟩
  have hw := hw.symm
  subst hw
  go_wp2_with fail
  go_ret
  exact ⟨rfl, HB14.out⟩

end Go.Proofs.Ythllcbbjibfklaa
