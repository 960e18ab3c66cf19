/-
  The walk of FnExactLogReplay (by mkb5.py).
-/
import Derived.Test.YtdgihncobihbgaaB4
import Derived.Test.YtdgihncobihbgaaY1c
import Derived.Test.YtdgihncobihbgaaY2
import Derived.Test.YtdgihncobihbgaaY3
import Derived.Test.YtdgihncobihbgaaZ4
namespace Go.Proofs.Ytdgihncobihbgaa
open Go.RowKit
set_option linter.unusedSimpArgs false
set_option linter.unusedVariables false
set_option maxRecDepth 20000

theorem rpR_len (cs : List Int) (es : List En) : ((rpO cs es).getD []).length ≤ cs.length := by
  cases h : rpO cs es with
  | none => simp
  | some c => simp [rpO_len h]
theorem wrT_belowL {B : Nat} {w w' : World} (h : Below B w w') {A : List Addr} (hA : ∀ a, a ∈ A → B ≤ a.block) (k : Int) : Below B w (wrT w' A k) := by
  induction A generalizing w' k with
  | nil => exact h
  | cons a A ih => exact ih (h.setCell (hA a (by simp)) _) (fun b hb => hA b (by simp [hb])) (k + 1)

set_option maxHeartbeats 8000000 in
theorem exactLogReplay_walk (cs : List Int) (es : List En) (cv ev : Value) (w : World) (hc : IntsAt w cv cs) (he : EnsAt w ev es) :
    Calls Try.prog 5 #[cv, ev] w fun r w' => r = .returned (.bool true) ∧ Below w.heap.size w w' := by
  obtain ⟨ac, cc, rfl, hmc⟩ := hc.shape
  obtain ⟨ae, ce, rfl, hme⟩ := he.shape
  have HC := (show Hid (IntsAt _ _ _) from hc)
  have HE := (show Hid (EnsAt _ _ _) from he)
  clear hc he
  by_cases hbig : 1048576 < cs.length
  · have hbig' : (1048576 : Int) < (cs.length : Int) := by omega
    go_enter Try.func5, Try.ntmps5
    go_wp2_with fail
    go_ret
    exact ⟨rfl, Below.refl _ _⟩
  have hbig' : ¬ (1048576 : Int) < (cs.length : Int) := by omega
  have hn : cs.length ≤ 1048576 := by omega
  obtain ⟨R, hR⟩ : ∃ R, R = (rpO cs es).getD [] := ⟨_, rfl⟩
  obtain ⟨bb, hbb⟩ : ∃ bb, bb = (rpO cs es).isSome := ⟨_, rfl⟩
  have HRR := (show Hid (_ = _) from hR)
  have HBB := (show Hid (_ = _) from hbb)
  have hRl : R.length ≤ 1048576 := by rw [hR]; exact Nat.le_trans (rpR_len _ _) hn
  have hbe : (bb == bb) = true := by simp
  clear hR hbb hbig
  go_enter Try.func5, Try.ntmps5
  go_wp2_with fail
  refine (szEntryS_th _ es 1048576 _ HE.out (by omega) (by omega)).mono ?_
  rintro e w1 ⟨q, rfl, q1, q2, q3, hb1⟩
  have HB1 := (show Hid (Below _ _ _) from hb1)
  clear hb1
  by_cases hneg : q < 0
  · clear q3
    go_wp2_with fail
    go_ret
    exact ⟨rfl, HB1.out⟩
  have hsm := q3 (by omega)
  have HSM := (show Hid (SmsEn _) from hsm)
  have hlen : es.length ≤ 1048576 := hsm.1
  clear q3 hsm
  go_wp2_with fail
  refine (toIntS_th _ cs _ (HC.out.mono HB1.out) hn).mono ?_
  rintro e w2 ⟨tiv, rfl, ho, hb, hz⟩
  obtain ⟨tia, tic, rfl, _⟩ := ho.shape
  have HTI0 := (show Hid (IntsAt _ _ _) from ho.at)
  clear ho hz
  have hq := hb
  have HB2 : Hid (Below w.heap.size w w2) := below_then HB1.out HB1.out.size hq
  clear hq hb HB1 
  have HTI2 := HTI0
  clear HTI0
  go_wp2_with fail
  refine (toEntryS_th _ es _ (HE.out.mono HB2.out) HSM.out).mono ?_
  rintro e w3 ⟨tev, rfl, ho, hb, hz⟩
  obtain ⟨tea, tec, rfl, _⟩ := ho.shape
  have HTE0 := (show Hid (EnsAt _ _ _) from ho.at)
  clear ho hz
  have hq := hb
  have HB3 : Hid (Below w.heap.size w w3) := below_then HB2.out HB2.out.size hq
  have HTI3 := (show Hid (IntsAt _ _ _) from IntsAt.mono HTI2.out hq)
  clear hq hb HB2 HTI2
  have HTE3 := HTE0
  clear HTE0
  go_wp2_with fail
  refine (sLogReplay_any cs es _ _ _ HTI3.out HTE3.out hn).mono ?_
  rintro e w4 ⟨sv, rfl, hs, hb⟩
  rw [← HRR.out] at hs
  rw [← HBB.out]
  obtain ⟨sa, sc, rfl, _⟩ := own_shape hs
  have HS0 : Hid (OwnInt w.heap.size w4 _ R) := own_base hs HB3.out.size
  have HLS : Hid (∀ g, (Value.slice sa R.length sc).ownBlock = some g → g < w4.heap.size) := fun g hg => (hs.lt g hg).2
  clear hs
  clear HTI3 HTE3
  have hq := hb
  have HB4 : Hid (Below w.heap.size w w4) := below_then HB3.out HB3.out.size hq
  clear hq hb HB3 
  have HS4 := HS0
  clear HS0
  have hbs : w.heap.size ≤ w4.heap.size := HB4.out.size
  go_wp2_with fail
  refine (toIntS_th _ cs _ (HC.out.mono HB4.out) hn).mono ?_
  rintro e w5 ⟨xv, rfl, ho, hb, hz⟩
  obtain ⟨xa, xc, rfl, _⟩ := ho.shape
  have hf : ∀ b o, w4.heap.size ≤ b → w5.frozen? ⟨b, o, none⟩ = false := fun b o hb' => hz.new hb' o
  obtain ⟨k1, k2, k3⟩ := ho.sh hf
  have HXI0 := (show Hid (IntsAt _ _ _) from ho.at)
  have HYI0 := (show Hid (RowSh 1 _ _) from k1)
  have HRI : Hid (∀ a, a ∈ trR 1 _ → w4.heap.size ≤ a.block ∧ a.block < w5.heap.size) := fun a ha => ⟨k2 a ha, (RowSh.trail k1 a ha).2⟩
  have hlI := k3
  have hx5 := hb.size
  clear ho hz k1 k2 k3 hf
  have hq := hb
  have HB5 : Hid (Below w.heap.size w w5) := below_then HB4.out HB4.out.size hq
  have HS5 := (show Hid (OwnInt w.heap.size _ _ R) from own_below HS4.out hq (Nat.le_refl _))
  clear hq hb HB4 HS4
  have HXI5 := HXI0
  have HYI5 := HYI0
  clear HXI0 HYI0
  go_wp2_with fail
  refine (toEntryS_th _ es _ (HE.out.mono HB5.out) HSM.out).mono ?_
  rintro e w6 ⟨yv, rfl, ho, hb, hz⟩
  obtain ⟨ya, yc, rfl, _⟩ := ho.shape
  have hf : ∀ b o, w5.heap.size ≤ b → w6.frozen? ⟨b, o, none⟩ = false := fun b o hb' => hz.new hb' o
  obtain ⟨E, k1, k2, k3⟩ := ho.sh hf HSM.out
  have HXE0 := (show Hid (EnsAt _ _ _) from ho.at)
  have HYE0 := (show Hid (EnsSh _ _ E) from k1)
  have HRE : Hid (∀ a, a ∈ mtEnR E _ → w4.heap.size ≤ a.block ∧ a.block < w6.heap.size) := fun a ha => ⟨Nat.le_trans hx5 (k2 a ha), (k1.trail a ha).2⟩
  have hlE : (mtEnR E _).length ≤ 1048576 * 4194308 := Nat.le_trans k3 (Nat.mul_le_mul_right _ hlen)
  have hx6 := hb.size
  clear ho hz k1 k2 k3 hf
  have hq := hb
  have HB6 : Hid (Below w.heap.size w w6) := below_then HB5.out HB5.out.size hq
  have HS6 := (show Hid (OwnInt w.heap.size _ _ R) from own_below HS5.out hq (Nat.le_refl _))
  have HXI6 := (show Hid (IntsAt _ _ _) from IntsAt.mono HXI5.out hq)
  have HYI6 := (show Hid (RowSh 1 _ _) from RowSh.set HYI5.out (IntSet.below hq))
  clear hq hb HB5 HS5 HXI5 HYI5
  have HXE6 := HXE0
  have HYE6 := HYE0
  clear HXE0 HYE0
  go_wp2_with fail
  refine (logReplay_any cs es _ _ _ HXI6.out HXE6.out hn).mono ?_
  rintro e w7 ⟨gv, rfl, hg, hb⟩
  rw [← HRR.out] at hg
  rw [← HBB.out]
  obtain ⟨ga, gc, rfl, _⟩ := own_shape hg
  have HG0 : Hid (OwnInt w.heap.size w7 _ R) := own_base hg HB6.out.size
  have HLG : Hid (∀ g, (Value.slice ga R.length gc).ownBlock = some g → w6.heap.size ≤ g) := fun g hg2 => (hg.lt g hg2).1
  clear hg
  have hq := hb
  have HB7 : Hid (Below w.heap.size w w7) := below_then HB6.out HB6.out.size hq
  have HS7 := (show Hid (OwnInt w.heap.size _ _ R) from own_below HS6.out hq (Nat.le_refl _))
  have HXI7 := (show Hid (IntsAt _ _ _) from IntsAt.mono HXI6.out hq)
  have HYI7 := (show Hid (RowSh 1 _ _) from RowSh.set HYI6.out (IntSet.below hq))
  have HXE7 := (show Hid (EnsAt _ _ _) from EnsAt.mono HXE6.out hq)
  have HYE7 := (show Hid (EnsSh _ _ E) from EnsSh.set HYE6.out (IntSet.below hq))
  clear hq hb HB6 HS6 HXI6 HYI6 HXE6 HYE6
  have HG7 := HG0
  clear HG0
  go_wp2_with fail
  refine (eqIntS_same _ _ R _ HG7.out.at HS7.out.at).mono ?_
  rintro e w8 ⟨rfl, hb⟩
  have hq := hb
  have HB8 : Hid (Below w.heap.size w w8) := below_then HB7.out HB7.out.size hq
  have HS8 := (show Hid (OwnInt w.heap.size _ _ R) from own_below HS7.out hq (Nat.le_refl _))
  have HXI8 := (show Hid (IntsAt _ _ _) from IntsAt.mono HXI7.out hq)
  have HYI8 := (show Hid (RowSh 1 _ _) from RowSh.set HYI7.out (IntSet.below hq))
  have HXE8 := (show Hid (EnsAt _ _ _) from EnsAt.mono HXE7.out hq)
  have HYE8 := (show Hid (EnsSh _ _ E) from EnsSh.set HYE7.out (IntSet.below hq))
  have HG8 := (show Hid (OwnInt w.heap.size _ _ R) from own_below HG7.out hq (Nat.le_refl _))
  clear hq hb HB7 HS7 HXI7 HYI7 HXE7 HYE7 HG7
  go_wp2_with fail
  refine (toIntS_th _ cs _ (HC.out.mono HB8.out) hn).mono ?_
  rintro e w9 ⟨zv, rfl, ho, hb, hz⟩
  obtain ⟨za, zc, rfl, _⟩ := ho.shape
  have HZ0 := (show Hid (IntsAt _ _ _) from ho.at)
  clear ho hz
  have hq := hb
  have HB9 : Hid (Below w.heap.size w w9) := below_then HB8.out HB8.out.size hq
  have HS9 := (show Hid (OwnInt w.heap.size _ _ R) from own_below HS8.out hq (Nat.le_refl _))
  have HXI9 := (show Hid (IntsAt _ _ _) from IntsAt.mono HXI8.out hq)
  have HYI9 := (show Hid (RowSh 1 _ _) from RowSh.set HYI8.out (IntSet.below hq))
  have HXE9 := (show Hid (EnsAt _ _ _) from EnsAt.mono HXE8.out hq)
  have HYE9 := (show Hid (EnsSh _ _ E) from EnsSh.set HYE8.out (IntSet.below hq))
  have HG9 := (show Hid (OwnInt w.heap.size _ _ R) from own_below HG8.out hq (Nat.le_refl _))
  clear hq hb HB8 HS8 HXI8 HYI8 HXE8 HYE8 HG8
  have HZ9 := HZ0
  clear HZ0
  go_wp2_with fail
  refine (eqIntS_same _ _ cs _ HXI9.out HZ9.out).mono ?_
  rintro e w10 ⟨rfl, hb⟩
  clear HZ9
  have hq := hb
  have HB10 : Hid (Below w.heap.size w w10) := below_then HB9.out HB9.out.size hq
  have HS10 := (show Hid (OwnInt w.heap.size _ _ R) from own_below HS9.out hq (Nat.le_refl _))
  have HXI10 := (show Hid (IntsAt _ _ _) from IntsAt.mono HXI9.out hq)
  have HYI10 := (show Hid (RowSh 1 _ _) from RowSh.set HYI9.out (IntSet.below hq))
  have HXE10 := (show Hid (EnsAt _ _ _) from EnsAt.mono HXE9.out hq)
  have HYE10 := (show Hid (EnsSh _ _ E) from EnsSh.set HYE9.out (IntSet.below hq))
  have HG10 := (show Hid (OwnInt w.heap.size _ _ R) from own_below HG9.out hq (Nat.le_refl _))
  clear hq hb HB9 HS9 HXI9 HYI9 HXE9 HYE9 HG9
  clear HXI10
  go_wp2_with fail
  refine (toEntryS_th _ es _ (HE.out.mono HB10.out) HSM.out).mono ?_
  rintro e w11 ⟨uv, rfl, ho, hb, hz⟩
  obtain ⟨ua, uc, rfl, _⟩ := ho.shape
  have HZ0 := (show Hid (EnsAt _ _ _) from ho.at)
  clear ho hz
  have hq := hb
  have HB11 : Hid (Below w.heap.size w w11) := below_then HB10.out HB10.out.size hq
  have HS11 := (show Hid (OwnInt w.heap.size _ _ R) from own_below HS10.out hq (Nat.le_refl _))
  have HYI11 := (show Hid (RowSh 1 _ _) from RowSh.set HYI10.out (IntSet.below hq))
  have HXE11 := (show Hid (EnsAt _ _ _) from EnsAt.mono HXE10.out hq)
  have HYE11 := (show Hid (EnsSh _ _ E) from EnsSh.set HYE10.out (IntSet.below hq))
  have HG11 := (show Hid (OwnInt w.heap.size _ _ R) from own_below HG10.out hq (Nat.le_refl _))
  clear hq hb HB10 HS10 HYI10 HXE10 HYE10 HG10
  have HZ11 := HZ0
  clear HZ0
  go_wp2_with fail
  refine (eqEntryS_same _ _ es _ HXE11.out HZ11.out).mono ?_
  rintro e w12 ⟨rfl, hb⟩
  clear HZ11
  have hq := hb
  have HB12 : Hid (Below w.heap.size w w12) := below_then HB11.out HB11.out.size hq
  have HS12 := (show Hid (OwnInt w.heap.size _ _ R) from own_below HS11.out hq (Nat.le_refl _))
  have HYI12 := (show Hid (RowSh 1 _ _) from RowSh.set HYI11.out (IntSet.below hq))
  have HXE12 := (show Hid (EnsAt _ _ _) from EnsAt.mono HXE11.out hq)
  have HYE12 := (show Hid (EnsSh _ _ E) from EnsSh.set HYE11.out (IntSet.below hq))
  have HG12 := (show Hid (OwnInt w.heap.size _ _ R) from own_below HG11.out hq (Nat.le_refl _))
  clear hq hb HB11 HS11 HYI11 HXE11 HYE11 HG11
  clear HXE12
  go_wp2_with fail
  refine (markIntS_tr _ _ _ HYI12.out (by omega) (by omega)).mono ?_
  rintro e w13 ⟨rfl, ew⟩
  have hS : IntSet w12 w13 := by rw [ew]; exact wrT_set (fun a ha => (RowSh.trail HYI12.out a ha).1) _
  have HB13 : Hid (Below w.heap.size w w13) := by rw [ew]; exact wrT_belowL HB12.out (fun a ha => by have := (HRI.out a ha).1; omega) _
  have HS13 : Hid (OwnInt w.heap.size w13 (.slice sa R.length sc) R) := by rw [ew]; exact OwnInt.wr HS12.out (fun g hg a ha e => by have h1 := HRI.out a ha; have h2 := HLS.out g hg; omega) _
  have HG13 : Hid (OwnInt w.heap.size w13 (.slice ga R.length gc) R) := by rw [ew]; exact OwnInt.wr HG12.out (fun g hg a ha e => by have h1 := HRI.out a ha; have h2 := HLG.out g hg; omega) _
  have HYE13 := (show Hid (EnsSh _ _ E) from EnsSh.set HYE12.out hS)
  clear ew hS HB12 HS12 HG12 HYI12 HYE12
  go_wp2_with fail
  refine (markEntryS_tr _ E _ _ HYE13.out (by omega) (by omega)).mono ?_
  rintro e w14 ⟨rfl, ew⟩
  have hS : IntSet w13 w14 := by rw [ew]; exact wrT_set (fun a ha => (EnsSh.trail HYE13.out a ha).1) _
  have HB14 : Hid (Below w.heap.size w w14) := by rw [ew]; exact wrT_belowL HB13.out (fun a ha => by have := (HRE.out a ha).1; omega) _
  have HS14 : Hid (OwnInt w.heap.size w14 (.slice sa R.length sc) R) := by rw [ew]; exact OwnInt.wr HS13.out (fun g hg a ha e => by have h1 := HRE.out a ha; have h2 := HLS.out g hg; omega) _
  have HG14 : Hid (OwnInt w.heap.size w14 (.slice ga R.length gc) R) := by rw [ew]; exact OwnInt.wr HG13.out (fun g hg a ha e => by have h1 := HRE.out a ha; have h2 := HLG.out g hg; omega) _
  clear ew hS HB13 HS13 HG13 HYE13
  have hkk : ¬ (1 + ((trR 1 (.slice xa cs.length xc)).length : Int) + ((mtEnR E (.slice ya es.length yc)).length : Int) < 0) := by omega
  go_wp2_with fail
  refine (eqIntS_same _ _ R _ HG14.out.at HS14.out.at).mono ?_
  rintro e w15 ⟨rfl, hb⟩
  have hq := hb
  have HB15 : Hid (Below w.heap.size w w15) := below_then HB14.out HB14.out.size hq
  have HS15 := (show Hid (OwnInt w.heap.size _ _ R) from own_below HS14.out hq (Nat.le_refl _))
  have HG15 := (show Hid (OwnInt w.heap.size _ _ R) from own_below HG14.out hq (Nat.le_refl _))
  clear hq hb HB14 HS14 HG14
  have hgl := OwnInt.len HG15.out
  go_wp2_with fail
  refine (markIntS_tr _ _ _ (OwnInt.shW HG15.out) (by omega) (by omega)).mono ?_
  rintro e w16 ⟨rfl, ew⟩
  have hIC : ∀ a, a ∈ trR 1 (.slice ga R.length gc) → ICell w15 a := fun a ha => (RowSh.trail (OwnInt.shW HG15.out) a ha).1
  have hS : IntSet w15 w16 := by rw [ew]; exact wrT_set hIC _
  have hGB : ∀ a, a ∈ trR 1 (.slice ga R.length gc) → w6.heap.size ≤ a.block := fun a ha => HLG.out _ (OwnInt.blk HG15.out a ha)
  have HB16 : Hid (Below w.heap.size w w16) := by rw [ew]; exact wrT_belowL HB15.out (fun a ha => by have := hGB a ha; omega) _
  have HS16 : Hid (OwnInt w.heap.size w16 (.slice sa R.length sc) R) := by rw [ew]; exact OwnInt.wr HS15.out (fun g hg a ha e => by have h1 := hGB a ha; have h2 := HLS.out g hg; omega) _
  have HGS16 := (show Hid (RowSh 1 w16 _) from (OwnInt.shW HG15.out).set hS)
  have HM16 : Hid (HeldT w16 (trR 1 (.slice ga R.length gc)) 1) := by rw [ew]; exact wrT_held hIC (trR_nodup 1 _) 1
  clear ew hIC hS hGB HB15 HS15 HG15
  have hkm : ¬ (1 + ((trR 1 (.slice ga R.length gc)).length : Int) < 0) := by omega
  go_wp2_with fail
  refine (heldIntS_tr _ _ _ HGS16.out HM16.out (by omega) (by omega)).mono ?_
  rintro e wh ⟨rfl, hw⟩
  have hw := hw.symm
  subst hw
  go_wp2_with fail
  refine (toIntS_th _ cs _ (HC.out.mono HB16.out) hn).mono ?_
  rintro e w17 ⟨piv, rfl, ho, hb, hz⟩
  obtain ⟨pia, pic, rfl, _⟩ := ho.shape
  have HTI0 := (show Hid (IntsAt _ _ _) from ho.at)
  clear ho hz
  have hq := hb
  have HB17 : Hid (Below w.heap.size w w17) := below_then HB16.out HB16.out.size hq
  have HS17 := (show Hid (OwnInt w.heap.size _ _ R) from own_below HS16.out hq (Nat.le_refl _))
  have HM17 := (show Hid (HeldT _ _ 1) from HeldT.below HM16.out (fun a ha => (RowSh.trail HGS16.out a ha).2) hq)
  have HGS17 := (show Hid (RowSh 1 _ _) from RowSh.set HGS16.out (IntSet.below hq))
  clear hq hb HB16 HS16 HM16 HGS16
  have HTI17 := HTI0
  clear HTI0
  go_wp2_with fail
  refine (toEntryS_th _ es _ (HE.out.mono HB17.out) HSM.out).mono ?_
  rintro e w18 ⟨pev, rfl, ho, hb, hz⟩
  obtain ⟨pea, pec, rfl, _⟩ := ho.shape
  have HTE0 := (show Hid (EnsAt _ _ _) from ho.at)
  clear ho hz
  have hq := hb
  have HB18 : Hid (Below w.heap.size w w18) := below_then HB17.out HB17.out.size hq
  have HS18 := (show Hid (OwnInt w.heap.size _ _ R) from own_below HS17.out hq (Nat.le_refl _))
  have HM18 := (show Hid (HeldT _ _ 1) from HeldT.below HM17.out (fun a ha => (RowSh.trail HGS17.out a ha).2) hq)
  have HGS18 := (show Hid (RowSh 1 _ _) from RowSh.set HGS17.out (IntSet.below hq))
  have HTI18 := (show Hid (IntsAt _ _ _) from IntsAt.mono HTI17.out hq)
  clear hq hb HB17 HS17 HM17 HGS17 HTI17
  have HTE18 := HTE0
  clear HTE0
  go_wp2_with fail
  refine (logReplay_any cs es _ _ _ HTI18.out HTE18.out hn).mono ?_
  rintro e w19 ⟨hv, rfl, hh, hb⟩
  rw [← HRR.out] at hh
  rw [← HBB.out]
  obtain ⟨ha, hc, rfl, _⟩ := own_shape hh
  have HH0 : Hid (OwnInt w.heap.size w19 _ R) := own_base hh HB18.out.size
  clear hh
  clear HTI18 HTE18
  have hq := hb
  have HB19 : Hid (Below w.heap.size w w19) := below_then HB18.out HB18.out.size hq
  have HS19 := (show Hid (OwnInt w.heap.size _ _ R) from own_below HS18.out hq (Nat.le_refl _))
  have HM19 := (show Hid (HeldT _ _ 1) from HeldT.below HM18.out (fun a ha => (RowSh.trail HGS18.out a ha).2) hq)
  have HGS19 := (show Hid (RowSh 1 _ _) from RowSh.set HGS18.out (IntSet.below hq))
  clear hq hb HB18 HS18 HM18 HGS18
  have HH19 := HH0
  clear HH0
  go_wp2_with fail
  refine (eqIntS_same _ _ R _ HH19.out.at HS19.out.at).mono ?_
  rintro e w20 ⟨rfl, hb⟩
  have hq := hb
  have HB20 : Hid (Below w.heap.size w w20) := below_then HB19.out HB19.out.size hq
  have HS20 := (show Hid (OwnInt w.heap.size _ _ R) from own_below HS19.out hq (Nat.le_refl _))
  have HM20 := (show Hid (HeldT _ _ 1) from HeldT.below HM19.out (fun a ha => (RowSh.trail HGS19.out a ha).2) hq)
  have HGS20 := (show Hid (RowSh 1 _ _) from RowSh.set HGS19.out (IntSet.below hq))
  have HH20 := (show Hid (OwnInt w.heap.size _ _ R) from own_below HH19.out hq (Nat.le_refl _))
  clear hq hb HB19 HS19 HM19 HGS19 HH19
  go_wp2_with fail
  refine (heldIntS_tr _ _ _ HGS20.out HM20.out (by omega) (by omega)).mono ?_
  rintro e wh ⟨rfl, hw⟩
  have hw := hw.symm
  subst hw
  go_wp2_with fail
  go_ret
  exact ⟨rfl, HB20.out⟩

end Go.Proofs.Ytdgihncobihbgaa
