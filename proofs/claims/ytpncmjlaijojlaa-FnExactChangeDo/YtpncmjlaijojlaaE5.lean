import Derived.Test.YtpncmjlaijojlaaE4
namespace Go.Proofs.Ytpncmjlaijojlaa
open Go.RowKit
set_option linter.unusedSimpArgs false
set_option linter.unusedVariables false
set_option maxRecDepth 20000

set_option maxHeartbeats 4000000 in
theorem exactChangeDo_walk (c r : List Int) (ds : List De) (cv rv dv : Value) (w : World) (hc : IntsAt w cv c) (hr : IntsAt w rv r) (hd : DeedsAt w dv ds) :
    Calls Try.prog 8 #[cv, rv, dv] w fun e w' => e = .returned (.bool true) ∧ Below w.heap.size w w' := by
  obtain ⟨C, R, ok, hX⟩ : ∃ C R ok, chX c r ds = (C, R, ok) := ⟨_, _, _, rfl⟩
  have hlen := chX_len c r ds
  rw [hX] at hlen
  obtain ⟨hC3, hR3⟩ := hlen
  dsimp only at hC3 hR3
  have HX := (show Hid (chX _ _ _ = _) from hX)
  obtain ⟨ac, cc, rfl, hmc⟩ := hc.shape
  obtain ⟨ar, cr, rfl, hmr⟩ := hr.shape
  obtain ⟨ad, cd, rfl, hmd⟩ := hd.shape
  have HC := (show Hid (IntsAt _ _ _) from hc)
  have HR := (show Hid (IntsAt _ _ _) from hr)
  have HD := (show Hid (DeedsAt _ _ _) from hd)
  clear hc hr hd hX
  by_cases hcs : c.length ≤ 1048576
  case neg =>
    have hcs' : (1048576 : Int) < (c.length : Int) := by omega
    go_enter Try.func8, Try.ntmps8
    go_wp2_with fail
    go_ret
    exact ⟨rfl, Below.refl _ _⟩
  have hcs' : ¬ (1048576 : Int) < (c.length : Int) := by omega
  by_cases hrs : r.length ≤ 1048576
  case neg =>
    have hrs' : (1048576 : Int) < (r.length : Int) := by omega
    go_enter Try.func8, Try.ntmps8
    go_wp2_with fail
    go_ret
    exact ⟨rfl, Below.refl _ _⟩
  have hrs' : ¬ (1048576 : Int) < (r.length : Int) := by omega
  go_enter Try.func8, Try.ntmps8
  go_wp2_with fail
  refine (szDeedS_any _ _ _ 1048576 _ hmd (by omega) (by omega)).mono ?_
  rintro e w1 ⟨q, rfl, q1, q2, q3, hw⟩
  have hw := hw.symm
  subst hw
  by_cases hneg : q < 0
  · go_wp2_with fail
    go_ret
    exact ⟨rfl, Below.refl _ _⟩
  have hsm := q3 (by omega)
  clear q3
  go_wp2_with fail
  refine (toIntS_any _ c _ HC.out hcs).mono ?_
  rintro e wa ⟨va, rfl, ha, hba⟩
  obtain ⟨aa, ka, rfl, _⟩ := ha.shape
  have HA : Hid (IntsAt wa _ c) := ha.at
  have HBa := (show Hid (Below _ _ _) from hba)
  clear ha hba
  go_wp2_with fail
  refine (toIntS_any _ r _ (HR.out.mono HBa.out) hrs).mono ?_
  rintro e wb ⟨vb, rfl, hb, hbb⟩
  obtain ⟨ab, kb, rfl, _⟩ := hb.shape
  have HB : Hid (IntsAt wb _ r) := hb.at
  have HA2 : Hid (IntsAt wb _ c) := HA.out.mono hbb
  have HBb : Hid (Below w.heap.size w wb) := below_then HBa.out HBa.out.size hbb
  clear hb hbb HA HBa
  go_wp2_with fail
  refine (toDeedS_any _ ds _ (HD.out.mono HBb.out) hsm).mono ?_
  rintro e wc ⟨vc, rfl, hc, hbc⟩
  obtain ⟨ae, ke, rfl, _⟩ := hc.shape
  have HE : Hid (DeedsAt wc _ ds) := hc.at
  have HA3 : Hid (IntsAt wc _ c) := HA2.out.mono hbc
  have HB3 : Hid (IntsAt wc _ r) := HB.out.mono hbc
  have HBc : Hid (Below w.heap.size w wc) := below_then HBb.out HBb.out.size hbc
  clear hc hbc HA2 HB HBb
  go_wp2_with fail
  refine (sChangeDo_eq HX.out _ _ _ _ HA3.out HB3.out HE.out).mono ?_
  rintro e we ⟨s0, s1, rfl, ht, hbe⟩
  obtain ⟨as0, ks0, rfl, _⟩ := own_shape ht.1
  obtain ⟨as1, ks1, rfl, _⟩ := own_shape ht.2.1
  have hbw := below_then HBc.out HBc.out.size hbe
  have HP : Hid (Ph1 w we (.slice ac c.length cc) (.slice ar r.length cr) (.slice ad ds.length cd) (.slice as0 C.length ks0) (.slice as1 R.length ks1) c r C R ds) :=
    ⟨hbw, HC.out.mono hbw, HR.out.mono hbw, HD.out.mono hbw, own_base ht.1 HBc.out.size, own_base ht.2.1 HBc.out.size, ht.2.2⟩
  have HLT : Hid (∀ k, ownS (.slice as0 C.length ks0) (.slice as1 R.length ks1) k → k < we.heap.size) := fun k hk => (ht.ge k hk).2
  clear ht hbe hbw HA3 HB3 HE HBc
  go_wp2_with fail
  refine (toIntS_blk _ c _ HP.out.c hcs).mono ?_
  rintro e wf ⟨rfl, hx0, hb0, hbf⟩
  have HP2 := (show Hid (Ph1 _ _ _ _ _ _ _ _ _ _ _ _) from HP.out.below hbf)
  have HX0 := (show Hid (IntsAt _ _ _) from hx0)
  have HB0 := (show Hid (Blk _ _ _) from hb0)
  have lo0 : w.heap.size ≤ we.heap.size := HP.out.bel.size
  clear hx0 hb0 hbf HP
  go_wp2_with fail
  refine (toIntS_blk _ r _ HP2.out.r hrs).mono ?_
  rintro e wg ⟨rfl, hx1, hb1, hbg⟩
  have HP3 := (show Hid (Ph1 _ _ _ _ _ _ _ _ _ _ _ _) from HP2.out.below hbg)
  have HX0' := (show Hid (IntsAt _ _ _) from HX0.out.mono hbg)
  have HB0' := (show Hid (Blk _ _ _) from HB0.out.below hbg)
  have HX1 := (show Hid (IntsAt _ _ _) from hx1)
  have HB1 := (show Hid (Blk _ _ _) from hb1)
  have l01 : we.heap.size < wf.heap.size := HB0.out.1
  clear hx1 hb1 hbg HP2 HX0 HB0
  go_wp2_with fail
  refine (toDeedS_blk _ ds _ HP3.out.d hsm).mono ?_
  rintro e wh ⟨rfl, hx2, hb2, hbh⟩
  have HQ : Hid (Ph2 w wh (.slice ac c.length cc) (.slice ar r.length cr) (.slice ad ds.length cd) (.slice as0 C.length ks0) (.slice as1 R.length ks1) we.heap.size wf.heap.size wg.heap.size c r C R ds) :=
    ⟨HP3.out.below hbh, HX0'.out.mono hbh, HX1.out.mono hbh, hx2, HB0'.out.below hbh, HB1.out.below hbh, hb2, lo0, HLT.out, l01, HB1.out.1⟩
  clear hx2 hb2 hbh HP3 HX0' HB0' HX1 HB1 HLT
  go_wp2_with fail
  refine (changeDo_eq HX.out _ _ _ _ HQ.out.x0 HQ.out.x1 HQ.out.x2).mono ?_
  rintro e wi ⟨y0, y1, rfl, hu, hbi⟩
  obtain ⟨ay0, ky0, rfl, _⟩ := own_shape hu.1
  obtain ⟨ay1, ky1, rfl, _⟩ := own_shape hu.2.1
  have HU := (show Hid (Two _ _ _ _ _ _) from hu)
  have HUlo : Hid (∀ k, ownS (.slice ay0 C.length ky0) (.slice ay1 R.length ky1) k → wh.heap.size ≤ k) := fun k hk => (hu.ge k hk).1
  have hl2 : wg.heap.size < wh.heap.size := HQ.out.b2.1
  have hwwh : w.heap.size ≤ wh.heap.size := HQ.out.p.bel.size
  have HQi := (show Hid (Ph2 _ _ _ _ _ _ _ _ _ _ _ _ _ _ _) from HQ.out.below hbi)
  clear hu hbi HQ

  go_wp2_with fail
  refine (eqIntS_same _ _ C _ (HU.out.1.at) (HQi.out.p.t.1.at)).mono ?_
  rintro e wj1 ⟨rfl, hb2⟩
  have HU3 := (show Hid (Two _ _ _ _ _ _) from HU.out.below hb2 (Nat.le_refl _))
  have HQ4 := (show Hid (Ph2 _ _ _ _ _ _ _ _ _ _ _ _ _ _ _) from HQi.out.below hb2)
  clear hb2 HU HQi
  go_wp2_with fail
  refine (eqIntS_same _ _ R _ (HU3.out.2.1.at) (HQ4.out.p.t.2.1.at)).mono ?_
  rintro e wj5 ⟨rfl, hb6⟩
  have HU7 := (show Hid (Two _ _ _ _ _ _) from HU3.out.below hb6 (Nat.le_refl _))
  have HQ8 := (show Hid (Ph2 _ _ _ _ _ _ _ _ _ _ _ _ _ _ _) from HQ4.out.below hb6)
  clear hb6 HU3 HQ4
  go_wp2_with fail
  refine (toIntS_any _ c _ HQ8.out.p.c hcs).mono ?_
  rintro e wk9 ⟨v10, rfl, h11, hb12⟩
  obtain ⟨a13, k14, rfl, _⟩ := h11.shape
  have HV15 : Hid (IntsAt wk9 _ c) := h11.at
  clear h11
  have HU16 := (show Hid (Two _ _ _ _ _ _) from HU7.out.below hb12 (Nat.le_refl _))
  have HQ17 := (show Hid (Ph2 _ _ _ _ _ _ _ _ _ _ _ _ _ _ _) from HQ8.out.below hb12)
  clear hb12 HU7 HQ8
  go_wp2_with fail
  refine (eqIntS_same _ _ c _ HQ17.out.x0 HV15.out).mono ?_
  rintro e wj18 ⟨rfl, hb19⟩
  clear HV15
  have HU20 := (show Hid (Two _ _ _ _ _ _) from HU16.out.below hb19 (Nat.le_refl _))
  have HQ21 := (show Hid (Ph2 _ _ _ _ _ _ _ _ _ _ _ _ _ _ _) from HQ17.out.below hb19)
  clear hb19 HU16 HQ17
  go_wp2_with fail
  refine (toIntS_any _ r _ HQ21.out.p.r hrs).mono ?_
  rintro e wk22 ⟨v23, rfl, h24, hb25⟩
  obtain ⟨a26, k27, rfl, _⟩ := h24.shape
  have HV28 : Hid (IntsAt wk22 _ r) := h24.at
  clear h24
  have HU29 := (show Hid (Two _ _ _ _ _ _) from HU20.out.below hb25 (Nat.le_refl _))
  have HQ30 := (show Hid (Ph2 _ _ _ _ _ _ _ _ _ _ _ _ _ _ _) from HQ21.out.below hb25)
  clear hb25 HU20 HQ21
  go_wp2_with fail
  refine (eqIntS_same _ _ r _ HQ30.out.x1 HV28.out).mono ?_
  rintro e wj31 ⟨rfl, hb32⟩
  clear HV28
  have HU33 := (show Hid (Two _ _ _ _ _ _) from HU29.out.below hb32 (Nat.le_refl _))
  have HQ34 := (show Hid (Ph2 _ _ _ _ _ _ _ _ _ _ _ _ _ _ _) from HQ30.out.below hb32)
  clear hb32 HU29 HQ30
  go_wp2_with fail
  refine (toDeedS_any _ ds _ HQ34.out.p.d hsm).mono ?_
  rintro e wk35 ⟨v36, rfl, h37, hb38⟩
  obtain ⟨a39, k40, rfl, _⟩ := h37.shape
  have HV41 : Hid (DeedsAt wk35 _ ds) := h37.at
  clear h37
  have HU42 := (show Hid (Two _ _ _ _ _ _) from HU33.out.below hb38 (Nat.le_refl _))
  have HQ43 := (show Hid (Ph2 _ _ _ _ _ _ _ _ _ _ _ _ _ _ _) from HQ34.out.below hb38)
  clear hb38 HU33 HQ34
  go_wp2_with fail
  refine (eqDeedS_same _ _ ds _ HQ43.out.x2 HV41.out).mono ?_
  rintro e wj44 ⟨rfl, hb45⟩
  clear HV41
  have HU46 := (show Hid (Two _ _ _ _ _ _) from HU42.out.below hb45 (Nat.le_refl _))
  have HQ47 := (show Hid (Ph2 _ _ _ _ _ _ _ _ _ _ _ _ _ _ _) from HQ43.out.below hb45)
  clear hb45 HU42 HQ43
  go_wp2_with fail
  have l12 := HQ47.out.l2
  have HP3 : Hid (Ph3 w _ (.slice ac c.length cc) (.slice ar r.length cr) (.slice ad ds.length cd) (.slice as0 C.length ks0) (.slice as1 R.length ks1) (.slice ay0 C.length ky0) (.slice ay1 R.length ky1) c r C R C R ds) :=
    ⟨HQ47.out.p.bel, HQ47.out.p.t, ⟨own_base HU46.out.1 hwwh, own_base HU46.out.2.1 hwwh, HU46.out.2.2⟩, fun k hk hk' => by have := HQ47.out.w0 k hk; have := HUlo.out k hk'; omega⟩
  have HB0 := (show Hid (Blk _ _ _) from HQ47.out.b0)
  have HB1 := (show Hid (Blk _ _ _) from HQ47.out.b1)
  have HB2 := (show Hid (Blk _ _ _) from HQ47.out.b2)
  have HW0 := (show Hid (∀ k, ownS _ _ k → k < _) from HQ47.out.w0)
  have l01 := HQ47.out.l1
  have lo0 := HQ47.out.lo
  clear HU46 HQ47
  refine (markIntS_at _ _ _ 1 _ HB0.out (by omega) (by omega)).mono ?_
  rintro e wm48 ⟨rfl, _, hf49, _⟩
  have HP50 := (show Hid (Ph3 _ _ _ _ _ _ _ _ _ _ _ _ _ _ _ _) from HP3.out.frS hf49 (fun k hk => by omega) (fun k hk e => by have := HW0.out k hk; omega) (fun k hk e => by have := HUlo.out k hk; omega))
  have HB1' := (show Hid (Blk _ _ _) from HB1.out.frS hf49 (by omega))
  have HB2' := (show Hid (Blk _ _ _) from HB2.out.frS hf49 (by omega))
  clear hf49 HB0 HB1 HB2 HP3
  go_wp2_with fail
  refine (markIntS_at _ _ _ _ _ HB1'.out (by omega) (by omega)).mono ?_
  rintro e wm51 ⟨rfl, _, hf52, _⟩
  have HP53 := (show Hid (Ph3 _ _ _ _ _ _ _ _ _ _ _ _ _ _ _ _) from HP50.out.frS hf52 (fun k hk => by omega) (fun k hk e => by have := HW0.out k hk; omega) (fun k hk e => by have := HUlo.out k hk; omega))
  have HB2'' := (show Hid (Blk _ _ _) from HB2'.out.frS hf52 (by omega))
  clear hf52 HB1' HB2' HP50
  go_wp2_with fail
  refine (markDeedS_at _ _ _ _ _ HB2''.out (by omega) (by omega)).mono ?_
  rintro e wm54 ⟨rfl, hf55⟩
  have HP56 := (show Hid (Ph3 _ _ _ _ _ _ _ _ _ _ _ _ _ _ _ _) from HP53.out.frS hf55 (fun k hk => by omega) (fun k hk e => by have := HW0.out k hk; omega) (fun k hk e => by have := HUlo.out k hk; omega))
  clear hf55 HB2'' HP53 HW0
  go_wp2_with fail
  refine (eqIntS_same _ _ C _ (HP56.out.u.1.at) (HP56.out.t.1.at)).mono ?_
  rintro e wj57 ⟨rfl, hb58⟩
  have HP59 := (show Hid (Ph3 _ _ _ _ _ _ _ _ _ _ _ _ _ _ _ _) from HP56.out.below hb58)
  clear hb58 HP56
  go_wp2_with fail
  refine (eqIntS_same _ _ R _ (HP59.out.u.2.1.at) (HP59.out.t.2.1.at)).mono ?_
  rintro e wj60 ⟨rfl, hb61⟩
  have HP62 := (show Hid (Ph3 _ _ _ _ _ _ _ _ _ _ _ _ _ _ _ _) from HP59.out.below hb61)
  clear hb61 HP59
  go_wp2_with fail
  refine (markOwn w.heap.size _ C 1 _ HP62.out.u.1 (by omega) (by omega)).mono ?_
  rintro e wn1 ⟨rfl, ho1, hf1⟩
  have hP1 := HP62.out
  have HP1 : Hid (Ph3 w wn1 (.slice ac c.length cc) (.slice ar r.length cr) (.slice ad ds.length cd) (.slice as0 C.length ks0) (.slice as1 R.length ks1) (.slice ay0 C.length ky0) (.slice ay1 R.length ky1) c r C R (marks 1 C.length) R ds) :=
    ⟨hP1.bel.trans (hf1.below (fun k hk => (hP1.u.ge k (.inl hk)).1) hP1.bel.size), hP1.t.frS hf1 (fun k hk hk' => hP1.ap k hk (.inl hk')), ⟨ho1, hP1.u.2.1.frS hf1 (fun k hk hk' => hP1.u.2.2 k hk' hk), hP1.u.2.2⟩, hP1.ap⟩
  clear ho1 hf1 hP1 HP62
  go_wp2_with fail
  refine (markOwn w.heap.size _ R (1 + (C.length : Int)) _ HP1.out.u.2.1 (by omega) (by omega)).mono ?_
  rintro e wn2 ⟨rfl, ho2, hf2⟩
  have hP2 := HP1.out
  have HP2 : Hid (Ph3 w wn2 (.slice ac c.length cc) (.slice ar r.length cr) (.slice ad ds.length cd) (.slice as0 C.length ks0) (.slice as1 R.length ks1) (.slice ay0 C.length ky0) (.slice ay1 R.length ky1) c r C R (marks 1 C.length) (marks (1 + (C.length : Int)) R.length) ds) :=
    ⟨hP2.bel.trans (hf2.below (fun k hk => (hP2.u.ge k (.inr hk)).1) hP2.bel.size), hP2.t.frS hf2 (fun k hk hk' => hP2.ap k hk (.inr hk')), ⟨hP2.u.1.frS hf2 (fun k hk hk' => hP2.u.2.2 k hk hk'), ho2, hP2.u.2.2⟩, hP2.ap⟩
  clear ho2 hf2 hP2 HP1
  go_wp2_with fail
  refine (heldIntS_any _ 1 C.length _ HP2.out.u.1.at (by omega) (by omega)).mono ?_
  rintro e w' ⟨rfl, hw⟩
  have hw := hw.symm
  subst hw
  go_wp2_with fail
  refine (heldIntS_any _ (1 + (C.length : Int)) R.length _ HP2.out.u.2.1.at (by omega) (by omega)).mono ?_
  rintro e w' ⟨rfl, hw⟩
  have hw := hw.symm
  subst hw
  go_wp2_with fail
  refine (toIntS_any _ c _ (HC.out.mono HP2.out.bel) hcs).mono ?_
  rintro e wk63 ⟨v64, rfl, h65, hb66⟩
  obtain ⟨a67, k68, rfl, _⟩ := h65.shape
  have HV69 : Hid (IntsAt wk63 _ c) := h65.at
  clear h65 
  have HP70 := (show Hid (Ph3 _ _ _ _ _ _ _ _ _ _ _ _ _ _ _ _) from HP2.out.below hb66)
  clear hb66 HP2
  go_wp2_with fail
  refine (toIntS_any _ r _ (HR.out.mono HP70.out.bel) hrs).mono ?_
  rintro e wk71 ⟨v72, rfl, h73, hb74⟩
  obtain ⟨a75, k76, rfl, _⟩ := h73.shape
  have HV77 : Hid (IntsAt wk71 _ r) := h73.at
  have HV78 := (show Hid (IntsAt _ _ _) from HV69.out.mono hb74)
  clear h73 HV69
  have HP79 := (show Hid (Ph3 _ _ _ _ _ _ _ _ _ _ _ _ _ _ _ _) from HP70.out.below hb74)
  clear hb74 HP70
  go_wp2_with fail
  refine (toDeedS_any _ ds _ (HD.out.mono HP79.out.bel) hsm).mono ?_
  rintro e wk80 ⟨v81, rfl, h82, hb83⟩
  obtain ⟨a84, k85, rfl, _⟩ := h82.shape
  have HV86 : Hid (DeedsAt wk80 _ ds) := h82.at
  have HV87 := (show Hid (IntsAt _ _ _) from HV78.out.mono hb83)
  have HV88 := (show Hid (IntsAt _ _ _) from HV77.out.mono hb83)
  clear h82 HV78 HV77
  have HP89 := (show Hid (Ph3 _ _ _ _ _ _ _ _ _ _ _ _ _ _ _ _) from HP79.out.below hb83)
  clear hb83 HP79
  go_wp2_with fail
  refine (changeDo_eq HX.out _ _ _ _ HV87.out HV88.out HV86.out).mono ?_
  rintro e wp ⟨z0, z1, rfl, hz, hbz⟩
  obtain ⟨az0, kz0, rfl, _⟩ := own_shape hz.1
  obtain ⟨az1, kz1, rfl, _⟩ := own_shape hz.2.1
  have HZ := (show Hid (Two _ _ _ _ _ _) from hz)
  clear hz HV87 HV88 HV86
  have HP90 := (show Hid (Ph3 _ _ _ _ _ _ _ _ _ _ _ _ _ _ _ _) from HP89.out.below hbz)
  clear hbz HP89
  go_wp2_with fail
  refine (eqIntS_same _ _ C _ (HZ.out.1.at) (HP90.out.t.1.at)).mono ?_
  rintro e wj91 ⟨rfl, hb92⟩
  have HZ' := (show Hid (Two _ _ _ _ _ _) from HZ.out.below hb92 (Nat.le_refl _))
  clear HZ
  have HP93 := (show Hid (Ph3 _ _ _ _ _ _ _ _ _ _ _ _ _ _ _ _) from HP90.out.below hb92)
  clear hb92 HP90
  go_wp2_with fail
  refine (eqIntS_same _ _ R _ (HZ'.out.2.1.at) (HP93.out.t.2.1.at)).mono ?_
  rintro e wj94 ⟨rfl, hb95⟩
  clear HZ'
  have HP96 := (show Hid (Ph3 _ _ _ _ _ _ _ _ _ _ _ _ _ _ _ _) from HP93.out.below hb95)
  clear hb95 HP93
  go_wp2_with fail
  refine (heldIntS_any _ 1 C.length _ HP96.out.u.1.at (by omega) (by omega)).mono ?_
  rintro e w' ⟨rfl, hw⟩
  have hw := hw.symm
  subst hw
  go_wp2_with fail
  refine (heldIntS_any _ (1 + (C.length : Int)) R.length _ HP96.out.u.2.1.at (by omega) (by omega)).mono ?_
  rintro e w' ⟨rfl, hw⟩
  have hw := hw.symm
  subst hw
  go_wp2_with fail
  go_ret
  exact ⟨rfl, HP96.out.bel⟩

end Go.Proofs.Ytpncmjlaijojlaa
