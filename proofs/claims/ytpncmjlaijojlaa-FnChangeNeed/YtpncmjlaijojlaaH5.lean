import Derived.Test.YtpncmjlaijojlaaH2
namespace Go.Proofs.Ytpncmjlaijojlaa
open Go.RowKit
set_option linter.unusedSimpArgs false
set_option linter.unusedVariables false
set_option maxRecDepth 20000

theorem own_src {w : World} {B : Nat} {e : TypeId} {size : Nat} {a : Option Addr} {n cap : Nat} {xs : List Value} (h : w.ownsRow B e size (.slice a n cap) n xs) : n = 0 ∨ ∃ ad, a = some ad ∧ ∀ j u, xs[j]? = some u → w.cell? (ad.add j) = some u := by
  rcases h.2 with ⟨e1, h0⟩ | ⟨g, cap', cur, e1, _⟩
  · exact .inl h0
  · injection e1 with e2
    subst e2
    exact .inr ⟨_, rfl, World.ownsRow.cells h rfl⟩
theorem de_one (ds : List De) : ∀ u ∈ deCells ds, u.oneCell' = true := fun u hu => by
  unfold deCells at hu
  obtain ⟨d, _, h⟩ := List.mem_flatMap.1 hu
  simp at h
  rcases h with rfl | rfl | rfl <;> rfl

set_option maxHeartbeats 4000000 in
theorem changeNeed_walk (a : Option Addr) (n cap : Nat) (b : Option Addr) (m capm : Nat) (w : World) (h : Bytes w a n) (hc : n ≤ cap) (hn : cap ≤ 9223372036854775807) (hcm : m ≤ capm) (hnm : capm ≤ 9223372036854775807) :
    Calls Try.prog 5 #[.slice a n cap, .slice b m capm] w fun e w' => e = .returned (.bool true) ∧ Below w.heap.size w w' := by
  by_cases hbig : 1048576 < n
  · have hbig' : decide ((1048576 : Int) < (n : Int)) = true := by simp; omega
    clear h
    go_enter Try.func5, Try.ntmps5
    go_wp2_with fail
    go_ret
    exact ⟨rfl, Below.refl _ _⟩
  have hbig' : decide ((1048576 : Int) < (n : Int)) = false := by simp; omega
  by_cases hbm : 1048576 < m
  · have hbm' : (1048576 : Int) < (m : Int) := by omega
    clear h
    go_enter Try.func5, Try.ntmps5
    go_wp2_with fail
    go_ret
    exact ⟨rfl, Below.refl _ _⟩
  have hbm' : ¬ (1048576 : Int) < (m : Int) := by omega
  have HBy := (show Hid (Bytes _ _ _) from h)
  clear h
  go_enter Try.func5, Try.ntmps5
  go_wp2_with fail
  refine (drawChangeDo_any a n cap _ HBy.out hc hn).mono ?_
  rintro e w1 ⟨cv, rv, dv, c, r, ds, rfl, hoc, hor, hod, hl6, hb1⟩
  obtain ⟨ac, cc, rfl, hcc, _⟩ := own_shape hoc
  obtain ⟨ar, cr, rfl, hcr, _⟩ := own_shape hor
  obtain ⟨ad, cd, rfl, hcd, hcd'⟩ := own_shape hod
  obtain ⟨C, R, ok, hX⟩ : ∃ C R ok, chX c r ds = (C, R, ok) := ⟨_, _, _, rfl⟩
  have HX := (show Hid (chX _ _ _ = _) from hX)
  have HC := (show Hid (IntsAt _ _ _) from hoc.at)
  have HR := (show Hid (IntsAt _ _ _) from hor.at)
  have HD := (show Hid (DeedsAt _ _ _) from hod.at)
  have HOD := (show Hid (OwnDe _ _ _ _) from hod)
  have HB1 := (show Hid (Below _ _ _) from hb1)
  clear hoc hor hod hb1 hX HBy
  go_wp2_with fail
  refine (sChangeDo_is HX.out _ _ _ _ HC.out HR.out HD.out).mono ?_
  rintro e w2 ⟨a0, k0, a1, k1, rfl, hs0, hs1, hb2⟩
  have HS0 := (show Hid (IntsAt _ _ _) from hs0)
  have HS1 := (show Hid (IntsAt _ _ _) from hs1)
  have HB2 := (show Hid (Below _ _ _) from hb2)
  clear hs0 hs1 hb2
  go_wp2_with fail
  refine (changeDo_is HX.out _ _ _ _ (HC.out.mono HB2.out) (HR.out.mono HB2.out) (HD.out.mono HB2.out)).mono ?_
  rintro e w3 ⟨a2, k2, a3, k3, rfl, hy0, hy1, hb3⟩
  have HY0 := (show Hid (IntsAt _ _ _) from hy0)
  have HY1 := (show Hid (IntsAt _ _ _) from hy1)
  have HS0' := (show Hid (IntsAt _ _ _) from HS0.out.mono hb3)
  have HS1' := (show Hid (IntsAt _ _ _) from HS1.out.mono hb3)
  have HB3 : Hid (Below w1.heap.size w1 w3) := below_then HB2.out HB2.out.size hb3
  clear hy0 hy1 hb3 HS0 HS1 HB2
  have hlenC : C.length ≤ 9223372036854775807 := by obtain ⟨_, _, e, h⟩ := HY0.out.shape; exact h
  cases ok
  · go_wp2_with fail
    refine (lqInts_same C _ _ _ HY0.out HS0'.out).mono ?_
    rintro e w4 ⟨rfl, hb4⟩
    have HY1b := (show Hid (IntsAt _ _ _) from HY1.out.mono hb4)
    have HS1b := (show Hid (IntsAt _ _ _) from HS1'.out.mono hb4)
    have HB4 : Hid (Below w1.heap.size w1 w4) := below_then HB3.out HB3.out.size hb4
    have HY0b := (show Hid (IntsAt _ _ _) from HY0.out.mono hb4)
    have HS0b := (show Hid (IntsAt _ _ _) from HS0'.out.mono hb4)
    clear hb4 HY1 HS1' HB3 HY0 HS0'
    go_wp2_with fail
    refine (lqInts_same R _ _ _ HY1b.out HS1b.out).mono ?_
    rintro e w5 ⟨rfl, hb5⟩
    have HB5 : Hid (Below w1.heap.size w1 w5) := below_then HB4.out HB4.out.size hb5
    have HY1c := (show Hid (IntsAt _ _ _) from HY1b.out.mono hb5)
    have HS1c := (show Hid (IntsAt _ _ _) from HS1b.out.mono hb5)
    have HY0c := (show Hid (IntsAt _ _ _) from HY0b.out.mono hb5)
    have HS0c := (show Hid (IntsAt _ _ _) from HS0b.out.mono hb5)
    clear hb5 HY1b HS1b HB4 HY0b HS0b
    go_wp2_with fail
    refine (lqInts_same C _ _ _ HY0c.out HS0c.out).mono ?_
    rintro e w6 ⟨rfl, hb6⟩
    have HB6 : Hid (Below w1.heap.size w1 w6) := below_then HB5.out HB5.out.size hb6
    have HY1d := (show Hid (IntsAt _ _ _) from HY1c.out.mono hb6)
    have HS1d := (show Hid (IntsAt _ _ _) from HS1c.out.mono hb6)
    clear hb6 HY1c HS1c HB5 HY0c HS0c
    go_wp2_with fail
    refine (lqInts_same R _ _ _ HY1d.out HS1d.out).mono ?_
    rintro e w7 ⟨rfl, hb7⟩
    have HB7 : Hid (Below w1.heap.size w1 w7) := below_then HB6.out HB6.out.size hb7
    clear hb7
    go_wp2_with fail
    go_ret
    exact ⟨rfl, HB1.out.trans (HB7.out.mono HB1.out.size)⟩
  go_wp2_with fail
  refine (lqInts_same C _ _ _ HY0.out HS0'.out).mono ?_
  rintro e w4 ⟨rfl, hb4⟩
  have HY1b := (show Hid (IntsAt _ _ _) from HY1.out.mono hb4)
  have HS1b := (show Hid (IntsAt _ _ _) from HS1'.out.mono hb4)
  have HY0b := (show Hid (IntsAt _ _ _) from HY0.out.mono hb4)
  have HS0b := (show Hid (IntsAt _ _ _) from HS0'.out.mono hb4)
  have HB4 : Hid (Below w1.heap.size w1 w4) := below_then HB3.out HB3.out.size hb4
  clear hb4 HY1 HS1' HB3 HY0 HS0'
  go_wp2_with fail
  refine (lqInts_same R _ _ _ HY1b.out HS1b.out).mono ?_
  rintro e w5 ⟨rfl, hb5⟩
  have HY0c := (show Hid (IntsAt _ _ _) from HY0b.out.mono hb5)
  have HY1c := (show Hid (IntsAt _ _ _) from HY1b.out.mono hb5)
  have HS0c := (show Hid (IntsAt _ _ _) from HS0b.out.mono hb5)
  have HS1c := (show Hid (IntsAt _ _ _) from HS1b.out.mono hb5)
  have HB5 : Hid (Below w1.heap.size w1 w5) := below_then HB4.out HB4.out.size hb5
  clear hb5 HS1b HB4 HY0b HY1b HS0b
  by_cases h5 : 5 ≤ ds.length
  · have h5' : (5 : Int) ≤ (ds.length : Int) := by omega
    go_wp2_with fail
    refine (lqInts_same _ _ _ _ (HY0c.out) (HS0c.out)).mono ?_
    rintro e wx1 ⟨rfl, hx1⟩
    have HP1 := (show Hid (IntsAt _ _ _) from IntsAt.mono (HY1c.out) hx1)
    have HQ1 := (show Hid (IntsAt _ _ _) from IntsAt.mono (HS1c.out) hx1)
    have HBx1 : Hid (Below w1.heap.size w1 wx1) := below_then HB5.out HB5.out.size hx1
    clear hx1
    go_wp2_with fail
    refine (lqInts_same _ _ _ _ HP1.out HQ1.out).mono ?_
    rintro e wx2 ⟨rfl, hx2⟩
    have HBx2 : Hid (Below w1.heap.size w1 wx2) := below_then HBx1.out HBx1.out.size hx2
    clear hx2
    go_wp2_with fail
    go_ret
    exact ⟨rfl, HB1.out.trans (HBx2.out.mono HB1.out.size)⟩
  have h5' : ¬ (5 : Int) ≤ (ds.length : Int) := by omega
  clear HS0c HS1c
  obtain ⟨q, hq⟩ : ∃ q : Nat, q = m % 3 := ⟨_, rfl⟩
  have hq3 : q < 3 := by omega
  have hqi : ((m : Int) % 3) = (q : Int) := by omega
  obtain ⟨hR3, hr3, hCl, hbd, _⟩ := chX_regs HX.out
  have hXn := chX_need HX.out q hq3 (by omega)
  have HXn := (show Hid (chX _ _ _ = _) from hXn)
  have HR3 := (show Hid (R.length = 3) from hR3)
  clear hq hXn hR3 hr3 hCl hbd
  obtain ⟨i0, hi, hz0, hz1, hz2⟩ := info_parts Try.info_deed
  have HOD5 : Hid (OwnDe w.heap.size w5 (.slice ad ds.length cd) ds) := own_below HOD.out HB5.out (Nat.le_refl _)
  clear HOD
  have hqR : (q : Int) < (R.length : Int) := by have := HR3.out; omega
  go_wp2_with (at_builtin; refine wpList_append_src rfl _ _ 23 rfl w5.heap.size 35 i0 (.agg #[.int .i64 0, .int .i64 0, .int .i64 0]) 3 24 Try.underlying23 hi hz0 hz1 hz2 rfl (by decide) _ _ _ rfl (World.ownsRow_made _ #[] 0 (Nat.le_refl _) (by unfold maxLen; omega) (by simp)) _ _ _ (deCells ds) rfl HOD5.out.1 ?s1 (de_one ds) ?s3 ?s4 ?s5 ?_)
  case s1 => exact own_src (World.ownsRow.alloc HOD5.out _)
  case s3 => unfold maxLen; omega
  case s4 => omega
  case s5 => simp
  intro v6 w6 hown6 hgrow6
  have HO6 : Hid (OwnDe w5.heap.size w6 v6 ds) := by
    unfold Hid OwnDe
    (try rw [Nat.zero_add] at hown6); (try rw [List.nil_append] at hown6)
    exact hown6
  have hs5 := HB5.out.size
  have HB6 : Hid (Below w5.heap.size w5 w6) := ((Below.refl _ _).alloc (Nat.le_refl _) _).grown hgrow6 (by simp) (fun g hg => by simp [Value.ownBlock] at hg; omega)
  clear hown6 hgrow6 HOD5
  obtain ⟨a6, k6, rfl, hk6, _⟩ := own_shape HO6.out
  go_wp2_with (at_builtin; refine wpList_append_own _ rfl _ _ 23 rfl w5.heap.size 35 i0 (.agg #[.int .i64 0, .int .i64 0, .int .i64 0]) 3 24 Try.underlying23 hi hz0 hz1 hz2 rfl (by decide) _ _ _ rfl (World.ownsRow.alloc HO6.out _) ⟨w6.heap.size, 0, none⟩ 1 1 [.int .i64 5, .int .i64 (q : Int), .int .i64 0] rfl rfl ?b1 ?b2 ?b3 ?b4 ?b5 ?_)
  case b1 =>
    intro j u hj
    match j, hj with
    | 0, hj => simp at hj; subst hj; simp [Addr.add]
    | 1, hj => simp at hj; subst hj; simp [Addr.add]
    | 2, hj => simp at hj; subst hj; simp [Addr.add]
  case b2 => intro u hu; simp at hu; rcases hu with rfl | rfl | rfl <;> rfl
  case b3 => unfold maxLen; omega
  case b4 => omega
  case b5 => have := HB6.out.size; simp; omega
  intro v7 w7 hown7 hgrow7 _
  have HO7 : Hid (OwnDe w5.heap.size w7 v7 (ds ++ [⟨5, (q : Int), 0⟩])) := by
    unfold Hid OwnDe; rw [deCells_snoc, List.length_append]; exact hown7
  have HB7' : Hid (Below w5.heap.size w5 w7) := (HB6.out.alloc HB6.out.size _).grown hgrow7 (by have := HB6.out.size; simp; omega) (fun g hg => (HO6.out.lt g hg).1)
  clear hown7 hgrow7 HO6 HB6
  have HB7 : Hid (Below w1.heap.size w1 w7) := below_then HB5.out HB5.out.size HB7'.out
  have HY0d := (show Hid (IntsAt _ _ _) from HY0c.out.mono HB7'.out)
  have HY1d := (show Hid (IntsAt _ _ _) from HY1c.out.mono HB7'.out)
  clear HY0c HY1c HB7'
  obtain ⟨a7, k7, e7, hk7, _⟩ := own_shape HO7.out
  have e7' : v7 = .slice a7 (ds.length + 1) k7 := by simpa using e7
  clear e7
  subst e7'
  by_cases hz : nth 0 R q = 0
  · have hXz : chX c r (ds ++ [⟨5, (q : Int), 0⟩]) = ([], [], false) := by have := HXn.out; rwa [if_pos hz] at this
    have HXz := (show Hid (chX _ _ _ = _) from hXz)
    clear hXz
    go_wp2_with fail
    refine (changeDo_is HXz.out _ _ _ _ (HC.out.mono HB7.out) (HR.out.mono HB7.out) HO7.out.at).mono ?_
    rintro e w8 ⟨a8, k8, a9, k9, rfl, hv0, hv1, hb8⟩
    have HB8 : Hid (Below w1.heap.size w1 w8) := below_then HB7.out HB7.out.size hb8
    obtain ⟨ay, ky, ey, _, hcy⟩ := HY1d.out.mono hb8
    obtain ⟨by', offy, eyy, hby, cy⟩ := hcy q (by have := HR3.out; omega)
    injection ey with ey1 ey2 ey3
    rw [← ey1] at eyy
    subst eyy
    have hz' : (nth 0 R q != 0) = false := by simp [hz]
    clear hv0 hv1 hb8 HB7 hcy hz HXn ey1 ey2 ey3
    go_wp2_with fail
    go_ret
    exact ⟨rfl, HB1.out.trans (HB8.out.mono HB1.out.size)⟩
  · have hXz : chX c r (ds ++ [⟨5, (q : Int), 0⟩]) = (C, R, true) := by have := HXn.out; rwa [if_neg hz] at this
    have HXz := (show Hid (chX _ _ _ = _) from hXz)
    clear hXz
    go_wp2_with fail
    refine (changeDo_is HXz.out _ _ _ _ (HC.out.mono HB7.out) (HR.out.mono HB7.out) HO7.out.at).mono ?_
    rintro e w8 ⟨a8, k8, a9, k9, rfl, hv0, hv1, hb8⟩
    have HV0 := (show Hid (IntsAt _ _ _) from hv0)
    have HV1 := (show Hid (IntsAt _ _ _) from hv1)
    have HB8 : Hid (Below w1.heap.size w1 w8) := below_then HB7.out HB7.out.size hb8
    have HY0e := (show Hid (IntsAt _ _ _) from HY0d.out.mono hb8)
    have HY1e := (show Hid (IntsAt _ _ _) from HY1d.out.mono hb8)
    obtain ⟨ay, ky, ey, _, hcy⟩ := HY1e.out
    obtain ⟨by', offy, eyy, hby, cy⟩ := hcy q (by have := HR3.out; omega)
    injection ey with ey1 ey2 ey3
    rw [← ey1] at eyy
    subst eyy
    have hz' : (nth 0 R q != 0) = true := by simp [hz]
    clear hv0 hv1 hb8 HB7 hcy hz HXn ey1 ey2 ey3
    go_wp2_with fail
    refine (lqInts_same _ _ _ _ (HV0.out) (HY0e.out)).mono ?_
    rintro e wx1 ⟨rfl, hx1⟩
    have HP1 := (show Hid (IntsAt _ _ _) from IntsAt.mono (HV1.out) hx1)
    have HQ1 := (show Hid (IntsAt _ _ _) from IntsAt.mono (HY1e.out) hx1)
    have HBx1 : Hid (Below w1.heap.size w1 wx1) := below_then HB8.out HB8.out.size hx1
    clear hx1
    go_wp2_with fail
    refine (lqInts_same _ _ _ _ HP1.out HQ1.out).mono ?_
    rintro e wx2 ⟨rfl, hx2⟩
    have HBx2 : Hid (Below w1.heap.size w1 wx2) := below_then HBx1.out HBx1.out.size hx2
    clear hx2
    go_wp2_with fail
    go_ret
    exact ⟨rfl, HB1.out.trans (HBx2.out.mono HB1.out.size)⟩

end Go.Proofs.Ytpncmjlaijojlaa
