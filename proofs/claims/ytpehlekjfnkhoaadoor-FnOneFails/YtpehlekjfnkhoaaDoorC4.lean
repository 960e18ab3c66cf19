/-
  ChangeDo, of the model.
-/
import Derived.Test.YtpehlekjfnkhoaaDoorC3
namespace Go.Proofs.YtpehlekjfnkhoaaDoor
open Go.RowKit
set_option linter.unusedSimpArgs false
set_option linter.unusedVariables false
set_option maxRecDepth 20000

def l2B (xs : List Int) (s : Int) : Bool := nsB xs && ((xs.length : Int) == s)
theorem two_empty {B : Nat} {w : World} (h : B ≤ w.heap.size) : Two B ((w.alloc (.cells #[] 3)).alloc (.cells #[] 3)) (.slice (some ⟨w.heap.size, 0, none⟩) 0 0) (.slice (some ⟨w.heap.size + 1, 0, none⟩) 0 0) [] [] := by
  refine ⟨World.ownsRow.alloc (World.ownsRow_made w #[] 0 h (by unfold maxLen; omega) (by simp)) _, ?_, fun g hg hg' => ?_⟩
  · have := World.ownsRow_made (e := 3) (size := 1) (base := B) (w.alloc (.cells #[] 3)) #[] 0 (by simp; omega) (by unfold maxLen; omega) (by simp)
    unfold OwnInt; simpa using this
  · simp [Value.ownBlock] at hg hg'; omega

set_option maxHeartbeats 400000 in
theorem l2Nums_any (v : Value) (xs : List Int) (s : Int) (w : World) (h : IntsAt w v xs) :
    Calls Tryd.prog 52 #[v, .int .i64 s] w fun r w' => r = .returned (.bool (l2B xs s)) ∧ w' = w := by
  obtain ⟨a, cap, rfl, hm, hc⟩ := h
  go_enter Tryd.func52, Tryd.ntmps52
  go_wp2_with fail
  go_loop [5] (fun i => ∃ k : Nat, k ≤ xs.length ∧ i = .int .i64 k ∧ (∀ j, j < k → plB (nth 0 xs j) 100 = true)) (fun i => xs.length - (intOf i).toNat)
  case atStart => exact ⟨0, Nat.zero_le _, rfl, fun j hj => absurd hj (Nat.not_lt_zero _)⟩
  case round =>
    obtain ⟨k, hk, rfl, hall⟩ := hrel
    by_cases hlt : k < xs.length
    · obtain ⟨b, off, rfl, hbw, c0⟩ := hc k hlt
      cases hd : inB (nth 0 xs k) 0 99
      · have HF : Hid (l2B xs s = false) := by
          have : nsB xs = false := not_all_nth 0 (plB · 100) xs k hlt (by rw [← in_pl100]; exact hd)
          simp [Hid, l2B, this]
        clear hc hall
        go_wp2_with (go_at_call 49; refine (l6In_any _ _ _ _).mono ?_; rintro e w' ⟨rfl, rfl⟩)
        go_ret
        exact ⟨by rw [HF.out]; rfl, rfl⟩
      · have HA : Hid (∀ j, j < k + 1 → plB (nth 0 xs j) 100 = true) := so_far hall (by rw [← in_pl100]; exact hd)
        clear hc hall
        go_wp2_with (go_at_call 49; refine (l6In_any _ _ _ _).mono ?_; rintro e w' ⟨rfl, rfl⟩)
        go_round
        case rel => exact ⟨k + 1, by omega, by go_num, HA.out⟩
        case measure => simp [intOf]; omega
    · have HF : Hid (l2B xs s = ((xs.length : Int) == s)) := by
        have : nsB xs = true := all_nth 0 (plB · 100) xs (fun j hj => hall j (by omega))
        simp [Hid, l2B, this]
      clear hall hc
      go_wp2
      go_ret
      exact ⟨by rw [HF.out]; rfl, rfl⟩

set_option maxHeartbeats 4000000 in
theorem sChangeDo_any (c r : List Int) (ds : List De) (cv rv dv : Value) (w : World) (hc : IntsAt w cv c) (hr : IntsAt w rv r) (hd : DeedsAt w dv ds) :
    Calls Tryd.prog 35 #[cv, rv, dv] w fun e w' => ∃ x y, e = .returned (.tuple #[x, y, .bool (chX c r ds).2.2]) ∧ Two w.heap.size w' x y (chX c r ds).1 (chX c r ds).2.1 ∧ Below w.heap.size w w' := by
  obtain ⟨ac, cc, rfl, hmc⟩ := hc.shape
  obtain ⟨ar, cr, rfl, hmr⟩ := hr.shape
  obtain ⟨ad, cd, rfl, hmd⟩ := hd.shape
  have HC := (show Hid (IntsAt _ _ _) from hc)
  have HR := (show Hid (IntsAt _ _ _) from hr)
  have HD := (show Hid (DeedsAt _ _ _) from hd)
  clear hc hr hd
  cases h3 : chB ds c.length
  · have HX : Hid (chX c r ds = ([], [], false)) := chX_bad (by simp [goB, h3])
    go_enter Tryd.func35, Tryd.ntmps35
    go_wp2_with (go_at_call 51; refine (sChangeOk_any _ ds _ _ HD.out (by omega)).mono ?_; rintro e w1 ⟨rfl, hb1⟩)
    refine bodyPost_ret (v := .tuple #[.slice (some ⟨w1.heap.size, 0, none⟩) 0 0, .slice (some ⟨w1.heap.size + 1, 0, none⟩) 0 0, .bool false]) (by simp [results, Tryd.results35, go_sem]) rfl ⟨_, _, by rw [HX.out], by rw [HX.out]; exact two_empty hb1.size, (hb1.alloc hb1.size _).alloc (by have := hb1.size; simp; omega) _⟩
  cases h1 : l2B c c.length
  · have HX : Hid (chX c r ds = ([], [], false)) := chX_bad (by
      have : nsB c = false := by simpa [l2B] using h1
      simp [goB, csB_eq, this])
    go_enter Tryd.func35, Tryd.ntmps35
    go_wp2_with fail
    refine (sChangeOk_any _ ds _ _ HD.out (by omega)).mono ?_
    rintro e w1 ⟨rfl, hb1⟩
    go_wp2_with fail
    refine (l2Nums_any _ c _ _ (HC.out.mono hb1)).mono ?_
    rintro e w' ⟨rfl, hw⟩; have hw := hw.symm; subst hw
    go_wp2_with fail
    refine bodyPost_ret (v := .tuple #[.slice (some ⟨w1.heap.size, 0, none⟩) 0 0, .slice (some ⟨w1.heap.size + 1, 0, none⟩) 0 0, .bool false]) (by simp [results, Tryd.results35, go_sem]) rfl ⟨_, _, by rw [HX.out], by rw [HX.out]; exact two_empty hb1.size, (hb1.alloc hb1.size _).alloc (by have := hb1.size; simp; omega) _⟩
  cases h2 : l2B r 3
  · have HX : Hid (chX c r ds = ([], [], false)) := chX_bad (by
      have : rsB r = false := by
        unfold rsB; unfold l2B at h2
        rw [Bool.and_comm, ← h2]; congr 1; rw [Bool.eq_iff_iff]; simp; omega
      simp [goB, this])
    go_enter Tryd.func35, Tryd.ntmps35
    go_wp2_with fail
    refine (sChangeOk_any _ ds _ _ HD.out (by omega)).mono ?_
    rintro e w1 ⟨rfl, hb1⟩
    go_wp2_with fail
    refine (l2Nums_any _ c _ _ (HC.out.mono hb1)).mono ?_
    rintro e w' ⟨rfl, hw⟩; have hw := hw.symm; subst hw
    go_wp2_with fail
    refine (l2Nums_any _ r _ _ (HR.out.mono hb1)).mono ?_
    rintro e w' ⟨rfl, hw⟩; have hw := hw.symm; subst hw
    go_wp2_with fail
    refine bodyPost_ret (v := .tuple #[.slice (some ⟨w1.heap.size, 0, none⟩) 0 0, .slice (some ⟨w1.heap.size + 1, 0, none⟩) 0 0, .bool false]) (by simp [results, Tryd.results35, go_sem]) rfl ⟨_, _, by rw [HX.out], by rw [HX.out]; exact two_empty hb1.size, (hb1.alloc hb1.size _).alloc (by have := hb1.size; simp; omega) _⟩
  have hg : goB c r ds = true := by
    have e1 : nsB c = true := by simpa [l2B] using h1
    have e2 : nsB r = true ∧ r.length = 3 := by
      unfold l2B at h2; simp at h2; exact ⟨h2.1, by omega⟩
    have e3 : c.length ≤ 3 := by
      unfold chB at h3; simp only [Bool.and_eq_true, plB_iff] at h3; omega
    simp [goB, csB_eq, rsB, e1, e2.1, e2.2, e3, h3]
  obtain ⟨hF, hn3, hds⟩ := goB_inF hg
  obtain ⟨_, hda⟩ := dsB_all hds
  have HG : Hid (goB c r ds = true) := hg
  have HI : Hid (InF c r c.length) := hF
  have HA : Hid (∀ d, d ∈ ds → deB d c.length = true) := hda
  have hr3 : r.length ≤ 3 := by rw [hF.rl]; omega
  clear hg hF hds hda
  obtain ⟨i0, hi, hz0, hz1, hz2⟩ := info_parts Tryd.info_int
  go_enter Tryd.func35, Tryd.ntmps35
  go_wp2_with fail
  refine (sChangeOk_any _ ds _ _ HD.out (by omega)).mono ?_
  rintro e w1 ⟨rfl, hb1⟩
  go_wp2_with fail
  refine (l2Nums_any _ c _ _ (HC.out.mono hb1)).mono ?_
  rintro e w' ⟨rfl, hw⟩; have hw := hw.symm; subst hw
  go_wp2_with fail
  refine (l2Nums_any _ r _ _ (HR.out.mono hb1)).mono ?_
  rintro e w' ⟨rfl, hw⟩; have hw := hw.symm; subst hw
  go_wp2_with (first | (at_builtin; refine wpList_append_src rfl _ _ 23 rfl w1.heap.size 3 i0 (.int .i64 0) 1 8 Tryd.underlying23 hi hz0 hz1 hz2 rfl (by decide) _ _ _ rfl (World.ownsRow_made _ #[] 0 (Nat.le_refl _) (by unfold maxLen; omega) (by simp)) _ _ _ (c.map (Value.int .i64)) rfl (by simp) ?s1 (ints_one c) ?s3 ?s4 ?s5 ?_))
  case s1 => exact ints_from (HC.out.mono (hb1.alloc hb1.size _))
  case s3 => unfold maxLen; omega
  case s4 => omega
  case s5 => simp
  intro v1 w2 hown1 hgrow1
  have HO1 : Hid (OwnInt w1.heap.size w2 v1 c) := by
    unfold Hid OwnInt
    (try rw [Nat.zero_add] at hown1); (try rw [List.nil_append] at hown1)
    exact hown1
  have hs1 := hb1.size
  have HB2 : Hid (Below w.heap.size w w2) := (hb1.alloc hb1.size _).grown hgrow1 (by simp; omega) (fun g hg => by simp [Value.ownBlock] at hg; omega)
  have HO1' : Hid (OwnInt w.heap.size w2 v1 c) := own_base HO1.out hs1
  clear hown1 hgrow1 hb1 HO1
  obtain ⟨a1, k1, rfl, _⟩ := own_shape HO1'.out
  go_wp2_with (first | (at_builtin; refine wpList_append_src rfl _ _ 23 rfl w2.heap.size 3 i0 (.int .i64 0) 1 8 Tryd.underlying23 hi hz0 hz1 hz2 rfl (by decide) _ _ _ rfl (World.ownsRow_made _ #[] 0 (Nat.le_refl _) (by unfold maxLen; omega) (by simp)) _ _ _ (r.map (Value.int .i64)) rfl (by simp) ?t1 (ints_one r) ?t3 ?t4 ?t5 ?_))
  case t1 => exact ints_from (HR.out.mono (HB2.out.alloc HB2.out.size _))
  case t3 => unfold maxLen; omega
  case t4 => omega
  case t5 => simp
  intro v2 w3 hown2 hgrow2
  have HO2 : Hid (OwnInt w2.heap.size w3 v2 r) := by
    unfold Hid OwnInt
    (try rw [Nat.zero_add] at hown2); (try rw [List.nil_append] at hown2)
    exact hown2
  have HT : Hid (Two w.heap.size w3 (.slice a1 c.length k1) v2 c r) :=
    ⟨own_heap HO1'.out fun g hg => by
        have h1 := (HO1'.out.lt g hg).2
        rw [hgrow2.block g (by simp; omega) (by simp [Value.ownBlock]; omega)]
        exact ((Below.refl w2.heap.size w2).alloc (Nat.le_refl _) (.cells #[] 3)).block g h1, own_base HO2.out HB2.out.size, fun g hg hg' => by have := (HO1'.out.lt g hg).2; have := (HO2.out.lt g hg').1; omega⟩
  have hs2 := HB2.out.size
  have HB3 : Hid (Below w.heap.size w w3) := (HB2.out.alloc HB2.out.size _).grown hgrow2 (by simp; omega) (fun g hg => by simp [Value.ownBlock] at hg; omega)
  clear hown2 hgrow2 HO1' HO2 HB2
  obtain ⟨a2, k2, rfl, _⟩ := own_shape HT.out.2.1
  go_wp2_with fail
  go_loopw [11] (fun i w' => ∃ (k : Nat) (c' r' : List Int), k ≤ ds.length ∧ i = .int .i64 k ∧ doDs c r (ds.take k) = some (c', r') ∧ Two w.heap.size w' (.slice a1 c.length k1) (.slice a2 r.length k2) c' r' ∧ Below w.heap.size w w') (fun i _ => ds.length - (intOf i).toNat)
  case atStart => exact ⟨0, c, r, Nat.zero_le _, rfl, by simp [doDs], HT.out, HB3.out⟩
  case round =>
    obtain ⟨k, c', r', hk, rfl, hdo, hT, hB⟩ := hrel
    have hsz := hB.size
    have HDO := (show Hid (doDs _ _ _ = _) from hdo)
    have HT' := (show Hid (Two _ _ _ _ _ _) from hT)
    have HB := (show Hid (Below _ _ _) from hB)
    clear hdo hT hB HT HB3 HC HR
    by_cases hlt : k < ds.length
    · have hdd := HA.out _ (nth_mem De.z ds k hlt)
      have hF' : InF c' r' c.length := doDs_inF (ds.take k) c r c' r' (fun d hd => HA.out d (List.mem_of_mem_take hd)) HI.out HDO.out
      obtain ⟨ad', cd', ed, _, hcs⟩ := HD.out.mono HB.out
      injection ed with ed1 ed2 ed3
      obtain ⟨b0, off, e0, hb0, c0, c1, c2⟩ := hcs k hlt
      rw [← ed1] at e0
      subst e0
      have hcl := hF'.cl
      have hrl := hF'.rl
      have HF' : Hid (InF c' r' c.length) := hF'
      clear hcs ed1 ed2 ed3 hF'
      rcases deB_cases hdd with ⟨a, b, hde, ha, hb⟩ | ⟨a, b, hde, ha, hb⟩ | ⟨a, b, hde, ha, hb⟩ | ⟨a, b, hde, ha, hb⟩ | ⟨a, hde, ha⟩
      · rw [hde] at c0 c1 c2
        dsimp only at c0 c1 c2
        have HN : Hid (doDs c r (ds.take (k + 1)) = some (c', r'.set a (nth 0 c' b))) := doDs_take_succ hlt HDO.out (by rw [hde]; simp [doD])
        obtain ⟨gc, capc, ec, bc, gcw, hcc, hcm, hcell⟩ := HT'.out.1.get b (by omega)
        obtain ⟨gr, capr, er, br, grw, hrc, hrm, hrell⟩ := HT'.out.2.1.get a (by omega)
        injection ec with ec1 ec2 ec3
        injection er with er1 er2 er3
        subst ec1 er1
        obtain ⟨q0, q1⟩ := hcell b (by omega)
        obtain ⟨q2, q3⟩ := hrell a (by omega)
        have hai : (b : Int) < (c.length : Int) := by omega
        have hbi : (a : Int) < (r.length : Int) := by omega
        clear hde hdd HDO hcl hrl hcell hrell ec2 ec3 er2 er3
        go_wp2_with fail
        go_region
        all_goals
          go_wp2_with fail
          go_roundw
          case rel => exact ⟨k + 1, _, _, by omega, by go_num, HN.out, ((HT'.out.setR a _).alloc _).drew, (by repeat (first | exact HB.out | refine Below.alloc ?_ (by first | omega | (simp; omega)) _ | refine Below.drew ?_ | refine Below.setCell ?_ (by first | omega | (simp; omega)) _))⟩
          case measure => simp [intOf]; omega
      · rw [hde] at c0 c1 c2
        dsimp only at c0 c1 c2
        have HN : Hid (doDs c r (ds.take (k + 1)) = some (c'.set a (nth 0 r' b), r')) := doDs_take_succ hlt HDO.out (by rw [hde]; simp [doD])
        obtain ⟨gc, capc, ec, bc, gcw, hcc, hcm, hcell⟩ := HT'.out.1.get a (by omega)
        obtain ⟨gr, capr, er, br, grw, hrc, hrm, hrell⟩ := HT'.out.2.1.get b (by omega)
        injection ec with ec1 ec2 ec3
        injection er with er1 er2 er3
        subst ec1 er1
        obtain ⟨q0, q1⟩ := hcell a (by omega)
        obtain ⟨q2, q3⟩ := hrell b (by omega)
        have hai : (a : Int) < (c.length : Int) := by omega
        have hbi : (b : Int) < (r.length : Int) := by omega
        clear hde hdd HDO hcl hrl hcell hrell ec2 ec3 er2 er3
        go_wp2_with fail
        go_region
        all_goals
          go_wp2_with fail
          go_roundw
          case rel => exact ⟨k + 1, _, _, by omega, by go_num, HN.out, ((HT'.out.setC a _).alloc _).drew, (by repeat (first | exact HB.out | refine Below.alloc ?_ (by first | omega | (simp; omega)) _ | refine Below.drew ?_ | refine Below.setCell ?_ (by first | omega | (simp; omega)) _))⟩
          case measure => simp [intOf]; omega
      · rw [hde] at c0 c1 c2
        dsimp only at c0 c1 c2
        have HN : Hid (doDs c r (ds.take (k + 1)) = some (c', r'.set a (b : Int))) := doDs_take_succ hlt HDO.out (by rw [hde]; simp [doD])
        have ha' : a < r'.length := by omega
        have hb' : b < r'.length ∨ b < 100 := by omega
        clear hde hdd HDO hcl
        go_wp2_with (go_at_call 53; refine (l2Reg_num w.heap.size a _ c' r' (.slice a1 c.length k1) _ _ (by exact HT'.out.alloc _) ha').mono ?_; rintro e w5 ⟨rfl, h5, hf5⟩)
        have HT5 := (show Hid (Two _ _ _ _ _ _) from h5)
        have HB5 : Hid (Below w.heap.size w w5) := (HB.out.alloc hsz _).trans (hf5.below (fun q hq => (HT'.out.ge q hq).1) (by simp; omega))
        clear h5 hf5
        go_wp2_with fail
        go_roundw
        case rel => exact ⟨k + 1, _, _, by omega, by go_num, HN.out, HT5.out, HB5.out⟩
        case measure => simp [intOf]; omega
      · rw [hde] at c0 c1 c2
        dsimp only at c0 c1 c2
        have HN : Hid (doDs c r (ds.take (k + 1)) = some (c', r'.set a ((nth 0 r' a + nth 0 r' b) % 100))) := doDs_take_succ hlt HDO.out (by rw [hde]; simp [doD])
        have ha' : a < r'.length := by omega
        have hb' : b < r'.length ∨ b < 100 := by omega
        clear hde hdd HDO hcl
        go_wp2_with (go_at_call 53; refine (l2Reg_add w.heap.size a b c' r' (.slice a1 c.length k1) _ _ (by exact HT'.out.alloc _) ha' (by omega) (nth_bd HF'.out.ra)).mono ?_; rintro e w5 ⟨rfl, h5, hf5⟩)
        have HT5 := (show Hid (Two _ _ _ _ _ _) from h5)
        have HB5 : Hid (Below w.heap.size w w5) := (HB.out.alloc hsz _).trans (hf5.below (fun q hq => (HT'.out.ge q hq).1) (by simp; omega))
        clear h5 hf5
        go_wp2_with fail
        go_roundw
        case rel => exact ⟨k + 1, _, _, by omega, by go_num, HN.out, HT5.out, HB5.out⟩
        case measure => simp [intOf]; omega
      · rw [hde] at c0 c1 c2
        dsimp only at c0 c1 c2
        obtain ⟨gr, capr, er, br, grw, hrc, hrm, hrell⟩ := HT'.out.2.1.get a (by omega)
        injection er with er1 er2 er3
        subst er1
        obtain ⟨q2, q3⟩ := hrell a (by omega)
        have hbi : (a : Int) < (r.length : Int) := by omega
        by_cases hz : nth 0 r' a = 0
        · have HN : Hid (chX c r ds = ([], [], false)) := chX_none HG.out (doDs_none_of_take hlt HDO.out (by rw [hde]; simp [doD, hz]))
          have hz' : (nth 0 r' a == 0) = true := by simp [hz]
          clear hde hdd HDO hcl hrl hrell er2 er3 hz
          go_wp2_with fail
          have hX := two_empty (w := wr.alloc (.cells #[.int .i64 5, .int .i64 (a : Int), .int .i64 0] 99)) (B := w.heap.size) (by simp; omega)
          refine bodyPost_ret (v := .tuple #[.slice (some ⟨wr.heap.size + 1, 0, none⟩) 0 0, .slice (some ⟨wr.heap.size + 1 + 1, 0, none⟩) 0 0, .bool false]) (by simp [results, Tryd.results35, go_sem]) rfl ⟨_, _, by rw [HN.out], by rw [HN.out]; simpa using hX, (by repeat (first | exact HB.out | refine Below.alloc ?_ (by first | omega | (simp; omega)) _ | refine Below.drew ?_ | refine Below.setCell ?_ (by first | omega | (simp; omega)) _))⟩
        · have HN : Hid (doDs c r (ds.take (k + 1)) = some (c', r')) := doDs_take_succ hlt HDO.out (by rw [hde]; simp [doD, hz])
          have hz' : (nth 0 r' a == 0) = false := by simp [hz]
          clear hde hdd HDO hcl hrl hrell er2 er3
          go_wp2_with fail
          go_roundw
          case rel => exact ⟨k + 1, _, _, by omega, by go_num, HN.out, HT'.out.alloc _, (by repeat (first | exact HB.out | refine Below.alloc ?_ (by first | omega | (simp; omega)) _ | refine Below.drew ?_ | refine Below.setCell ?_ (by first | omega | (simp; omega)) _))⟩
          case measure => simp [intOf]; omega
    · have he : k = ds.length := by omega
      have HX : Hid (chX c r ds = (c', r', true)) := chX_some HG.out (by have := HDO.out; rwa [he, List.take_length] at this)
      clear he HDO
      go_wp2_with fail
      refine bodyPost_ret (v := .tuple #[.slice a1 c.length k1, .slice a2 r.length k2, .bool true]) (by simp [results, Tryd.results35, go_sem]) rfl ⟨_, _, by rw [HX.out], by rw [HX.out]; exact HT'.out, HB.out⟩

end Go.Proofs.YtpehlekjfnkhoaaDoor
