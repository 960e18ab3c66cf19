/-
  ChangeDo, of the program.
-/
import Derived.Test.YtpehlekjfnkhoaaDoorC2
import Derived.Laws.EntriesVeiled
namespace Go.Proofs.YtpehlekjfnkhoaaDoor
open Go.RowKit
set_option linter.unusedSimpArgs false
set_option linter.unusedVariables false
set_option maxRecDepth 20000

set_option maxHeartbeats 400000 in
theorem regsInForm_any (v : Value) (xs : List Int) (w : World) (h : IntsAt w v xs) :
    Calls Tryd.prog 68 #[v] w fun r w' => r = .returned (.bool (rsB xs)) ∧ w' = w := by
  obtain ⟨a, cap, rfl, hm⟩ := h.shape
  have HI := (show Hid (IntsAt _ _ _) from h)
  clear h
  by_cases h5 : xs.length = 3
  · have h5' : ((xs.length : Int) == 3) = true := by simp; omega
    have HF : Hid (rsB xs = nsB xs) := by simp [Hid, rsB, h5]
    clear h5
    go_enter Tryd.func68, Tryd.ntmps68
    go_wp2_with (go_at_call 54; refine (numsInForm_any _ xs _ HI.out).mono ?_; rintro e w' ⟨rfl, rfl⟩)
    go_ret
    exact ⟨by rw [HF.out]; rfl, rfl⟩
  · have h5' : ((xs.length : Int) == 3) = false := by simp; omega
    have HF : Hid (rsB xs = false) := by simp [Hid, rsB, h5]
    clear h5
    clear HI
    go_enter Tryd.func68, Tryd.ntmps68
    go_wp2
    go_ret
    exact ⟨by rw [HF.out]; rfl, rfl⟩

def deedTable : Array Value := #[.nilFunc, .func (.func 75) #[] #[], .func (.func 76) #[] #[], .func (.func 77) #[] #[], .func (.func 78) #[] #[], .func (.func 79) #[] #[]]
theorem changeDeeds_any (w : World) : Calls Tryd.prog 70 #[] w fun e w' => e = .returned (.agg #[.nilFunc, .func (.func 75) #[] #[], .func (.func 76) #[] #[], .func (.func 77) #[] #[], .func (.func 78) #[] #[], .func (.func 79) #[] #[]]) ∧ Below w.heap.size w w' := by
  go_enter Tryd.func70, Tryd.ntmps70
  go_wp2_with fail
  refine bodyPost_ret (v := .agg #[.nilFunc, .func (.func 75) #[] #[], .func (.func 76) #[] #[], .func (.func 77) #[] #[], .func (.func 78) #[] #[], .func (.func 79) #[] #[]]) (by simp [results, Tryd.results70, go_sem]) rfl ⟨rfl, (by repeat (first | exact Below.refl _ _ | refine Below.alloc ?_ (by simp; try omega) _ | refine Below.drew ?_ | refine Below.setCell ?_ (by simp; try omega) _))⟩

/-- the table lies in block A -/
structure TableAt (w : World) (A : Nat) : Prop where
  lt : A < w.heap.size
  c1 : w.cell? ⟨A, 1, none⟩ = some (.func (.func 75) #[] #[])
  c2 : w.cell? ⟨A, 2, none⟩ = some (.func (.func 76) #[] #[])
  c3 : w.cell? ⟨A, 3, none⟩ = some (.func (.func 77) #[] #[])
  c4 : w.cell? ⟨A, 4, none⟩ = some (.func (.func 78) #[] #[])
  c5 : w.cell? ⟨A, 5, none⟩ = some (.func (.func 79) #[] #[])
theorem TableAt.frS {S : Nat → Prop} {w w' : World} {A : Nat} (h : TableAt w A) (hf : FrS S w w') (hS : ¬ S A) : TableAt w' A :=
  ⟨Nat.lt_of_lt_of_le h.lt hf.size, (hf.cell h.lt hS).trans h.c1, (hf.cell h.lt hS).trans h.c2, (hf.cell h.lt hS).trans h.c3, (hf.cell h.lt hS).trans h.c4, (hf.cell h.lt hS).trans h.c5⟩

theorem chX_bad {c r : List Int} {ds : List De} (h : goB c r ds = false) : chX c r ds = ([], [], false) := by simp [chX, chDo, h]
theorem chX_none {c r : List Int} {ds : List De} (h : goB c r ds = true) (hn : doDs c r ds = none) : chX c r ds = ([], [], false) := by simp [chX, chDo, h, hn]
theorem chX_some {c r c' r' : List Int} {ds : List De} (h : goB c r ds = true) (hn : doDs c r ds = some (c', r')) : chX c r ds = (c', r', true) := by simp [chX, chDo, h, hn]
theorem doDs_none_of_take {c r c' r' : List Int} {ds : List De} {k : Nat} (hk : k < ds.length) (h : doDs c r (ds.take k) = some (c', r')) (hn : doD c' r' (nth De.z ds k) = none) : doDs c r ds = none := by
  have h1 : doDs c r (ds.take (k + 1)) = none := by rw [take_nth De.z ds k hk, doDs_snoc, h]; exact hn
  rw [← List.take_append_drop (k + 1) ds, doDs_append, h1]; rfl
theorem doDs_take_succ {c r c' r' c2 r2 : List Int} {ds : List De} {k : Nat} (hk : k < ds.length) (h : doDs c r (ds.take k) = some (c', r')) (hn : doD c' r' (nth De.z ds k) = some (c2, r2)) : doDs c r (ds.take (k + 1)) = some (c2, r2) := by
  rw [take_nth De.z ds k hk, doDs_snoc, h]; exact hn
theorem Two.none (B : Nat) (w : World) : Two B w (.slice none 0 0) (.slice none 0 0) [] [] := ⟨World.ownsRow_nil _ _ _ _, World.ownsRow_nil _ _ _ _, fun g h => by cases h⟩

set_option maxHeartbeats 4000000 in
theorem changeDo_any (c r : List Int) (ds : List De) (cv rv dv : Value) (w : World) (hc : IntsAt w cv c) (hr : IntsAt w rv r) (hd : DeedsAt w dv ds) :
    Calls Tryd.prog 57 #[cv, rv, dv] w fun e w' => ∃ x y, e = .returned (.tuple #[x, y, .bool (chX c r ds).2.2]) ∧ Two w.heap.size w' x y (chX c r ds).1 (chX c r ds).2.1 ∧ Below w.heap.size w w' := by
  obtain ⟨ac, cc, rfl, hmc⟩ := hc.shape
  obtain ⟨ar, cr, rfl, hmr⟩ := hr.shape
  obtain ⟨ad, cd, rfl, hmd⟩ := hd.shape
  have HC := (show Hid (IntsAt _ _ _) from hc)
  have HR := (show Hid (IntsAt _ _ _) from hr)
  have HD := (show Hid (DeedsAt _ _ _) from hd)
  clear hc hr hd
  cases h1 : csB c
  · have HX : Hid (chX c r ds = ([], [], false)) := chX_bad (by simp [goB, h1])
    go_enter Tryd.func57, Tryd.ntmps57
    go_wp2_with (go_at_call 36; refine (cellsInForm_any _ c _ HC.out).mono ?_; rintro e w' ⟨rfl, rfl⟩)
    refine bodyPost_ret (v := .tuple #[.slice none 0 0, .slice none 0 0, .bool false]) (by simp [results, Tryd.results57, go_sem]) rfl ⟨_, _, by rw [HX.out], by rw [HX.out]; exact Two.none _ _, Below.refl _ _⟩
  cases h2 : rsB r
  · have HX : Hid (chX c r ds = ([], [], false)) := chX_bad (by simp [goB, h2])
    go_enter Tryd.func57, Tryd.ntmps57
    go_wp2_with (first | (go_at_call 36; refine (cellsInForm_any _ c _ HC.out).mono ?_; rintro e w' ⟨rfl, rfl⟩) | (go_at_call 68; refine (regsInForm_any _ r _ HR.out).mono ?_; rintro e w' ⟨rfl, rfl⟩))
    refine bodyPost_ret (v := .tuple #[.slice none 0 0, .slice none 0 0, .bool false]) (by simp [results, Tryd.results57, go_sem]) rfl ⟨_, _, by rw [HX.out], by rw [HX.out]; exact Two.none _ _, Below.refl _ _⟩
  cases h3 : chB ds c.length
  · have HX : Hid (chX c r ds = ([], [], false)) := chX_bad (by simp [goB, h3])
    go_enter Tryd.func57, Tryd.ntmps57
    go_wp2_with (first | (go_at_call 36; refine (cellsInForm_any _ c _ HC.out).mono ?_; rintro e w' ⟨rfl, rfl⟩) | (go_at_call 68; refine (regsInForm_any _ r _ HR.out).mono ?_; rintro e w' ⟨rfl, rfl⟩) | (go_at_call 69; refine (changeOk_any _ ds _ _ HD.out).mono ?_; rintro e w' ⟨rfl, hb1⟩))
    refine bodyPost_ret (v := .tuple #[.slice none 0 0, .slice none 0 0, .bool false]) (by simp [results, Tryd.results57, go_sem]) rfl ⟨_, _, by rw [HX.out], by rw [HX.out]; exact Two.none _ _, hb1⟩
  have hg : goB c r ds = true := by simp [goB, h1, h2, h3]
  obtain ⟨hF, hn3, hds⟩ := goB_inF hg
  obtain ⟨_, hda⟩ := dsB_all hds
  have HG : Hid (goB c r ds = true) := hg
  have HI : Hid (InF c r c.length) := hF
  have HA : Hid (∀ d, d ∈ ds → deB d c.length = true) := hda
  have hr3 : r.length ≤ 3 := by rw [hF.rl]; omega
  clear hg hF hds hda
  obtain ⟨i0, hi, hz0, hz1, hz2⟩ := info_parts Tryd.info_int
  go_enter Tryd.func57, Tryd.ntmps57
  go_wp2_with (first | (go_at_call 36; refine (cellsInForm_any _ c _ HC.out).mono ?_; rintro e w' ⟨rfl, hw⟩; have hw := hw.symm; subst hw) | (go_at_call 68; refine (regsInForm_any _ r _ HR.out).mono ?_; rintro e w' ⟨rfl, hw⟩; have hw := hw.symm; subst hw) | (go_at_call 69; refine (changeOk_any _ ds _ _ HD.out).mono ?_; rintro e w1 ⟨rfl, hb1⟩) | (at_builtin; refine wpList_append_src rfl _ _ 23 rfl w.heap.size 3 i0 (.int .i64 0) 1 8 Tryd.underlying23 hi hz0 hz1 hz2 rfl (by decide) _ _ _ rfl (World.ownsRow_nil _ _ _ _) _ _ _ (c.map (Value.int .i64)) rfl (by simp) ?s1 (ints_one c) ?s3 ?s4 ?s5 ?_))
  case s1 => exact ints_from (HC.out.mono hb1)
  case s3 => unfold maxLen; omega
  case s4 => omega
  case s5 => exact hb1.size
  intro v1 w2 hown1 hgrow1
  have HO1 : Hid (OwnInt w.heap.size w2 v1 c) := by
    unfold Hid OwnInt
    (try rw [Nat.zero_add] at hown1); (try rw [List.nil_append] at hown1)
    exact hown1
  have HB2 : Hid (Below w.heap.size w w2) := hb1.grown hgrow1 hb1.size (fun g hg => by cases hg)
  clear hown1 hgrow1 hb1
  obtain ⟨a1, k1, rfl, _⟩ := own_shape HO1.out
  go_wp2_with (first | (at_builtin; refine wpList_append_src rfl _ _ 23 rfl w2.heap.size 3 i0 (.int .i64 0) 1 8 Tryd.underlying23 hi hz0 hz1 hz2 rfl (by decide) _ _ _ rfl (World.ownsRow_nil _ _ _ _) _ _ _ (r.map (Value.int .i64)) rfl (by simp) ?t1 (ints_one r) ?t3 ?t4 ?t5 ?_))
  case t1 => exact ints_from (HR.out.mono HB2.out)
  case t3 => unfold maxLen; omega
  case t4 => omega
  case t5 => exact Nat.le_refl _
  intro v2 w3 hown2 hgrow2
  have HO2 : Hid (OwnInt w2.heap.size w3 v2 r) := by
    unfold Hid OwnInt
    (try rw [Nat.zero_add] at hown2); (try rw [List.nil_append] at hown2)
    exact hown2
  have HT : Hid (Two w.heap.size w3 (.slice a1 c.length k1) v2 c r) :=
    ⟨HO1.out.grown hgrow2, own_base HO2.out HB2.out.size, fun g hg hg' => by have := (HO1.out.lt g hg).2; have := (HO2.out.lt g hg').1; omega⟩
  have HB3 : Hid (Below w.heap.size w w3) := HB2.out.grown hgrow2 HB2.out.size (fun g hg => by cases hg)
  clear hown2 hgrow2 HO1 HO2 HB2
  obtain ⟨a2, k2, rfl, _⟩ := own_shape HT.out.2.1
  go_wp2_with (go_at_call 70; refine (changeDeeds_any _).mono ?_; rintro e w4 ⟨rfl, hb4⟩)
  have HT4 : Hid (Two w.heap.size w4 (.slice a1 c.length k1) (.slice a2 r.length k2) c r) := HT.out.below hb4 (Nat.le_refl _)
  have HB4 : Hid (Below w.heap.size w w4) := below_then HB3.out HB3.out.size hb4
  have HS4 : Hid (¬ ownS (.slice a1 c.length k1) (.slice a2 r.length k2) w4.heap.size) := fun h => by have := (HT4.out.ge _ h).2; omega
  clear HT HB3 hb4
  go_loopw [36] (fun i w' => ∃ (k : Nat) (c' r' : List Int), k ≤ ds.length ∧ i = .int .i64 k ∧ doDs c r (ds.take k) = some (c', r') ∧ Two w.heap.size w' (.slice a1 c.length k1) (.slice a2 r.length k2) c' r' ∧ TableAt w' w4.heap.size ∧ Below w.heap.size w w') (fun i _ => ds.length - (intOf i).toNat)
  case atStart => exact ⟨0, c, r, Nat.zero_le _, rfl, by simp [doDs], HT4.out.alloc _, ⟨by simp, by simp [go_sem], by simp [go_sem], by simp [go_sem], by simp [go_sem], by simp [go_sem]⟩, HB4.out.alloc HB4.out.size _⟩
  case round =>
    obtain ⟨k, c', r', hk, rfl, hdo, hT, hTab, hB⟩ := hrel
    have hsz := hB.size
    have HDO := (show Hid (doDs _ _ _ = _) from hdo)
    have HT := (show Hid (Two _ _ _ _ _ _) from hT)
    have HB := (show Hid (Below _ _ _) from hB)
    have HTab := (show Hid (TableAt _ _) from hTab)
    have hAlt := hTab.lt
    clear hdo hT hTab hB HT4 HB4 HC HR
    by_cases hlt : k < ds.length
    · have hdd := HA.out _ (nth_mem De.z ds k hlt)
      have hF' : InF c' r' c.length := doDs_inF (ds.take k) c r c' r' (fun d hd => HA.out d (List.mem_of_mem_take hd)) HI.out HDO.out
      obtain ⟨ad', cd', ed, _, hcs⟩ := HD.out.mono HB.out
      injection ed with ed1 ed2 ed3
      obtain ⟨b0, off, e0, hb0, c0, c1, c2⟩ := hcs k hlt
      rw [← ed1] at e0
      subst e0
      have hcl := hF'.cl
      have hrl := hF'.rl
      have HF' : Hid (InF c' r' c.length) := hF'
      clear hcs ed1 ed2 ed3 hF'
      rcases deB_cases hdd with ⟨a, b, hde, ha, hb⟩ | ⟨a, b, hde, ha, hb⟩ | ⟨a, b, hde, ha, hb⟩ | ⟨a, b, hde, ha, hb⟩ | ⟨a, hde, ha⟩
      · rw [hde] at c0 c1 c2
        dsimp only at c0 c1 c2
        have HN : Hid (doDs c r (ds.take (k + 1)) = some (c', r'.set a (nth 0 c' b))) := doDs_take_succ hlt HDO.out (by rw [hde]; simp [doD])
        have tb := HTab.out.c1
        have ha' : a < r'.length := by omega
        have hb' : b < c'.length := by omega
        clear hde hdd HDO hcl hrl
        go_wp2_with fail
        go_region_with (go_at_call 75; refine (changeLoad_any w.heap.size a b _ c' r' _ _ _ (by exact (HT.out.alloc _).drew) ha' hb').mono ?_; rintro e w5 ⟨rfl, h5, hf5⟩)
        all_goals
          have HT5 := (show Hid (Two _ _ _ _ _ _) from h5)
          have HTab5 : Hid (TableAt w5 w4.heap.size) := TableAt.frS (TableAt.frS HTab.out (.of_below (((Below.refl _ _).alloc (Nat.le_refl _) _).drew))  HS4.out) hf5 HS4.out
          have HB5 : Hid (Below w.heap.size w w5) := ((HB.out.alloc hsz _).drew).trans (hf5.below (fun q hq => (HT.out.ge q hq).1) (by simp; omega))
          clear h5 hf5
          go_wp2_with fail
          go_roundw
          case rel => exact ⟨k + 1, _, _, by omega, by go_num, HN.out, HT5.out, HTab5.out, HB5.out⟩
          case measure => simp [intOf]; omega
      · rw [hde] at c0 c1 c2
        dsimp only at c0 c1 c2
        have HN : Hid (doDs c r (ds.take (k + 1)) = some (c'.set a (nth 0 r' b), r')) := doDs_take_succ hlt HDO.out (by rw [hde]; simp [doD])
        have tb := HTab.out.c2
        have ha' : a < c'.length := by omega
        have hb' : b < r'.length := by omega
        clear hde hdd HDO hcl hrl
        go_wp2_with fail
        go_region_with (go_at_call 76; refine (changeStore_any w.heap.size a b _ c' r' _ _ _ (by exact (HT.out.alloc _).drew) ha' hb').mono ?_; rintro e w5 ⟨rfl, h5, hf5⟩)
        all_goals
          have HT5 := (show Hid (Two _ _ _ _ _ _) from h5)
          have HTab5 : Hid (TableAt w5 w4.heap.size) := TableAt.frS (TableAt.frS HTab.out (.of_below (((Below.refl _ _).alloc (Nat.le_refl _) _).drew))  HS4.out) hf5 HS4.out
          have HB5 : Hid (Below w.heap.size w w5) := ((HB.out.alloc hsz _).drew).trans (hf5.below (fun q hq => (HT.out.ge q hq).1) (by simp; omega))
          clear h5 hf5
          go_wp2_with fail
          go_roundw
          case rel => exact ⟨k + 1, _, _, by omega, by go_num, HN.out, HT5.out, HTab5.out, HB5.out⟩
          case measure => simp [intOf]; omega
      · rw [hde] at c0 c1 c2
        dsimp only at c0 c1 c2
        have HN : Hid (doDs c r (ds.take (k + 1)) = some (c', r'.set a (b : Int))) := doDs_take_succ hlt HDO.out (by rw [hde]; simp [doD])
        have tb := HTab.out.c3
        have ha' : a < r'.length := by omega
        have hb' := hb
        clear hde hdd HDO hcl hrl
        go_wp2_with fail
        go_region_with (go_at_call 77; refine (changeNum_any w.heap.size a _ _ c' r' _ _ _ (by exact (HT.out.alloc _).drew) ha').mono ?_; rintro e w5 ⟨rfl, h5, hf5⟩)
        all_goals
          have HT5 := (show Hid (Two _ _ _ _ _ _) from h5)
          have HTab5 : Hid (TableAt w5 w4.heap.size) := TableAt.frS (TableAt.frS HTab.out (.of_below (((Below.refl _ _).alloc (Nat.le_refl _) _).drew))  HS4.out) hf5 HS4.out
          have HB5 : Hid (Below w.heap.size w w5) := ((HB.out.alloc hsz _).drew).trans (hf5.below (fun q hq => (HT.out.ge q hq).1) (by simp; omega))
          clear h5 hf5
          go_wp2_with fail
          go_roundw
          case rel => exact ⟨k + 1, _, _, by omega, by go_num, HN.out, HT5.out, HTab5.out, HB5.out⟩
          case measure => simp [intOf]; omega
      · rw [hde] at c0 c1 c2
        dsimp only at c0 c1 c2
        have HN : Hid (doDs c r (ds.take (k + 1)) = some (c', r'.set a ((nth 0 r' a + nth 0 r' b) % 100))) := doDs_take_succ hlt HDO.out (by rw [hde]; simp [doD])
        have tb := HTab.out.c4
        have ha' : a < r'.length := by omega
        have hb' : b < r'.length := by omega
        clear hde hdd HDO hcl hrl
        go_wp2_with fail
        go_region_with (go_at_call 78; refine (changeAdd_any w.heap.size a b _ c' r' _ _ _ (by exact (HT.out.alloc _).drew) ha' hb' (nth_bd HF'.out.ra)).mono ?_; rintro e w5 ⟨rfl, h5, hf5⟩)
        all_goals
          have HT5 := (show Hid (Two _ _ _ _ _ _) from h5)
          have HTab5 : Hid (TableAt w5 w4.heap.size) := TableAt.frS (TableAt.frS HTab.out (.of_below (((Below.refl _ _).alloc (Nat.le_refl _) _).drew))  HS4.out) hf5 HS4.out
          have HB5 : Hid (Below w.heap.size w w5) := ((HB.out.alloc hsz _).drew).trans (hf5.below (fun q hq => (HT.out.ge q hq).1) (by simp; omega))
          clear h5 hf5
          go_wp2_with fail
          go_roundw
          case rel => exact ⟨k + 1, _, _, by omega, by go_num, HN.out, HT5.out, HTab5.out, HB5.out⟩
          case measure => simp [intOf]; omega
      · rw [hde] at c0 c1 c2
        dsimp only at c0 c1 c2
        have tb := HTab.out.c5
        have ha' : a < r'.length := by omega
        by_cases hz : nth 0 r' a = 0
        · have HN : Hid (chX c r ds = ([], [], false)) := chX_none HG.out (doDs_none_of_take hlt HDO.out (by rw [hde]; simp [doD, hz]))
          have hz' : (nth 0 r' a != 0) = false := by simp [hz]
          clear hde hdd HDO hcl hrl hz
          go_wp2_with fail
          go_region_with (go_at_call 79; refine (changeNeed_any w.heap.size a _ _ c' r' _ _ _ (by exact (HT.out.alloc _).drew) ha').mono ?_; rintro e w5 ⟨rfl, h5, hf5⟩)
          all_goals
            have HB5 : Hid (Below w.heap.size w w5) := ((HB.out.alloc hsz _).drew).trans (hf5.below (fun q hq => (HT.out.ge q hq).1) (by simp; omega))
            clear h5 hf5
            go_wp2_with fail
            refine bodyPost_ret (v := .tuple #[.slice none 0 0, .slice none 0 0, .bool false]) (by simp [results, Tryd.results57, go_sem]) rfl ⟨_, _, by rw [HN.out], by rw [HN.out]; exact Two.none _ _, HB5.out⟩
        · have HN : Hid (doDs c r (ds.take (k + 1)) = some (c', r')) := doDs_take_succ hlt HDO.out (by rw [hde]; simp [doD, hz])
          have hz' : (nth 0 r' a != 0) = true := by simp [hz]
          clear hde hdd HDO hcl hrl hz
          go_wp2_with fail
          go_region_with (go_at_call 79; refine (changeNeed_any w.heap.size a _ _ c' r' _ _ _ (by exact (HT.out.alloc _).drew) ha').mono ?_; rintro e w5 ⟨rfl, h5, hf5⟩)
          all_goals
            have HT5 := (show Hid (Two _ _ _ _ _ _) from h5)
            have HTab5 : Hid (TableAt w5 w4.heap.size) := TableAt.frS (TableAt.frS HTab.out (.of_below (((Below.refl _ _).alloc (Nat.le_refl _) _).drew))  HS4.out) hf5 HS4.out
            have HB5 : Hid (Below w.heap.size w w5) := ((HB.out.alloc hsz _).drew).trans (hf5.below (fun q hq => (HT.out.ge q hq).1) (by simp; omega))
            clear h5 hf5
            go_wp2_with fail
            go_roundw
            case rel => exact ⟨k + 1, _, _, by omega, by go_num, HN.out, HT5.out, HTab5.out, HB5.out⟩
            case measure => simp [intOf]; omega
    · have he : k = ds.length := by omega
      have HX : Hid (chX c r ds = (c', r', true)) := chX_some HG.out (by have := HDO.out; rwa [he, List.take_length] at this)
      clear he HDO HTab hAlt
      go_wp2_with fail
      refine bodyPost_ret (v := .tuple #[.slice a1 c.length k1, .slice a2 r.length k2, .bool true]) (by simp [results, Tryd.results57, go_sem]) rfl ⟨_, _, by rw [HX.out], by rw [HX.out]; exact HT.out, HB.out⟩

end Go.Proofs.YtpehlekjfnkhoaaDoor
