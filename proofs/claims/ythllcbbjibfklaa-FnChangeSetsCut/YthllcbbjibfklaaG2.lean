/-
  ChangeReads and ChangeWrites of the model; drawing what they are asked.
-/
import Derived.Test.YthllcbbjibfklaaG1
namespace Go.Proofs.Ythllcbbjibfklaa
open Go.RowKit
set_option linter.unusedSimpArgs false
set_option linter.unusedVariables false

theorem Two.growL {B : Nat} {w w' : World} {cv rv v' : Value} {c r : List Int} {x : Int} (h : Two B w cv rv c r) (ho : OwnInt B w' v' (c ++ [x])) (hg : w.grownBy w' cv.ownBlock) (hb : v'.ownBlock = cv.ownBlock ∨ v'.ownBlock = some w.heap.size) : Two B w' v' rv (c ++ [x]) r := by
  refine ⟨ho, World.ownsRow.kept h.2.1 hg ?_, fun g hg' hr => ?_⟩
  · cases hr : rv.ownBlock with
    | none => exact .inl rfl
    | some g => exact .inr (fun e => h.2.2 g e.symm hr)
  · rcases hb with h1 | h1
    · exact h.2.2 g (h1 ▸ hg') hr
    · rw [h1] at hg'
      injection hg' with e
      have := (h.2.1.lt g hr).2
      omega
theorem Two.growR {B : Nat} {w w' : World} {cv rv v' : Value} {c r : List Int} {x : Int} (h : Two B w cv rv c r) (ho : OwnInt B w' v' (r ++ [x])) (hg : w.grownBy w' rv.ownBlock) (hb : v'.ownBlock = rv.ownBlock ∨ v'.ownBlock = some w.heap.size) : Two B w' cv v' c (r ++ [x]) := by
  refine ⟨World.ownsRow.kept h.1 hg ?_, ho, fun g hc hr => ?_⟩
  · cases hc : cv.ownBlock with
    | none => exact .inl rfl
    | some g => exact .inr (fun e => h.2.2 g hc e.symm)
  · rcases hb with h1 | h1
    · exact h.2.2 g hc (h1 ▸ hr)
    · rw [h1] at hr
      injection hr with e
      have := (h.1.lt g hc).2
      omega

set_option maxHeartbeats 1000000 in
theorem l2Sort_any (v : Value) (xs : List Int) (w : World) (h : IntsAt w v xs) :
    Calls Try.prog 42 #[v] w fun e w' => ∃ v', e = .returned v' ∧ OwnInt w.heap.size w' v' (srt xs) ∧ Below w.heap.size w w' := by
  obtain ⟨a, cap, rfl, hm⟩ := h.shape
  have HI := (show Hid (IntsAt _ _ _) from h)
  clear h
  obtain ⟨i0, hi, hz0, hz1, hz2⟩ := info_parts Try.info_int
  go_enter Try.func42, Try.ntmps42
  go_wp2_with fail
  go_loopw [3, 4] (fun o q w' => ∃ k : Nat, k ≤ 3 ∧ q = .int .i64 k ∧ OwnInt w.heap.size w' o (srtN xs k) ∧ Below w.heap.size w w') (fun _ q _ => 3 - (intOf q).toNat)
  case atStart => exact ⟨0, by omega, rfl, World.ownsRow_made w #[] 0 (Nat.le_refl _) (by unfold maxLen; omega) (by simp), (Below.refl _ _).alloc (Nat.le_refl _) _⟩
  case round =>
    obtain ⟨k, hk, rfl, hown, hb⟩ := hrel
    have HO := (show Hid (OwnInt _ _ _ _) from hown)
    have HB := (show Hid (Below _ _ _) from hb)
    have hsz := hb.size
    clear hown hb
    by_cases hlt : k < 3
    · have hlt' : (k : Int) < 3 := by omega
      have hsl := srtN_len xs k
      cases he : hasB xs k
      · have HS : Hid (srtN xs (k + 1) = srtN xs k) := by rw [Hid, srtN_succ, he]; simp
        go_wp2_with (go_at_call 41; refine (l2Has_any _ xs _ _ (HI.out.mono HB.out)).mono ?_; rintro e w' ⟨rfl, hw⟩; have hw := hw.symm; subst hw)
        go_roundw
        case rel => exact ⟨k + 1, by omega, by go_num, by rw [HS.out]; exact HO.out, HB.out⟩
        case measure => simp [intOf]; omega
      · have HS : Hid (srtN xs (k + 1) = srtN xs k ++ [(k : Int)]) := by rw [Hid, srtN_succ, he]; simp
        go_wp2_with (first | (go_at_call 41; refine (l2Has_any _ xs _ _ (HI.out.mono HB.out)).mono ?_; rintro e w' ⟨rfl, hw⟩; have hw := hw.symm; subst hw) | (at_builtin; refine wpList_append_own _ rfl _ _ 23 rfl w.heap.size 3 i0 (.int .i64 0) 1 8 Try.underlying23 hi hz0 hz1 hz2 rfl (by decide) _ _ _ rfl (HO.out.alloc _) ⟨wr.heap.size, 0, none⟩ 1 1 [.int .i64 (k : Int)] rfl rfl ?a1 ?a2 ?a3 ?a4 ?a5 ?_))
        case a1 =>
          intro j u hj
          match j, hj with
          | 0, hj => simp at hj; subst hj; simp [Addr.add]
        case a2 => intro u hu; simp at hu; subst hu; rfl
        case a3 => unfold maxLen; omega
        case a4 => omega
        case a5 => simp; omega
        intro v' w4 hown' hgrow _
        have HO4 : Hid (OwnInt w.heap.size w4 v' (srtN xs (k + 1))) := by
          unfold Hid OwnInt; rw [HS.out, List.map_append, List.length_append]; exact hown'
        have HB4 : Hid (Below w.heap.size w w4) := (HB.out.alloc hsz _).grown hgrow (by simp; omega) (fun g hg => (HO.out.lt g hg).1)
        clear hown' hgrow HO HB
        go_wp2_with fail
        go_roundw
        case rel => exact ⟨k + 1, by omega, by go_num, HO4.out, HB4.out⟩
        case measure => simp [intOf]; omega
    · have hlt' : ¬ (k : Int) < 3 := by omega
      have he : k = 3 := by omega
      subst he
      go_wp2_with fail
      go_ret
      exact ⟨_, rfl, HO.out, HB.out⟩

theorem touch_snd (s : List Int × List Int) (d : De) : (touch s d).2 = if d.k = 2 then s.2 ++ [d.a] else s.2 := by
  unfold touch
  by_cases h1 : d.k = 1
  · have h2 : ¬ d.k = 2 := by omega
    rw [if_pos h1, if_neg h2]
    split <;> rfl
  · rw [if_neg h1]
    split <;> rfl
theorem raw_take (ds : List De) (k : Nat) (h : k < ds.length) : raw (ds.take (k + 1)) = touch (raw (ds.take k)) (nth De.z ds k) := by
  rw [take_nth De.z ds k h, raw_snoc]
theorem raw_take_len (ds : List De) (k : Nat) : (raw (ds.take k)).1.length ≤ ds.length ∧ (raw (ds.take k)).2.length ≤ ds.length := by
  have := raw_len (ds.take k)
  have h2 : (ds.take k).length ≤ ds.length := by simp; omega
  omega

set_option maxHeartbeats 1000000 in
theorem sChangeWrites_any (v : Value) (ds : List De) (w : World) (h : DeedsAt w v ds) (hl : ds.length ≤ 1048576) :
    Calls Try.prog 18 #[v] w fun e w' => ∃ v', e = .returned v' ∧ OwnInt w.heap.size w' v' (chW ds) ∧ Below w.heap.size w w' := by
  obtain ⟨a, cap, rfl, hm, hc⟩ := h
  obtain ⟨i0, hi, hz0, hz1, hz2⟩ := info_parts Try.info_int
  have HCS := (show Hid (∀ i, i < ds.length → _) from hc)
  clear hc
  go_enter Try.func18, Try.ntmps18
  go_wp2_with fail
  go_loopw [3, 4] (fun o q w' => ∃ k : Nat, k ≤ ds.length ∧ q = .int .i64 k ∧ OwnInt w.heap.size w' o (raw (ds.take k)).2 ∧ Below w.heap.size w w') (fun _ q _ => ds.length - (intOf q).toNat)
  case atStart => exact ⟨0, Nat.zero_le _, rfl, World.ownsRow_made w #[] 0 (Nat.le_refl _) (by unfold maxLen; omega) (by simp), (Below.refl _ _).alloc (Nat.le_refl _) _⟩
  case round =>
    obtain ⟨k, hk, rfl, hown, hb⟩ := hrel
    have HO := (show Hid (OwnInt _ _ _ _) from hown)
    have HB := (show Hid (Below _ _ _) from hb)
    have hsz := hb.size
    have hrl := (raw_take_len ds k).2
    by_cases hlt : k < ds.length
    · have hlt' : (k : Int) < (ds.length : Int) := by omega
      obtain ⟨b, off, rfl, hbw, c0, c1, c2⟩ := HCS.out k hlt
      rw [← hb.cell (p := ⟨b, _, none⟩) hbw] at c0 c1 c2
      have hbr : b < wr.heap.size := Nat.lt_of_lt_of_le hbw hsz
      clear hown hb
      by_cases h2 : (nth De.z ds k).k = 2
      · have h2' : ((nth De.z ds k).k == 2) = true := by simp [h2]
        have HS : Hid ((raw (ds.take (k + 1))).2 = (raw (ds.take k)).2 ++ [(nth De.z ds k).a]) := by rw [Hid, raw_take ds k hlt, touch_snd, if_pos h2]
        clear h2
        go_wp2_with (at_builtin; refine wpList_append_own _ rfl _ _ 23 rfl w.heap.size 3 i0 (.int .i64 0) 1 8 Try.underlying23 hi hz0 hz1 hz2 rfl (by decide) _ _ _ rfl (HO.out.alloc _) ⟨wr.heap.size, 0, none⟩ 1 1 [.int .i64 (nth De.z ds k).a] rfl rfl ?a1 ?a2 ?a3 ?a4 ?a5 ?_)
        case a1 =>
          intro j u hj
          match j, hj with
          | 0, hj => simp at hj; subst hj; simp [Addr.add]
        case a2 => intro u hu; simp at hu; subst hu; rfl
        case a3 => unfold maxLen; omega
        case a4 => omega
        case a5 => simp; omega
        intro v' w4 hown' hgrow _
        have HO4 : Hid (OwnInt w.heap.size w4 v' (raw (ds.take (k + 1))).2) := by
          unfold Hid OwnInt; rw [HS.out, List.map_append, List.length_append]; exact hown'
        have HB4 : Hid (Below w.heap.size w w4) := (HB.out.alloc hsz _).grown hgrow (by simp; omega) (fun g hg => (HO.out.lt g hg).1)
        clear hown' hgrow HO HB
        go_wp2_with fail
        go_roundw
        case rel => exact ⟨k + 1, by omega, by go_num, HO4.out, HB4.out⟩
        case measure => simp [intOf]; omega
      · have h2' : ((nth De.z ds k).k == 2) = false := by simp [h2]
        have HS : Hid ((raw (ds.take (k + 1))).2 = (raw (ds.take k)).2) := by rw [Hid, raw_take ds k hlt, touch_snd, if_neg h2]
        go_wp2_with fail
        go_roundw
        case rel => exact ⟨k + 1, by omega, by go_num, by rw [HS.out]; exact HO.out, HB.out⟩
        case measure => simp [intOf]; omega
    · have hlt' : ¬ (k : Int) < (ds.length : Int) := by omega
      have he : k = ds.length := by omega
      have hown2 : OwnInt w.heap.size wr u3 (raw ds).2 := by rw [he, List.take_length] at hown; exact hown
      have HO2 := (show Hid (OwnInt _ _ _ _) from hown2)
      clear hown hb hown2 HO he
      obtain ⟨a3, k3, rfl, _⟩ := own_shape HO2.out
      go_wp2_with (go_at_call 42; refine (l2Sort_any _ (raw ds).2 _ HO2.out.at).mono ?_; rintro e w5 ⟨v5, rfl, ho5, hb5⟩)
      go_ret
      exact ⟨_, rfl, own_base ho5 hsz, below_then HB.out hsz hb5⟩

set_option maxHeartbeats 2000000 in
theorem sChangeReads_any (v : Value) (ds : List De) (w : World) (h : DeedsAt w v ds) (hl : ds.length ≤ 1048576) :
    Calls Try.prog 17 #[v] w fun e w' => ∃ v', e = .returned v' ∧ OwnInt w.heap.size w' v' (chR ds) ∧ Below w.heap.size w w' := by
  obtain ⟨a, cap, rfl, hm, hc⟩ := h
  obtain ⟨i0, hi, hz0, hz1, hz2⟩ := info_parts Try.info_int
  have HCS := (show Hid (∀ i, i < ds.length → _) from hc)
  clear hc
  go_enter Try.func17, Try.ntmps17
  go_wp2_with fail
  go_loopw [3, 4, 5] (fun o p q w' => ∃ k : Nat, k ≤ ds.length ∧ q = .int .i64 k ∧ Two w.heap.size w' o p (raw (ds.take k)).1 (raw (ds.take k)).2 ∧ Below w.heap.size w w') (fun _ _ q _ => ds.length - (intOf q).toNat)
  case atStart =>
    refine ⟨0, Nat.zero_le _, rfl, ?_, ((Below.refl _ _).alloc (Nat.le_refl _) _).alloc (by simp) _⟩
    refine ⟨World.ownsRow.alloc (World.ownsRow_made w #[] 0 (Nat.le_refl _) (by unfold maxLen; omega) (by simp)) _, ?_, fun g hg hg' => ?_⟩
    · have := World.ownsRow_made (e := 3) (size := 1) (base := w.heap.size) (w.alloc (.cells #[] 3)) #[] 0 (by simp) (by unfold maxLen; omega) (by simp)
      unfold OwnInt; simpa [raw] using this
    · simp [Value.ownBlock] at hg hg'; omega
  case round =>
    obtain ⟨k, hk, rfl, hown, hb⟩ := hrel
    have HO := (show Hid (Two _ _ _ _ _ _) from hown)
    have HB := (show Hid (Below _ _ _) from hb)
    have hsz := hb.size
    have hrl := (raw_take_len ds k).2
    have hrl1 := (raw_take_len ds k).1
    by_cases hlt : k < ds.length
    · have hlt' : (k : Int) < (ds.length : Int) := by omega
      obtain ⟨b, off, rfl, hbw, c0, c1, c2⟩ := HCS.out k hlt
      rw [← hb.cell (p := ⟨b, _, none⟩) hbw] at c0 c1 c2
      have hbr : b < wr.heap.size := Nat.lt_of_lt_of_le hbw hsz
      clear hown hb
      obtain ⟨a3, k3, rfl, _⟩ := own_shape HO.out.1
      obtain ⟨a4, k4, rfl, _⟩ := own_shape HO.out.2.1
      by_cases h1 : (nth De.z ds k).k = 1
      · have h1' : ((nth De.z ds k).k == 1) = true := by simp [h1]
        cases he : hasB (raw (ds.take k)).2 (nth De.z ds k).b
        · have HS : Hid (raw (ds.take (k + 1)) = ((raw (ds.take k)).1 ++ [(nth De.z ds k).b], (raw (ds.take k)).2)) := by rw [Hid, raw_take ds k hlt]; simp [touch, h1, he]
          clear h1
          go_wp2_with (first | (go_at_call 41; refine (l2Has_any _ (raw (ds.take k)).2 _ _ HO.out.2.1.at).mono ?_; rintro e w' ⟨rfl, hw⟩; have hw := hw.symm; subst hw) | (at_builtin; refine wpList_append_blk rfl _ _ 23 rfl w.heap.size 3 i0 (.int .i64 0) 1 8 Try.underlying23 hi hz0 hz1 hz2 rfl (by decide) _ _ _ rfl (HO.out.1.alloc _) ⟨wr.heap.size, 0, none⟩ 1 1 [.int .i64 (nth De.z ds k).b] rfl rfl ?a1 ?a2 (by omega) ?a3 ?a4 ?a5 ?_))
          case a1 =>
            intro j u hj
            match j, hj with
            | 0, hj => simp at hj; subst hj; simp [Addr.add]
          case a2 => intro u hu; simp at hu; subst hu; rfl
          case a3 => unfold maxLen; omega
          case a4 => omega
          case a5 => simp; omega
          intro v' w4 hown' hgrow hblk
          have HO4 : Hid (Two w.heap.size w4 v' (.slice a4 (raw (ds.take k)).2.length k4) (raw (ds.take (k + 1))).1 (raw (ds.take (k + 1))).2) := by
            rw [Hid, HS.out]
            refine (HO.out.alloc _).growL ?_ hgrow (by simpa using hblk)
            unfold OwnInt; rw [List.map_append, List.length_append]; exact hown'
          have HB4 : Hid (Below w.heap.size w w4) := (HB.out.alloc hsz _).grown hgrow (by simp; omega) (fun g hg => (HO.out.1.lt g hg).1)
          clear hown' hgrow hblk HO HB HS
          go_wp2_with fail
          go_roundw
          case rel => exact ⟨k + 1, by omega, by go_num, HO4.out, HB4.out⟩
          case measure => simp [intOf]; omega
        · have HS : Hid (raw (ds.take (k + 1)) = raw (ds.take k)) := by rw [Hid, raw_take ds k hlt]; simp [touch, h1, he]
          clear h1
          go_wp2_with (go_at_call 41; refine (l2Has_any _ (raw (ds.take k)).2 _ _ HO.out.2.1.at).mono ?_; rintro e w' ⟨rfl, hw⟩; have hw := hw.symm; subst hw)
          go_roundw
          case rel => exact ⟨k + 1, by omega, by go_num, by rw [HS.out]; exact HO.out, HB.out⟩
          case measure => simp [intOf]; omega
      · have h1' : ((nth De.z ds k).k == 1) = false := by simp [h1]
        by_cases h2 : (nth De.z ds k).k = 2
        · have h2' : ((nth De.z ds k).k == 2) = true := by simp [h2]
          have HS : Hid (raw (ds.take (k + 1)) = ((raw (ds.take k)).1, (raw (ds.take k)).2 ++ [(nth De.z ds k).a])) := by rw [Hid, raw_take ds k hlt]; simp [touch, h1, h2]
          clear h1 h2
          go_wp2_with (at_builtin; refine wpList_append_blk rfl _ _ 23 rfl w.heap.size 3 i0 (.int .i64 0) 1 8 Try.underlying23 hi hz0 hz1 hz2 rfl (by decide) _ _ _ rfl (HO.out.2.1.alloc _) ⟨wr.heap.size, 0, none⟩ 1 1 [.int .i64 (nth De.z ds k).a] rfl rfl ?b1 ?b2 (by omega) ?b3 ?b4 ?b5 ?_)
          case b1 =>
            intro j u hj
            match j, hj with
            | 0, hj => simp at hj; subst hj; simp [Addr.add]
          case b2 => intro u hu; simp at hu; subst hu; rfl
          case b3 => unfold maxLen; omega
          case b4 => omega
          case b5 => simp; omega
          intro v' w4 hown' hgrow hblk
          have HO4 : Hid (Two w.heap.size w4 (.slice a3 (raw (ds.take k)).1.length k3) v' (raw (ds.take (k + 1))).1 (raw (ds.take (k + 1))).2) := by
            rw [Hid, HS.out]
            refine (HO.out.alloc _).growR ?_ hgrow (by simpa using hblk)
            unfold OwnInt; rw [List.map_append, List.length_append]; exact hown'
          have HB4 : Hid (Below w.heap.size w w4) := (HB.out.alloc hsz _).grown hgrow (by simp; omega) (fun g hg => (HO.out.2.1.lt g hg).1)
          clear hown' hgrow hblk HO HB HS
          go_wp2_with fail
          go_roundw
          case rel => exact ⟨k + 1, by omega, by go_num, HO4.out, HB4.out⟩
          case measure => simp [intOf]; omega
        · have h2' : ((nth De.z ds k).k == 2) = false := by simp [h2]
          have HS : Hid (raw (ds.take (k + 1)) = raw (ds.take k)) := by rw [Hid, raw_take ds k hlt]; simp [touch, h1, h2]
          go_wp2_with fail
          go_roundw
          case rel => exact ⟨k + 1, by omega, by go_num, by rw [HS.out]; exact HO.out, HB.out⟩
          case measure => simp [intOf]; omega
    · have hlt' : ¬ (k : Int) < (ds.length : Int) := by omega
      have he : k = ds.length := by omega
      have hown2 : Two w.heap.size wr u3 u4 (raw ds).1 (raw ds).2 := by rw [he, List.take_length] at hown; exact hown
      have HO2 := (show Hid (Two _ _ _ _ _ _) from hown2)
      clear hown hb hown2 HO he hrl hrl1
      obtain ⟨a3, k3, rfl, _⟩ := own_shape HO2.out.1
      obtain ⟨a4, k4, rfl, _⟩ := own_shape HO2.out.2.1
      go_wp2_with (go_at_call 42; refine (l2Sort_any _ (raw ds).1 _ HO2.out.1.at).mono ?_; rintro e w5 ⟨v5, rfl, ho5, hb5⟩)
      go_ret
      exact ⟨_, rfl, own_base ho5 hsz, below_then HB.out hsz hb5⟩


end Go.Proofs.Ythllcbbjibfklaa
