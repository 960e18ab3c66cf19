/-
  ChangeReads and ChangeWrites of the program.
-/
import Derived.Test.YthllcbbjibfklaaG3
import Derived.Test.YthllcbbjibfklaaG4
namespace Go.Proofs.Ythllcbbjibfklaa
open Go.RowKit
set_option linter.unusedSimpArgs false
set_option linter.unusedVariables false

/-! ### Plain -/
theorem srt_eq (S : List Int) : srt S = (if hasB S 0 then [0] else []) ++ (if hasB S 1 then [1] else []) ++ (if hasB S 2 then [2] else []) := by
  unfold srt
  rw [srtN_succ, srtN_succ, srtN_succ]
  simp [srtN]
theorem hasB_snoc (S : List Int) (x y : Int) : hasB (S ++ [x]) y = (hasB S y || decide (y = x)) := by
  unfold hasB; simp [Bool.decide_or]
theorem pl3_cases {x : Int} (h : plB x 3 = true) : x = 0 ∨ x = 1 ∨ x = 2 := by
  rw [plB_iff] at h; omega
theorem srt_none (S : List Int) (x : Int) (h : plB x 3 = false) : srt (S ++ [x]) = srt S := by
  have h0 : ¬ (0 = x) := fun e => by subst e; simp [plB] at h
  have h1 : ¬ (1 = x) := fun e => by subst e; simp [plB] at h
  have h2 : ¬ (2 = x) := fun e => by subst e; simp [plB] at h
  rw [srt_eq, srt_eq, hasB_snoc, hasB_snoc, hasB_snoc]
  simp [h0, h1, h2]
theorem srt_mem (S : List Int) (x : Int) : (srt S).contains x = (hasB S x && plB x 3) := by
  rw [Bool.eq_iff_iff, List.contains_iff_mem, mem_srt]
  simp [hasB, plB]; omega
theorem srt_there (S : List Int) (x : Int) (h : hasB S x = true) : srt (S ++ [x]) = srt S := by
  have key : ∀ y, hasB (S ++ [x]) y = hasB S y := fun y => by
    rw [hasB_snoc]
    by_cases e : y = x
    · subst e; simp [h]
    · simp [e]
  rw [srt_eq, srt_eq, key, key, key]
theorem srt_new (S : List Int) (x : Int) (h : plB x 3 = true) (hn : hasB S x = false) : (srt S).take ((srt S).countP (· < x)) ++ x :: (srt S).drop ((srt S).countP (· < x)) = srt (S ++ [x]) := by
  rw [srt_eq S, srt_eq (S ++ [x]), hasB_snoc, hasB_snoc, hasB_snoc]
  rcases pl3_cases h with rfl | rfl | rfl
  · rw [hn]; cases hasB S 1 <;> cases hasB S 2 <;> rfl
  · rw [hn]; cases hasB S 0 <;> cases hasB S 2 <;> rfl
  · rw [hn]; cases hasB S 0 <;> cases hasB S 1 <;> rfl
theorem srt_len (S : List Int) : (srt S).length ≤ 3 := srtN_len S 3
theorem srt_le (S : List Int) : (srt S).Pairwise (· ≤ ·) := by
  rw [srt_eq]; cases hasB S 0 <;> cases hasB S 1 <;> cases hasB S 2 <;> simp
theorem srt_count (S : List Int) (x : Int) : (srt S).countP (· < x) ≤ (srt S).length := List.countP_le_length
theorem touch_load {s : List Int × List Int} {d : De} (h1 : d.k = 1) (hn : (srt s.2).contains d.b = false) : srt (touch s d).1 = srt (s.1 ++ [d.b]) ∧ (touch s d).2 = s.2 := by
  rw [srt_mem] at hn
  unfold touch
  rw [if_pos h1]
  cases hw : hasB s.2 d.b
  · simp
  · have hp : plB d.b 3 = false := by simpa [hw] using hn
    simp [srt_none _ _ hp]
theorem touch_held {s : List Int × List Int} {d : De} (h1 : d.k = 1) (hn : (srt s.2).contains d.b = true) : touch s d = s := by
  rw [srt_mem] at hn
  simp only [Bool.and_eq_true] at hn
  simp [touch, h1, hn.1]

/-! ### withCell -/
theorem OwnInt.drewN {B : Nat} {w : World} {v : Value} {xs : List Int} (h : OwnInt B w v xs) (q : Nat) : OwnInt B (w.drewN q) v xs := own_heap h fun g _ => by simp
theorem FrS.drewN {S : Nat → Prop} {a w : World} (h : FrS S a w) (q : Nat) : FrS S a (w.drewN q) := h.trans (.of_below (below_drewN (Below.refl _ _) q))

set_option maxHeartbeats 1000000 in
theorem withCell_any (B : Nat) (S : List Int) (x : Int) (v : Value) (w : World) (h : OwnInt B w v (srt S)) (hB : B ≤ w.heap.size) :
    Calls Try.prog 58 #[v, .int .i64 x] w fun e w' => ∃ v', e = .returned v' ∧ OwnInt B w' v' (srt (S ++ [x])) ∧ FrS (fun k => v.ownBlock = some k) w w' ∧ (v'.ownBlock = v.ownBlock ∨ ∃ g, v'.ownBlock = some g ∧ w.heap.size ≤ g) := by
  have HO := (show Hid (OwnInt _ _ _ _) from h)
  have hlen := srt_len S
  obtain ⟨a, cap, rfl, _⟩ := own_shape h
  clear h
  cases hp : plB x 3
  · have HF : Hid (srt (S ++ [x]) = srt S) := srt_none S x hp
    go_enter Try.func58, Try.ntmps58
    go_wp2_with (go_at_call 49; refine (isPlace_any _ _ _).mono ?_; rintro e w' ⟨rfl, rfl⟩)
    go_ret
    exact ⟨_, rfl, by rw [HF.out]; exact HO.out, FrS.refl _ _, .inl rfl⟩
  · cases hh : hasB S x
    · have hc : (srt S).contains x = false := by rw [srt_mem, hh]; rfl
      have HN : Hid (_ = srt (S ++ [x])) := srt_new S x hp hh
      have hcnt := srt_count S x
      obtain ⟨c, hce⟩ : ∃ c : Nat, c = (srt S).countP (· < x) := ⟨_, rfl⟩
      have HC := (show Hid (c = _) from hce)
      rw [← hce] at HN hcnt
      clear hce
      go_enter Try.func58, Try.ntmps58
      go_wp2_with (first | (go_at_call 49; refine (isPlace_any _ _ _).mono ?_; rintro e w' ⟨rfl, rfl⟩) | (go_at_call 57; refine (search_any B (srt S) x _ _ HO.out (by omega) (srt_le S)).mono ?_; rw [← HC.out, hc]; rintro e w' ⟨rfl, q, rfl⟩) | (go_at_call 62; refine (insert_any B (srt S) x c _ _ _ _ ((HO.out.drewN q).alloc _) (by simp; omega) hcnt (by omega) (heap_alloc_new _ _) (fun e => by have := (HO.out.lt _ e).2; simp at this)).mono ?_; rintro e w' ⟨v', rfl, ho, hf, hb⟩))
      go_ret
      refine ⟨_, rfl, by rw [← HN.out]; exact ho, (((FrS.refl _ _).drewN q).alloc _).trans hf, ?_⟩
      rcases hb with hb | hb
      · exact .inl hb
      · exact .inr ⟨_, hb, by simp⟩
    · have hc : (srt S).contains x = true := by rw [srt_mem, hh, hp]; rfl
      have HF : Hid (srt (S ++ [x]) = srt S) := srt_there S x hh
      go_enter Try.func58, Try.ntmps58
      go_wp2_with (first | (go_at_call 49; refine (isPlace_any _ _ _).mono ?_; rintro e w' ⟨rfl, rfl⟩) | (go_at_call 57; refine (search_any B (srt S) x _ _ HO.out (by omega) (srt_le S)).mono ?_; rw [hc]; rintro e w' ⟨rfl, q, rfl⟩))
      go_ret
      exact ⟨_, rfl, by rw [HF.out]; exact HO.out.drewN q, (FrS.refl _ _).drewN q, .inl rfl⟩

theorem Two.withL {B : Nat} {w w' : World} {cv rv v' : Value} {c c' r : List Int} (hf : FrS (fun k => cv.ownBlock = some k) w w') (ho : OwnInt B w' v' c') (hb : v'.ownBlock = cv.ownBlock ∨ ∃ g, v'.ownBlock = some g ∧ w.heap.size ≤ g) (h : Two B w cv rv c r) : Two B w' v' rv c' r := by
  refine ⟨ho, own_heap h.2.1 fun g hg => hf.block g (h.2.1.lt g hg).2 (fun e => h.2.2 g e hg), fun g hg hr => ?_⟩
  rcases hb with h1 | ⟨g', h1, h2⟩
  · exact h.2.2 g (h1 ▸ hg) hr
  · rw [h1] at hg
    injection hg with e
    have := (h.2.1.lt g hr).2
    omega
theorem Two.withR {B : Nat} {w w' : World} {cv rv v' : Value} {c r r' : List Int} (hf : FrS (fun k => rv.ownBlock = some k) w w') (ho : OwnInt B w' v' r') (hb : v'.ownBlock = rv.ownBlock ∨ ∃ g, v'.ownBlock = some g ∧ w.heap.size ≤ g) (h : Two B w cv rv c r) : Two B w' cv v' c r' := by
  refine ⟨own_heap h.1 fun g hg => hf.block g (h.1.lt g hg).2 (fun e => h.2.2 g hg e), ho, fun g hg hr => ?_⟩
  rcases hb with h1 | ⟨g', h1, h2⟩
  · exact h.2.2 g hg (h1 ▸ hr)
  · rw [h1] at hr
    injection hr with e
    have := (h.1.lt g hg).2
    omega
theorem Two.drewN {B : Nat} {w : World} {cv rv : Value} {c r : List Int} (h : Two B w cv rv c r) (q : Nat) : Two B (w.drewN q) cv rv c r := ⟨h.1.drewN q, h.2.1.drewN q, h.2.2⟩

theorem wrap_nat (k : Nat) (h : k < 9223372036854775807) : True := trivial

set_option maxHeartbeats 4000000 in
set_option maxRecDepth 20000 in
theorem touched_any (v : Value) (ds : List De) (w : World) (h : DeedsAt w v ds) :
    Calls Try.prog 40 #[v] w fun e w' => ∃ x y, e = .returned (.tuple #[x, y]) ∧ Two w.heap.size w' x y (chR ds) (chW ds) ∧ Below w.heap.size w w' := by
  obtain ⟨a, cap, rfl, hm, hc⟩ := h
  have HCS := (show Hid (∀ i, i < ds.length → _) from hc)
  clear hc
  go_enter Try.func40, Try.ntmps40
  go_wp2_with fail
  go_loopw [4, 5, 14] (fun o p q w' => ∃ k : Nat, k ≤ ds.length ∧ q = .int .i64 k ∧ Two w.heap.size w' o p (srt (raw (ds.take k)).1) (srt (raw (ds.take k)).2) ∧ Below w.heap.size w w') (fun _ _ q _ => ds.length - (intOf q).toNat)
  case atStart => exact ⟨0, Nat.zero_le _, rfl, ⟨World.ownsRow_nil _ _ _ _, World.ownsRow_nil _ _ _ _, fun g hg => by simp [Value.ownBlock] at hg⟩, Below.refl _ _⟩
  case round =>
    obtain ⟨k, hk, rfl, hown, hb⟩ := hrel
    have HO := (show Hid (Two _ _ _ _ _ _) from hown)
    have HB := (show Hid (Below _ _ _) from hb)
    have hsz := hb.size
    by_cases hlt : k < ds.length
    · have hlt' : (k : Int) < (ds.length : Int) := by omega
      obtain ⟨b, off, rfl, hbw, c0, c1, c2⟩ := HCS.out k hlt
      rw [← hb.cell (p := ⟨b, _, none⟩) hbw] at c0 c1 c2
      have hbr : b < wr.heap.size := Nat.lt_of_lt_of_le hbw hsz
      have hrt := raw_take ds k hlt
      clear hown hb
      obtain ⟨a3, k3, rfl, _⟩ := own_shape HO.out.1
      obtain ⟨a4, k4, rfl, _⟩ := own_shape HO.out.2.1
      obtain ⟨s, hs⟩ : ∃ s, s = raw (ds.take k) := ⟨_, rfl⟩
      rw [← hs] at HO hrt ⊢
      obtain ⟨d, hd⟩ : ∃ d, d = nth De.z ds k := ⟨_, rfl⟩
      rw [← hd] at c0 c1 c2 hrt
      have HRT := (show Hid (raw (ds.take (k + 1)) = touch s d) from hrt)
      clear hrt hs hd
      obtain ⟨dk, da, db⟩ := d
      dsimp only at c0 c1 c2
      by_cases h1 : dk = 1
      · subst h1
        cases hst : (srt s.2).contains db
        · have HT1 : Hid (srt (raw (ds.take (k + 1))).1 = srt (s.1 ++ [db])) := by rw [Hid, HRT.out]; exact (touch_load (d := ⟨1, da, db⟩) rfl hst).1
          have HT2 : Hid (srt (raw (ds.take (k + 1))).2 = srt s.2) := by rw [Hid, HRT.out, (touch_load (d := ⟨1, da, db⟩) rfl hst).2]
          clear HRT
          go_wp2_with (first | (go_at_call 57; refine (search_any w.heap.size (srt s.2) db _ _ (by repeat (first | exact HO.out.2.1 | refine OwnInt.alloc ?_ _)) (by have := srt_len s.2; omega) (srt_le s.2)).mono ?_; rw [hst]; rintro e w' ⟨rfl, q, rfl⟩) | (go_at_call 58; refine (withCell_any w.heap.size s.1 db _ _ (by repeat (first | exact HO.out.1 | refine OwnInt.drewN ?_ _ | refine OwnInt.alloc ?_ _)) (by simp; omega)).mono ?_; rintro e w6 ⟨v6, rfl, ho6, hf6, hb6⟩) | go_in)
          have HT6 : Hid (Two w.heap.size w6 v6 (.slice a4 (srt s.2).length k4) (srt (raw (ds.take (k + 1))).1) (srt (raw (ds.take (k + 1))).2)) := by
            rw [Hid, HT1.out, HT2.out]
            refine Two.withL (c := srt s.1) hf6 ho6 hb6 ?_
            repeat (first | exact HO.out | refine Two.drewN ?_ _ | refine Two.alloc ?_ _)
          have HB6 : Hid (Below w.heap.size w w6) := by
            refine Below.trans ?_ (hf6.below (B := w.heap.size) (fun j hj => (HO.out.1.lt j hj).1) (by simp; omega))
            repeat (first | exact HB.out | refine below_drewN ?_ _ | refine Below.alloc ?_ (by first | exact hsz | (simp; omega)) _)
          clear ho6 hf6 hb6 HO HB c0 c1 c2
          go_wp2_with fail
          go_roundw
          case rel => exact ⟨k + 1, by omega, by go_num, HT6.out, HB6.out⟩
          case measure => simp [intOf]; omega
        · have HT1 : Hid (raw (ds.take (k + 1)) = s) := by rw [Hid, HRT.out]; exact touch_held (d := ⟨1, da, db⟩) rfl hst
          clear HRT
          go_wp2_with (first | (go_at_call 57; refine (search_any w.heap.size (srt s.2) db _ _ (by repeat (first | exact HO.out.2.1 | refine OwnInt.alloc ?_ _)) (by have := srt_len s.2; omega) (srt_le s.2)).mono ?_; rw [hst]; rintro e w' ⟨rfl, q, rfl⟩) | go_in)
          go_roundw
          case rel =>
            refine ⟨k + 1, by omega, by go_num, ?_, ?_⟩
            · rw [HT1.out]
              repeat (first | exact HO.out | refine Two.drewN ?_ _ | refine Two.alloc ?_ _)
            · repeat (first | exact HB.out | refine below_drewN ?_ _ | refine Below.alloc ?_ (by first | exact hsz | (simp; omega)) _)
          case measure => simp [intOf]; omega
      by_cases h2 : dk = 2
      · subst h2
        have HT1 : Hid (raw (ds.take (k + 1)) = (s.1, s.2 ++ [da])) := by rw [Hid, HRT.out]; rfl
        clear HRT
        go_wp2_with (first | (go_at_call 58; refine (withCell_any w.heap.size s.2 da _ _ (by repeat (first | exact HO.out.2.1 | refine OwnInt.drewN ?_ _ | refine OwnInt.alloc ?_ _)) (by simp; omega)).mono ?_; rintro e w6 ⟨v6, rfl, ho6, hf6, hb6⟩) | go_in)
        have HT6 : Hid (Two w.heap.size w6 (.slice a3 (srt s.1).length k3) v6 (srt (raw (ds.take (k + 1))).1) (srt (raw (ds.take (k + 1))).2)) := by
          rw [Hid, HT1.out]
          refine Two.withR (r := srt s.2) hf6 ho6 hb6 ?_
          repeat (first | exact HO.out | refine Two.drewN ?_ _ | refine Two.alloc ?_ _)
        have HB6 : Hid (Below w.heap.size w w6) := by
          refine Below.trans ?_ (hf6.below (B := w.heap.size) (fun j hj => (HO.out.2.1.lt j hj).1) (by simp; omega))
          repeat (first | exact HB.out | refine below_drewN ?_ _ | refine Below.alloc ?_ (by first | exact hsz | (simp; omega)) _)
        clear ho6 hf6 hb6 HO HB c0 c1 c2
        go_wp2_with fail
        go_roundw
        case rel => exact ⟨k + 1, by omega, by go_num, HT6.out, HB6.out⟩
        case measure => simp [intOf]; omega
      have HT1 : Hid (raw (ds.take (k + 1)) = s) := by rw [Hid, HRT.out]; simp [touch, h1, h2]
      clear HRT
      have g1 : (dk == 1) = false := by simp [h1]
      have g2 : (dk == 2) = false := by simp [h2]
      by_cases h3 : dk = 3
      · subst h3
        go_wp2_with go_in
        go_roundw
        case rel =>
          refine ⟨k + 1, by omega, by go_num, ?_, ?_⟩
          · rw [HT1.out]
            repeat (first | exact HO.out | refine Two.drewN ?_ _ | refine Two.alloc ?_ _)
          · repeat (first | exact HB.out | refine below_drewN ?_ _ | refine Below.alloc ?_ (by first | exact hsz | (simp; omega)) _)
        case measure => simp [intOf]; omega
      have g3 : (dk == 3) = false := by simp [h3]
      by_cases h4 : dk = 4
      · subst h4
        go_wp2_with go_in
        go_roundw
        case rel =>
          refine ⟨k + 1, by omega, by go_num, ?_, ?_⟩
          · rw [HT1.out]
            repeat (first | exact HO.out | refine Two.drewN ?_ _ | refine Two.alloc ?_ _)
          · repeat (first | exact HB.out | refine below_drewN ?_ _ | refine Below.alloc ?_ (by first | exact hsz | (simp; omega)) _)
        case measure => simp [intOf]; omega
      have g4 : (dk == 4) = false := by simp [h4]
      by_cases h5 : dk = 5 ∧ db = 0
      · obtain ⟨rfl, rfl⟩ := h5
        go_wp2_with go_in
        go_roundw
        case rel =>
          refine ⟨k + 1, by omega, by go_num, ?_, ?_⟩
          · rw [HT1.out]
            repeat (first | exact HO.out | refine Two.drewN ?_ _ | refine Two.alloc ?_ _)
          · repeat (first | exact HB.out | refine below_drewN ?_ _ | refine Below.alloc ?_ (by first | exact hsz | (simp; omega)) _)
        case measure => simp [intOf]; omega
      by_cases h6 : dk = 5
      · subst h6
        have g5 : (db == 0) = false := by simp at h5; simp [h5]
        clear h5
        go_wp2_with go_in
        go_roundw
        case rel =>
          refine ⟨k + 1, by omega, by go_num, ?_, ?_⟩
          · rw [HT1.out]
            repeat (first | exact HO.out | refine Two.drewN ?_ _ | refine Two.alloc ?_ _)
          · repeat (first | exact HB.out | refine below_drewN ?_ _ | refine Below.alloc ?_ (by first | exact hsz | (simp; omega)) _)
        case measure => simp [intOf]; omega
      have g6 : (dk == 5) = false := by simp [h6]
      clear h1 h2 h3 h4 h5 h6
      go_wp2_with go_in
      go_roundw
      case rel =>
        refine ⟨k + 1, by omega, by go_num, ?_, ?_⟩
        · rw [HT1.out]
          repeat (first | exact HO.out | refine Two.drewN ?_ _ | refine Two.alloc ?_ _)
        · repeat (first | exact HB.out | refine below_drewN ?_ _ | refine Below.alloc ?_ (by first | exact hsz | (simp; omega)) _)
      case measure => simp [intOf]; omega
    · have hlt' : ¬ (k : Int) < (ds.length : Int) := by omega
      have he : k = ds.length := by omega
      have hown2 : Two w.heap.size wr u4 u5 (chR ds) (chW ds) := by rw [he, List.take_length] at hown; exact hown
      have HO2 := (show Hid (Two _ _ _ _ _ _) from hown2)
      clear hown hb hown2 HO he
      obtain ⟨a3, k3, rfl, _⟩ := own_shape HO2.out.1
      obtain ⟨a4, k4, rfl, _⟩ := own_shape HO2.out.2.1
      go_wp2_with fail
      go_ret2
      exact ⟨_, _, rfl, HO2.out, HB.out⟩

set_option maxHeartbeats 400000 in
theorem changeReads_any (v : Value) (ds : List De) (w : World) (h : DeedsAt w v ds) :
    Calls Try.prog 15 #[v] w fun e w' => ∃ v', e = .returned v' ∧ OwnInt w.heap.size w' v' (chR ds) ∧ Below w.heap.size w w' := by
  obtain ⟨a, cap, rfl, hm⟩ := h.shape
  have HD := (show Hid (DeedsAt _ _ _) from h)
  clear h
  go_enter Try.func15, Try.ntmps15
  go_wp2_with fail
  refine (touched_any _ ds _ HD.out).mono ?_
  rintro e w1 ⟨x, y, rfl, ht, hb⟩
  obtain ⟨a3, k3, rfl, _⟩ := own_shape ht.1
  obtain ⟨a4, k4, rfl, _⟩ := own_shape ht.2.1
  have HT := (show Hid (Two _ _ _ _ _ _) from ht)
  clear ht
  go_wp2_with fail
  go_ret
  exact ⟨_, rfl, HT.out.1, hb⟩

set_option maxHeartbeats 400000 in
theorem changeWrites_any (v : Value) (ds : List De) (w : World) (h : DeedsAt w v ds) :
    Calls Try.prog 13 #[v] w fun e w' => ∃ v', e = .returned v' ∧ OwnInt w.heap.size w' v' (chW ds) ∧ Below w.heap.size w w' := by
  obtain ⟨a, cap, rfl, hm⟩ := h.shape
  have HD := (show Hid (DeedsAt _ _ _) from h)
  clear h
  go_enter Try.func13, Try.ntmps13
  go_wp2_with fail
  refine (touched_any _ ds _ HD.out).mono ?_
  rintro e w1 ⟨x, y, rfl, ht, hb⟩
  obtain ⟨a3, k3, rfl, _⟩ := own_shape ht.1
  obtain ⟨a4, k4, rfl, _⟩ := own_shape ht.2.1
  have HT := (show Hid (Two _ _ _ _ _ _) from ht)
  clear ht
  go_wp2_with fail
  go_ret
  exact ⟨_, rfl, HT.out.2.1, hb⟩


end Go.Proofs.Ythllcbbjibfklaa
