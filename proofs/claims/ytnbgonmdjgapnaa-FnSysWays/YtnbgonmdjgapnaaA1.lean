/-
  TreeLive: a closure asked in a loop; of the program and of the model (by mka1.py).
-/
import Derived.Test.YtnbgonmdjgapnaaBase04
import Derived.Test.YtnbgonmdjgapnaaBase33
import Derived.Laws.EntriesVeiled
import Derived.Deep.RegionWith
namespace Go.Proofs.Ytnbgonmdjgapnaa
open Go.RowKit
set_option linter.unusedSimpArgs false
set_option linter.unusedVariables false
set_option maxRecDepth 20000

def lvB (t : Ta) : Bool := decide (t.way = 0) || decide (t.way = 1)
/-- the places, of the first so many, of which something holds -/
def plW (f : Nat → Bool) (k : Nat) : List Int := ((List.range k).filter f).map fun i : Nat => (i : Int)
theorem plW_succ (f : Nat → Bool) (k : Nat) : plW f (k + 1) = plW f k ++ if f k then [(k : Int)] else [] := by
  unfold plW
  rw [List.range_succ, List.filter_append, List.map_append]
  cases h : f k <;> simp [h]
theorem plW_len (f : Nat → Bool) (k : Nat) : (plW f k).length ≤ k := by
  unfold plW
  have := List.length_filter_le f (List.range k)
  simpa using this
def liveL (s : Sy) : List Int := plW (fun i => lvB (nth Ta.z s.tasks i)) s.tasks.length

set_option maxHeartbeats 400000 in
theorem lv_any (t : Ta) (a3 a8 a9 a10 : Option Addr) (c3 c8 c9 c10 : Nat) (w : World) :
    Calls Try.prog 73 #[.agg #[.int .i64 t.body, .int .i64 t.pc, .int .i64 t.up, .slice a3 t.regs.length c3, .int .i64 t.way, .int .i64 t.stage, .int .i64 t.at_, .int .i64 t.since, .slice a8 t.old.length c8, .slice a9 t.reads.length c9, .slice a10 t.puts.length c10, .int .i64 t.when_, .int .i64 t.from_]] w fun r w' => r = .returned (.bool (lvB t)) ∧ Below w.heap.size w w' := by
  by_cases h1 : t.way = 0
  · have HF : Hid (lvB t = true) := by simp [Hid, lvB, h1]
    have h1' : (t.way == 0) = true := by simp [h1]
    go_enter Try.func73, Try.ntmps73
    go_wp2_with fail
    go_ret
    exact ⟨by rw [HF.out]; rfl, (by repeat (first | with_reducible exact Below.refl _ _ | (with_reducible refine Below.setCell ?_ ?hs _; case hs => ((try simp); try omega)) | (with_reducible refine Below.alloc ?_ ?hs _; case hs => ((try simp); try omega)) | with_reducible refine Below.drew ?_ | with_reducible refine below_drewN ?_ _))⟩
  · have HF : Hid (lvB t = decide (t.way = 1)) := by simp [Hid, lvB, h1]
    have h1' : (t.way == 0) = false := by simp [h1]
    go_enter Try.func73, Try.ntmps73
    go_wp2_with fail
    go_ret
    exact ⟨by rw [HF.out]; rfl, (by repeat (first | with_reducible exact Below.refl _ _ | (with_reducible refine Below.setCell ?_ ?hs _; case hs => ((try simp); try omega)) | (with_reducible refine Below.alloc ?_ ?hs _; case hs => ((try simp); try omega)) | with_reducible refine Below.drew ?_ | with_reducible refine below_drewN ?_ _))⟩

set_option maxHeartbeats 1000000 in
theorem live1_any (s : Sy) (tv : Value) (B : Nat) (k : Nat) (w : World) (h : TasAt w tv s.tasks) (hB : w.cell? ⟨B, 1, none⟩ = some tv) (hlt : k < s.tasks.length) :
    Calls Try.prog 76 #[.int .i64 k, .pointer (some ⟨B, 0, none⟩)] w fun r w' => r = .returned (.bool (lvB (nth Ta.z s.tasks k))) ∧ Below w.heap.size w w' := by
  obtain ⟨at', ct, rfl, hm, hc⟩ := h
  obtain ⟨b, off, v3, v8, v9, v10, rfl, hbw', c0, c1, c2, c3, c4, c5, c6, c7, c8, c9, c10, c11, c12, h3, h8, h9, h10⟩ := hc k hlt
  obtain ⟨a3, e3', rfl, hm3⟩ := h3.shape
  obtain ⟨a8, e8', rfl, hm8⟩ := h8.shape
  obtain ⟨a9, e9', rfl, hm9⟩ := h9.shape
  obtain ⟨a10, e10', rfl, hm10⟩ := h10.shape
  clear hc h3 h8 h9 h10
  have hlt' : (k : Int) < (s.tasks.length : Int) := by omega
  go_enter Try.func76, Try.ntmps76
  go_wp2_with fail
  refine (lv_any (nth Ta.z s.tasks k) _ _ _ _ _ _ _ _ _).mono ?_
  rintro e w1 ⟨rfl, hb1⟩
  have HB1 := (show Hid (Below _ _ _) from hb1)
  clear hb1
  go_wp2_with fail
  go_ret
  exact ⟨rfl, HB1.out⟩

set_option maxHeartbeats 2000000 in
theorem placesL_any (f : Nat → Bool) (B : Nat) (s : Sy) (ac at' al : Option Addr) (cc ct cl : Nat) (w : World) (hn : s.tasks.length ≤ 1048576)
    (hf : ∀ (k : Nat) (W : World), k < s.tasks.length → Below w.heap.size w W → Calls Try.prog 76 #[.int .i64 k, .pointer (some ⟨B, 0, none⟩)] W fun r W' => r = .returned (.bool (f k)) ∧ Below W.heap.size W W') :
    Calls Try.prog 75 #[.agg #[.slice ac s.cells.length cc, .slice at' s.tasks.length ct, .int .i64 s.clock, .slice al s.log.length cl], .func (.func 76) #[] #[.pointer (some ⟨B, 0, none⟩)]] w fun r w' => ∃ v, r = .returned v ∧ OwnInt w.heap.size w' v (plW f s.tasks.length) ∧ Below w.heap.size w w' := by
  obtain ⟨i0, hi, hz0, hz1, hz2⟩ := info_parts Try.info_int
  have HF := (show Hid _ from hf)
  clear hf
  go_enter Try.func75, Try.ntmps75
  go_wp2_with fail
  go_loopw [5, 10] (fun o q w' => ∃ (k : Nat) (xs : List Int), k ≤ s.tasks.length ∧ q = .int .i64 k ∧ xs = plW f k ∧ OwnInt (w.heap.size + 1) w' o xs ∧ Below (w.heap.size + 1) (w.alloc (.cells #[.slice ac s.cells.length cc, .slice at' s.tasks.length ct, .int .i64 s.clock, .slice al s.log.length cl] 32)) w') (fun _ q _ => s.tasks.length - (intOf q).toNat)
  case atStart => exact ⟨0, [], Nat.zero_le _, rfl, rfl, World.ownsRow_nil _ _ _ _, Below.refl _ _⟩
  case round =>
    obtain ⟨k, xs, hk, rfl, hxs, hown, hb⟩ := hrel
    have hkl : xs.length ≤ k := by rw [hxs]; exact plW_len _ _
    have HX := (show Hid (xs = _) from hxs)
    clear hxs
    have HBW : Hid (Below w.heap.size w wr) := ((Below.refl _ _).alloc (Nat.le_refl _) _).trans (hb.mono (by omega))
    have hsz : w.heap.size + 1 ≤ wr.heap.size := by have := hb.size; simpa using this
    have HOW := (show Hid (OwnInt _ _ _ _) from hown)
    have HB := (show Hid (Below _ _ _) from hb)
    clear hown hb
    by_cases hlt : k < s.tasks.length
    · have hlt' : (k : Int) < (s.tasks.length : Int) := by omega
      go_wp2_with fail
      refine (HF.out k wr hlt HBW.out).mono ?_
      rintro e w1 ⟨rfl, hb1⟩
      have HO1 : Hid (OwnInt (w.heap.size + 1) w1 _ xs) := own_below HOW.out hb1 (Nat.le_refl _)
      have HB1 : Hid (Below (w.heap.size + 1) (w.alloc _) w1) := below_then HB.out hsz hb1
      have hsz1 : w.heap.size + 1 ≤ w1.heap.size := Nat.le_trans hsz hb1.size
      clear hb1 HOW HB HBW
      cases hfk : f k
      · have HT : Hid (plW f (k + 1) = plW f k) := by unfold Hid; rw [plW_succ, hfk]; simp
        clear hfk
        go_wp2_with fail
        go_roundw
        case rel => exact ⟨k + 1, xs, by omega, by go_num, by rw [HT.out, HX.out], own_below HO1.out (by repeat (first | with_reducible exact Below.refl _ _ | (with_reducible refine Below.setCell ?_ ?hs _; case hs => ((try simp); try omega)) | (with_reducible refine Below.alloc ?_ ?hs _; case hs => ((try simp); try omega)) | with_reducible refine Below.drew ?_ | with_reducible refine below_drewN ?_ _)) (Nat.le_refl _), (by repeat (first | with_reducible exact HB1.out | (with_reducible refine Below.setCell ?_ ?hs _; case hs => ((try simp); try omega)) | (with_reducible refine Below.alloc ?_ ?hs _; case hs => ((try simp); try omega)) | with_reducible refine Below.drew ?_ | with_reducible refine below_drewN ?_ _))⟩
        case measure => simp [intOf]; omega
      · have HT : Hid (plW f (k + 1) = plW f k ++ [(k : Int)]) := by unfold Hid; rw [plW_succ, hfk]; simp
        clear hfk
        obtain ⟨oa, oc, rfl, _⟩ := own_shape HO1.out
        go_wp2_with (at_builtin; refine wpList_append_own _ rfl _ _ 23 rfl (w.heap.size + 1) 3 i0 (.int .i64 0) 1 8 Try.underlying23 hi hz0 hz1 hz2 rfl (by decide) _ _ _ rfl (own_below HO1.out (by repeat (first | with_reducible exact Below.refl _ _ | (with_reducible refine Below.setCell ?_ ?hs _; case hs => ((try simp); try omega)) | (with_reducible refine Below.alloc ?_ ?hs _; case hs => ((try simp); try omega)) | with_reducible refine Below.drew ?_ | with_reducible refine below_drewN ?_ _)) (Nat.le_refl _)) ⟨w1.heap.size, 0, none⟩ 1 1 [.int .i64 (k : Int)] rfl rfl (fun j u hj => by match j, hj with | 0, hj => simp at hj; subst hj; simp [Addr.add]) (fun u hu => by simp at hu; subst hu; rfl) ?a3 ?a4 ?a5 ?_)
        case a3 => unfold maxLen; omega
        case a4 => omega
        case a5 => (try simp); omega
        intro v' w4 hown' hgrow _
        have HO4 : Hid (OwnInt (w.heap.size + 1) w4 v' (xs ++ [(k : Int)])) := OwnInt.snoc hown'
        have hge : ∀ g, (Value.slice oa xs.length oc).ownBlock = some g → w.heap.size + 1 ≤ g := fun g hg => (HO1.out.lt g hg).1
        have HB4 : Hid (Below (w.heap.size + 1) (w.alloc _) w4) := Below.grown (by repeat (first | with_reducible exact HB1.out | (with_reducible refine Below.setCell ?_ ?hs _; case hs => ((try simp); try omega)) | (with_reducible refine Below.alloc ?_ ?hs _; case hs => ((try simp); try omega)) | with_reducible refine Below.drew ?_ | with_reducible refine below_drewN ?_ _)) hgrow (by simp; omega) hge
        clear hown' hgrow HO1 HB1 hge
        go_wp2_with fail
        go_roundw
        case rel => exact ⟨k + 1, _, by omega, by go_num, by rw [HT.out, HX.out], HO4.out, HB4.out⟩
        case measure => simp [intOf]; omega
    · have hk' : ¬ (k : Int) < (s.tasks.length : Int) := by omega
      have HR : Hid (OwnInt (w.heap.size + 1) wr u5 (plW f s.tasks.length)) := by
        have := HOW.out; rw [HX.out, show k = s.tasks.length by omega] at this; exact this
      clear HOW HB
      go_wp2_with fail
      go_ret
      exact ⟨_, rfl, own_base HR.out (by omega), HBW.out⟩

set_option maxHeartbeats 1000000 in
theorem treeLive_any (s : Sy) (ac at' al : Option Addr) (cc ct cl : Nat) (w : World) (h : TasAt w (.slice at' s.tasks.length ct) s.tasks) (hn : s.tasks.length ≤ 1048576) :
    Calls Try.prog 32 #[.agg #[.slice ac s.cells.length cc, .slice at' s.tasks.length ct, .int .i64 s.clock, .slice al s.log.length cl]] w fun r w' => ∃ v, r = .returned v ∧ OwnInt w.heap.size w' v (liveL s) ∧ Below w.heap.size w w' := by
  have HT := (show Hid (TasAt _ _ _) from h)
  clear h
  go_enter Try.func32, Try.ntmps32
  go_wp2_with fail
  refine (placesL_any (fun i => lvB (nth Ta.z s.tasks i)) w.heap.size s _ _ _ _ _ _ _ hn (fun k W hk hb => live1_any s (.slice at' s.tasks.length ct) w.heap.size k W (by exact HT.out.mono (((Below.refl _ _).alloc (Nat.le_refl _) _).trans (hb.mono (by simp)))) (by rw [hb.cell (p := ⟨w.heap.size, 1, none⟩) (by simp)]; simp [go_sem]) hk)).mono ?_
  rintro e w1 ⟨v, rfl, ho, hb⟩
  have HO : Hid (OwnInt w.heap.size w1 v (liveL s)) := own_base ho (by simp)
  have HB : Hid (Below w.heap.size w w1) := below_then (by repeat (first | with_reducible exact Below.refl _ _ | (with_reducible refine Below.setCell ?_ ?hs _; case hs => ((try simp); try omega)) | (with_reducible refine Below.alloc ?_ ?hs _; case hs => ((try simp); try omega)) | with_reducible refine Below.drew ?_ | with_reducible refine below_drewN ?_ _)) (by (try simp); try omega) hb
  clear ho hb
  go_wp2_with fail
  go_ret
  exact ⟨_, rfl, HO.out, HB.out⟩

end Go.Proofs.Ytnbgonmdjgapnaa
