/-
  SysNums, SysWays, of the program and of the model (by mkn1.py).
-/
import Derived.Test.YtnbgonmdjgapnaaBase33
import Derived.Test.YtnbgonmdjgapnaaBase03
import Derived.Test.YtnbgonmdjgapnaaBase03
import Derived.OwnWalk
namespace Go.Proofs.Ytnbgonmdjgapnaa
open Go.RowKit
set_option linter.unusedSimpArgs false
set_option linter.unusedVariables false
set_option maxRecDepth 20000

def numsL (s : Sy) : List Int := s.cells.map (·.num)
def waysL (s : Sy) : List Int := s.tasks.map (·.way)
theorem map_take {α : Type} (z : α) (f : α → Int) (l : List α) (k : Nat) (h : k < l.length) : (l.map f).take (k + 1) = (l.map f).take k ++ [f (nth z l k)] := by
  rw [← List.map_take, ← List.map_take, take_nth z l k h, List.map_append]; rfl
set_option maxHeartbeats 1000000 in
theorem sysNums_any (s : Sy) (cv tv lv : Value) (w : World) (h : CesAt w cv s.cells) (hc0 : ∃ a c, cv = .slice a s.cells.length c) (ht0 : ∃ a c, tv = .slice a s.tasks.length c) (hl0 : ∃ a c, lv = .slice a s.log.length c) (hn : s.cells.length ≤ 1048576) :
    Calls Try.prog 23 #[.agg #[cv, tv, .int .i64 s.clock, lv]] w fun r w' => ∃ v, r = .returned v ∧ OwnInt w.heap.size w' v (s.cells.map (·.num)) ∧ Below w.heap.size w w' := by
  obtain ⟨i0, hi, hz0, hz1, hz2⟩ := info_parts Try.info_int
  obtain ⟨ac, cc, rfl⟩ := hc0
  obtain ⟨at', ct, rfl⟩ := ht0
  obtain ⟨al, cl, rfl⟩ := hl0
  obtain ⟨a, cap, e, hm, hc⟩ := h
  injection e with e1 e2 e3
  subst e1 e3
  clear e2
  have hml : (s.cells.map (·.num)).length = s.cells.length := by simp
  go_enter Try.func23, Try.ntmps23
  go_wp2_with fail
  go_loopw [3, 9] (fun o q w' => ∃ (k : Nat) (xs : List Int), k ≤ s.cells.length ∧ q = .int .i64 k ∧ xs = (s.cells.map (·.num)).take k ∧ OwnInt (w.heap.size + 1) w' o xs ∧ Below (w.heap.size + 1) (w.alloc (.cells #[.slice ac s.cells.length cc, .slice at' s.tasks.length ct, .int .i64 s.clock, .slice al s.log.length cl] 32)) w') (fun _ q _ => s.cells.length - (intOf q).toNat)
  case atStart => exact ⟨0, [], Nat.zero_le _, rfl, rfl, World.ownsRow_nil _ _ _ _, Below.refl _ _⟩
  case round =>
    obtain ⟨k, xs, hk, rfl, hxs, hown, hb⟩ := hrel
    have hkl : xs.length = k := by rw [hxs]; simp; omega
    have HKL := (show Hid (_ = k) from hkl)
    have HX := (show Hid (xs = _) from hxs)
    clear hkl hxs
    have hbw : Below w.heap.size w wr := ((Below.refl _ _).alloc (Nat.le_refl _) _).trans (hb.mono (by omega))
    have hsz : w.heap.size + 1 ≤ wr.heap.size := by have := hb.size; simpa using this
    have e0 : wr.cell? ⟨w.heap.size, 0, none⟩ = some (.slice ac s.cells.length cc) := by rw [hb.cell (p := ⟨w.heap.size, 0, none⟩) (by simp)]; simp
    have HOW := (show Hid (OwnInt _ _ _ _) from hown)
    have HB := (show Hid (Below _ _ _) from hb)
    clear hown hb
    by_cases hlt : k < s.cells.length
    · have hlt' : (k : Int) < (s.cells.length : Int) := by omega
      obtain ⟨b, off, rfl, hbw', c0, c1, c2⟩ := hc k hlt
      rw [← hbw.cell (p := ⟨b, _, none⟩) hbw'] at c0 c1 c2
      have HT : Hid ((s.cells.map (·.num)).take (k + 1) = _) := map_take Ce.z (·.num) s.cells k hlt
      
      clear hc hbw hml
      go_wp2_with (at_builtin; refine wpList_append_own _ rfl _ _ 23 rfl (w.heap.size + 1) 3 i0 (.int .i64 0) 1 8 Try.underlying23 hi hz0 hz1 hz2 rfl (by decide) _ _ _ rfl (own_below HOW.out (by repeat (first | with_reducible exact Below.refl _ _ | (with_reducible refine Below.setCell ?_ ?hs _; case hs => ((try simp); try omega)) | (with_reducible refine Below.alloc ?_ ?hs _; case hs => ((try simp); try omega)) | with_reducible refine Below.drew ?_)) (Nat.le_refl _)) ⟨wr.heap.size + 1, 0, none⟩ 1 1 [.int .i64 (nth Ce.z s.cells k).num] rfl rfl (fun j u hj => by match j, hj with | 0, hj => simp at hj; subst hj; simp [Addr.add]) (fun u hu => by simp at hu; subst hu; rfl) ?a3 ?a4 ?a5 ?_)
      case a3 => have := HKL.out; unfold maxLen; omega
      case a4 => have := HKL.out; omega
      case a5 => (try simp); omega
      intro v' w4 hown' hgrow _
      have HO4 : Hid (OwnInt (w.heap.size + 1) w4 v' (xs ++ [(nth Ce.z s.cells k).num])) := OwnInt.snoc hown'
      have hge : ∀ g, u3.ownBlock = some g → w.heap.size + 1 ≤ g := fun g hg => (HOW.out.lt g hg).1
      have HB4 : Hid (Below (w.heap.size + 1) (w.alloc _) w4) := Below.grown (by repeat (first | with_reducible exact HB.out | (with_reducible refine Below.setCell ?_ ?hs _; case hs => ((try simp); try omega)) | (with_reducible refine Below.alloc ?_ ?hs _; case hs => ((try simp); try omega)) | with_reducible refine Below.drew ?_)) hgrow (by simp; omega) hge
      clear hown' hgrow HOW HB hge c0 c1 c2 e0
      go_wp2_with fail
      go_roundw
      case rel => exact ⟨k + 1, _, by omega, by go_num, by rw [HT.out, HX.out], HO4.out, HB4.out⟩
      case measure => simp [intOf]; omega
    · have hk' : ¬ (k : Int) < (s.cells.length : Int) := by omega
      have HR : Hid (OwnInt (w.heap.size + 1) wr u3 (s.cells.map (·.num))) := by
        have := HOW.out; rw [HX.out, List.take_of_length_le (by simp; omega)] at this; exact this
      have HW := (show Hid (Below _ _ _) from hbw)
      clear hc HOW hbw HB
      go_wp2_with fail
      go_ret
      exact ⟨_, rfl, own_base HR.out (by omega), HW.out⟩

set_option maxHeartbeats 1000000 in
theorem sSysNums_any (s : Sy) (cv tv lv : Value) (w : World) (h : CesAt w cv s.cells) (hc0 : ∃ a c, cv = .slice a s.cells.length c) (ht0 : ∃ a c, tv = .slice a s.tasks.length c) (hl0 : ∃ a c, lv = .slice a s.log.length c) (hn : s.cells.length ≤ 1048576) :
    Calls Try.prog 28 #[.agg #[cv, tv, .int .i64 s.clock, lv]] w fun r w' => ∃ v, r = .returned v ∧ OwnInt w.heap.size w' v (s.cells.map (·.num)) ∧ Below w.heap.size w w' := by
  obtain ⟨i0, hi, hz0, hz1, hz2⟩ := info_parts Try.info_int
  obtain ⟨ac, cc, rfl⟩ := hc0
  obtain ⟨at', ct, rfl⟩ := ht0
  obtain ⟨al, cl, rfl⟩ := hl0
  obtain ⟨a, cap, e, hm, hc⟩ := h
  injection e with e1 e2 e3
  subst e1 e3
  clear e2
  have hml : (s.cells.map (·.num)).length = s.cells.length := by simp
  go_enter Try.func28, Try.ntmps28
  go_wp2_with fail
  go_loopw [3, 4] (fun o q w' => ∃ (k : Nat) (xs : List Int), k ≤ s.cells.length ∧ q = .int .i64 k ∧ xs = (s.cells.map (·.num)).take k ∧ OwnInt (w.heap.size + 1) w' o xs ∧ Below (w.heap.size + 1) (w.alloc (.cells #[.slice ac s.cells.length cc, .slice at' s.tasks.length ct, .int .i64 s.clock, .slice al s.log.length cl] 32)) w') (fun _ q _ => s.cells.length - (intOf q).toNat)
  case atStart => exact ⟨0, [], Nat.zero_le _, rfl, rfl, own_made0 _ _ _ _ (by simp) (by simp), (Below.refl _ _).alloc (by simp) _⟩
  case round =>
    obtain ⟨k, xs, hk, rfl, hxs, hown, hb⟩ := hrel
    have hkl : xs.length = k := by rw [hxs]; simp; omega
    have HKL := (show Hid (_ = k) from hkl)
    have HX := (show Hid (xs = _) from hxs)
    clear hkl hxs
    have hbw : Below w.heap.size w wr := ((Below.refl _ _).alloc (Nat.le_refl _) _).trans (hb.mono (by omega))
    have hsz : w.heap.size + 1 ≤ wr.heap.size := by have := hb.size; simpa using this
    have e0 : wr.cell? ⟨w.heap.size, 0, none⟩ = some (.slice ac s.cells.length cc) := by rw [hb.cell (p := ⟨w.heap.size, 0, none⟩) (by simp)]; simp
    have HOW := (show Hid (OwnInt _ _ _ _) from hown)
    have HB := (show Hid (Below _ _ _) from hb)
    clear hown hb
    by_cases hlt : k < s.cells.length
    · have hlt' : (k : Int) < (s.cells.length : Int) := by omega
      obtain ⟨b, off, rfl, hbw', c0, c1, c2⟩ := hc k hlt
      rw [← hbw.cell (p := ⟨b, _, none⟩) hbw'] at c0 c1 c2
      have HT : Hid ((s.cells.map (·.num)).take (k + 1) = _) := map_take Ce.z (·.num) s.cells k hlt
      
      clear hc hbw hml
      go_wp2_with (at_builtin; refine wpList_append_own _ rfl _ _ 23 rfl (w.heap.size + 1) 3 i0 (.int .i64 0) 1 8 Try.underlying23 hi hz0 hz1 hz2 rfl (by decide) _ _ _ rfl (own_below HOW.out (by repeat (first | with_reducible exact Below.refl _ _ | (with_reducible refine Below.setCell ?_ ?hs _; case hs => ((try simp); try omega)) | (with_reducible refine Below.alloc ?_ ?hs _; case hs => ((try simp); try omega)) | with_reducible refine Below.drew ?_)) (Nat.le_refl _)) ⟨wr.heap.size, 0, none⟩ 1 1 [.int .i64 (nth Ce.z s.cells k).num] rfl rfl (fun j u hj => by match j, hj with | 0, hj => simp at hj; subst hj; simp [Addr.add]) (fun u hu => by simp at hu; subst hu; rfl) ?a3 ?a4 ?a5 ?_)
      case a3 => have := HKL.out; unfold maxLen; omega
      case a4 => have := HKL.out; omega
      case a5 => (try simp); omega
      intro v' w4 hown' hgrow _
      have HO4 : Hid (OwnInt (w.heap.size + 1) w4 v' (xs ++ [(nth Ce.z s.cells k).num])) := OwnInt.snoc hown'
      have hge : ∀ g, u3.ownBlock = some g → w.heap.size + 1 ≤ g := fun g hg => (HOW.out.lt g hg).1
      have HB4 : Hid (Below (w.heap.size + 1) (w.alloc _) w4) := Below.grown (by repeat (first | with_reducible exact HB.out | (with_reducible refine Below.setCell ?_ ?hs _; case hs => ((try simp); try omega)) | (with_reducible refine Below.alloc ?_ ?hs _; case hs => ((try simp); try omega)) | with_reducible refine Below.drew ?_)) hgrow (by simp; omega) hge
      clear hown' hgrow HOW HB hge c0 c1 c2 e0
      go_wp2_with fail
      go_roundw
      case rel => exact ⟨k + 1, _, by omega, by go_num, by rw [HT.out, HX.out], HO4.out, HB4.out⟩
      case measure => simp [intOf]; omega
    · have hk' : ¬ (k : Int) < (s.cells.length : Int) := by omega
      have HR : Hid (OwnInt (w.heap.size + 1) wr u3 (s.cells.map (·.num))) := by
        have := HOW.out; rw [HX.out, List.take_of_length_le (by simp; omega)] at this; exact this
      have HW := (show Hid (Below _ _ _) from hbw)
      clear hc HOW hbw HB
      go_wp2_with fail
      go_ret
      exact ⟨_, rfl, own_base HR.out (by omega), HW.out⟩

set_option maxHeartbeats 1000000 in
theorem sysWays_any (s : Sy) (cv tv lv : Value) (w : World) (h : TasAt w tv s.tasks) (hc0 : ∃ a c, cv = .slice a s.cells.length c) (ht0 : ∃ a c, tv = .slice a s.tasks.length c) (hl0 : ∃ a c, lv = .slice a s.log.length c) (hn : s.tasks.length ≤ 1048576) :
    Calls Try.prog 30 #[.agg #[cv, tv, .int .i64 s.clock, lv]] w fun r w' => ∃ v, r = .returned v ∧ OwnInt w.heap.size w' v (s.tasks.map (·.way)) ∧ Below w.heap.size w w' := by
  obtain ⟨i0, hi, hz0, hz1, hz2⟩ := info_parts Try.info_int
  obtain ⟨ac, cc, rfl⟩ := hc0
  obtain ⟨at', ct, rfl⟩ := ht0
  obtain ⟨al, cl, rfl⟩ := hl0
  obtain ⟨a, cap, e, hm, hc⟩ := h
  injection e with e1 e2 e3
  subst e1 e3
  clear e2
  have hml : (s.tasks.map (·.way)).length = s.tasks.length := by simp
  go_enter Try.func30, Try.ntmps30
  go_wp2_with fail
  go_loopw [3, 9] (fun o q w' => ∃ (k : Nat) (xs : List Int), k ≤ s.tasks.length ∧ q = .int .i64 k ∧ xs = (s.tasks.map (·.way)).take k ∧ OwnInt (w.heap.size + 1) w' o xs ∧ Below (w.heap.size + 1) (w.alloc (.cells #[.slice ac s.cells.length cc, .slice at' s.tasks.length ct, .int .i64 s.clock, .slice al s.log.length cl] 32)) w') (fun _ q _ => s.tasks.length - (intOf q).toNat)
  case atStart => exact ⟨0, [], Nat.zero_le _, rfl, rfl, World.ownsRow_nil _ _ _ _, Below.refl _ _⟩
  case round =>
    obtain ⟨k, xs, hk, rfl, hxs, hown, hb⟩ := hrel
    have hkl : xs.length = k := by rw [hxs]; simp; omega
    have HKL := (show Hid (_ = k) from hkl)
    have HX := (show Hid (xs = _) from hxs)
    clear hkl hxs
    have hbw : Below w.heap.size w wr := ((Below.refl _ _).alloc (Nat.le_refl _) _).trans (hb.mono (by omega))
    have hsz : w.heap.size + 1 ≤ wr.heap.size := by have := hb.size; simpa using this
    have e0 : wr.cell? ⟨w.heap.size, 1, none⟩ = some (.slice at' s.tasks.length ct) := by rw [hb.cell (p := ⟨w.heap.size, 1, none⟩) (by simp)]; simp
    have HOW := (show Hid (OwnInt _ _ _ _) from hown)
    have HB := (show Hid (Below _ _ _) from hb)
    clear hown hb
    by_cases hlt : k < s.tasks.length
    · have hlt' : (k : Int) < (s.tasks.length : Int) := by omega
      obtain ⟨b, off, v3, v8, v9, v10, rfl, hbw', c0, c1, c2, c3, c4, c5, c6, c7, c8, c9, c10, c11, c12, h3, h8, h9, h10⟩ := hc k hlt
      rw [← hbw.cell (p := ⟨b, _, none⟩) hbw'] at c0 c1 c2 c3 c4 c5 c6 c7 c8 c9 c10 c11 c12
      have HT : Hid ((s.tasks.map (·.way)).take (k + 1) = _) := map_take Ta.z (·.way) s.tasks k hlt
      obtain ⟨a3, e3, rfl, hm3⟩ := h3.shape
      obtain ⟨a8, e8, rfl, hm8⟩ := h8.shape
      obtain ⟨a9, e9, rfl, hm9⟩ := h9.shape
      obtain ⟨a10, e10, rfl, hm10⟩ := h10.shape
      clear hc hbw hml h3 h8 h9 h10
      go_wp2_with (at_builtin; refine wpList_append_own _ rfl _ _ 23 rfl (w.heap.size + 1) 3 i0 (.int .i64 0) 1 8 Try.underlying23 hi hz0 hz1 hz2 rfl (by decide) _ _ _ rfl (own_below HOW.out (by repeat (first | with_reducible exact Below.refl _ _ | (with_reducible refine Below.setCell ?_ ?hs _; case hs => ((try simp); try omega)) | (with_reducible refine Below.alloc ?_ ?hs _; case hs => ((try simp); try omega)) | with_reducible refine Below.drew ?_)) (Nat.le_refl _)) ⟨wr.heap.size + 1, 0, none⟩ 1 1 [.int .i64 (nth Ta.z s.tasks k).way] rfl rfl (fun j u hj => by match j, hj with | 0, hj => simp at hj; subst hj; simp [Addr.add]) (fun u hu => by simp at hu; subst hu; rfl) ?a3 ?a4 ?a5 ?_)
      case a3 => have := HKL.out; unfold maxLen; omega
      case a4 => have := HKL.out; omega
      case a5 => (try simp); omega
      intro v' w4 hown' hgrow _
      have HO4 : Hid (OwnInt (w.heap.size + 1) w4 v' (xs ++ [(nth Ta.z s.tasks k).way])) := OwnInt.snoc hown'
      have hge : ∀ g, u3.ownBlock = some g → w.heap.size + 1 ≤ g := fun g hg => (HOW.out.lt g hg).1
      have HB4 : Hid (Below (w.heap.size + 1) (w.alloc _) w4) := Below.grown (by repeat (first | with_reducible exact HB.out | (with_reducible refine Below.setCell ?_ ?hs _; case hs => ((try simp); try omega)) | (with_reducible refine Below.alloc ?_ ?hs _; case hs => ((try simp); try omega)) | with_reducible refine Below.drew ?_)) hgrow (by simp; omega) hge
      clear hown' hgrow HOW HB hge c0 c1 c2 c3 c4 c5 c6 c7 c8 c9 c10 c11 c12 e0
      go_wp2_with fail
      go_roundw
      case rel => exact ⟨k + 1, _, by omega, by go_num, by rw [HT.out, HX.out], HO4.out, HB4.out⟩
      case measure => simp [intOf]; omega
    · have hk' : ¬ (k : Int) < (s.tasks.length : Int) := by omega
      have HR : Hid (OwnInt (w.heap.size + 1) wr u3 (s.tasks.map (·.way))) := by
        have := HOW.out; rw [HX.out, List.take_of_length_le (by simp; omega)] at this; exact this
      have HW := (show Hid (Below _ _ _) from hbw)
      clear hc HOW hbw HB
      go_wp2_with fail
      go_ret
      exact ⟨_, rfl, own_base HR.out (by omega), HW.out⟩

set_option maxHeartbeats 1000000 in
theorem sSysWays_any (s : Sy) (cv tv lv : Value) (w : World) (h : TasAt w tv s.tasks) (hc0 : ∃ a c, cv = .slice a s.cells.length c) (ht0 : ∃ a c, tv = .slice a s.tasks.length c) (hl0 : ∃ a c, lv = .slice a s.log.length c) (hn : s.tasks.length ≤ 1048576) :
    Calls Try.prog 31 #[.agg #[cv, tv, .int .i64 s.clock, lv]] w fun r w' => ∃ v, r = .returned v ∧ OwnInt w.heap.size w' v (s.tasks.map (·.way)) ∧ Below w.heap.size w w' := by
  obtain ⟨i0, hi, hz0, hz1, hz2⟩ := info_parts Try.info_int
  obtain ⟨ac, cc, rfl⟩ := hc0
  obtain ⟨at', ct, rfl⟩ := ht0
  obtain ⟨al, cl, rfl⟩ := hl0
  obtain ⟨a, cap, e, hm, hc⟩ := h
  injection e with e1 e2 e3
  subst e1 e3
  clear e2
  have hml : (s.tasks.map (·.way)).length = s.tasks.length := by simp
  go_enter Try.func31, Try.ntmps31
  go_wp2_with fail
  go_loopw [3, 4] (fun o q w' => ∃ (k : Nat) (xs : List Int), k ≤ s.tasks.length ∧ q = .int .i64 k ∧ xs = (s.tasks.map (·.way)).take k ∧ OwnInt (w.heap.size + 1) w' o xs ∧ Below (w.heap.size + 1) (w.alloc (.cells #[.slice ac s.cells.length cc, .slice at' s.tasks.length ct, .int .i64 s.clock, .slice al s.log.length cl] 32)) w') (fun _ q _ => s.tasks.length - (intOf q).toNat)
  case atStart => exact ⟨0, [], Nat.zero_le _, rfl, rfl, own_made0 _ _ _ _ (by simp) (by simp), (Below.refl _ _).alloc (by simp) _⟩
  case round =>
    obtain ⟨k, xs, hk, rfl, hxs, hown, hb⟩ := hrel
    have hkl : xs.length = k := by rw [hxs]; simp; omega
    have HKL := (show Hid (_ = k) from hkl)
    have HX := (show Hid (xs = _) from hxs)
    clear hkl hxs
    have hbw : Below w.heap.size w wr := ((Below.refl _ _).alloc (Nat.le_refl _) _).trans (hb.mono (by omega))
    have hsz : w.heap.size + 1 ≤ wr.heap.size := by have := hb.size; simpa using this
    have e0 : wr.cell? ⟨w.heap.size, 1, none⟩ = some (.slice at' s.tasks.length ct) := by rw [hb.cell (p := ⟨w.heap.size, 1, none⟩) (by simp)]; simp
    have HOW := (show Hid (OwnInt _ _ _ _) from hown)
    have HB := (show Hid (Below _ _ _) from hb)
    clear hown hb
    by_cases hlt : k < s.tasks.length
    · have hlt' : (k : Int) < (s.tasks.length : Int) := by omega
      obtain ⟨b, off, v3, v8, v9, v10, rfl, hbw', c0, c1, c2, c3, c4, c5, c6, c7, c8, c9, c10, c11, c12, h3, h8, h9, h10⟩ := hc k hlt
      rw [← hbw.cell (p := ⟨b, _, none⟩) hbw'] at c0 c1 c2 c3 c4 c5 c6 c7 c8 c9 c10 c11 c12
      have HT : Hid ((s.tasks.map (·.way)).take (k + 1) = _) := map_take Ta.z (·.way) s.tasks k hlt
      obtain ⟨a3, e3, rfl, hm3⟩ := h3.shape
      obtain ⟨a8, e8, rfl, hm8⟩ := h8.shape
      obtain ⟨a9, e9, rfl, hm9⟩ := h9.shape
      obtain ⟨a10, e10, rfl, hm10⟩ := h10.shape
      clear hc hbw hml h3 h8 h9 h10
      go_wp2_with (at_builtin; refine wpList_append_own _ rfl _ _ 23 rfl (w.heap.size + 1) 3 i0 (.int .i64 0) 1 8 Try.underlying23 hi hz0 hz1 hz2 rfl (by decide) _ _ _ rfl (own_below HOW.out (by repeat (first | with_reducible exact Below.refl _ _ | (with_reducible refine Below.setCell ?_ ?hs _; case hs => ((try simp); try omega)) | (with_reducible refine Below.alloc ?_ ?hs _; case hs => ((try simp); try omega)) | with_reducible refine Below.drew ?_)) (Nat.le_refl _)) ⟨wr.heap.size, 0, none⟩ 1 1 [.int .i64 (nth Ta.z s.tasks k).way] rfl rfl (fun j u hj => by match j, hj with | 0, hj => simp at hj; subst hj; simp [Addr.add]) (fun u hu => by simp at hu; subst hu; rfl) ?a3 ?a4 ?a5 ?_)
      case a3 => have := HKL.out; unfold maxLen; omega
      case a4 => have := HKL.out; omega
      case a5 => (try simp); omega
      intro v' w4 hown' hgrow _
      have HO4 : Hid (OwnInt (w.heap.size + 1) w4 v' (xs ++ [(nth Ta.z s.tasks k).way])) := OwnInt.snoc hown'
      have hge : ∀ g, u3.ownBlock = some g → w.heap.size + 1 ≤ g := fun g hg => (HOW.out.lt g hg).1
      have HB4 : Hid (Below (w.heap.size + 1) (w.alloc _) w4) := Below.grown (by repeat (first | with_reducible exact HB.out | (with_reducible refine Below.setCell ?_ ?hs _; case hs => ((try simp); try omega)) | (with_reducible refine Below.alloc ?_ ?hs _; case hs => ((try simp); try omega)) | with_reducible refine Below.drew ?_)) hgrow (by simp; omega) hge
      clear hown' hgrow HOW HB hge c0 c1 c2 c3 c4 c5 c6 c7 c8 c9 c10 c11 c12 e0
      go_wp2_with fail
      go_roundw
      case rel => exact ⟨k + 1, _, by omega, by go_num, by rw [HT.out, HX.out], HO4.out, HB4.out⟩
      case measure => simp [intOf]; omega
    · have hk' : ¬ (k : Int) < (s.tasks.length : Int) := by omega
      have HR : Hid (OwnInt (w.heap.size + 1) wr u3 (s.tasks.map (·.way))) := by
        have := HOW.out; rw [HX.out, List.take_of_length_le (by simp; omega)] at this; exact this
      have HW := (show Hid (Below _ _ _) from hbw)
      clear hc HOW hbw HB
      go_wp2_with fail
      go_ret
      exact ⟨_, rfl, own_base HR.out (by omega), HW.out⟩

end Go.Proofs.Ytnbgonmdjgapnaa
