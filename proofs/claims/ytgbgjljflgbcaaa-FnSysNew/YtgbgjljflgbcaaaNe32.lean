import Derived.Test.YtgbgjljflgbcaaaNe15
import Derived.Test.YtgbgjljflgbcaaaNe22
import Derived.Test.YtgbgjljflgbcaaaNe31
import Derived.Test.YtgbgjljflgbcaaaNe07
import Derived.Laws.EntriesVeiled
import Derived.Deep.RegionWith
import Derived.Test.YtgbgjljflgbcaaaNe23
import Derived.Test.YtgbgjljflgbcaaaNe24
import Derived.Test.YtgbgjljflgbcaaaNe21
namespace Go.Proofs.Ytgbgjljflgbcaaa
open Go.RowKit
set_option linter.unusedSimpArgs false
set_option linter.unusedVariables false
set_option maxRecDepth 20000
def plN (f : Nat → Bool) (k : Nat) : List Int := ((List.range k).filter f).map fun i : Nat => (i : Int)
theorem plN_succ (f : Nat → Bool) (k : Nat) : plN f (k + 1) = plN f k ++ if f k then [(k : Int)] else [] := by
  unfold plN
  rw [List.range_succ, List.filter_append, List.map_append]
  cases h : f k <;> simp [h]
theorem plN_len (f : Nat → Bool) (k : Nat) : (plN f k).length ≤ k := by
  unfold plN
  have := List.length_filter_le f (List.range k)
  simpa using this
def readyL (p : Pr) (s : Sy) : List Int := if mSoB p s then plN (rdyB s) s.tasks.length else []
theorem mSoB_n7 {p : Pr} {s : Sy} (h : mSoB p s = true) : s.tasks.length ≤ 7 := by
  rw [mSoB_head] at h
  simp only [Bool.and_eq_true] at h
  have h1 := h.1
  unfold mHeadB at h1
  simp only [Bool.and_eq_true] at h1
  have : 1 ≤ (s.tasks.length : Int) ∧ (s.tasks.length : Int) ≤ 7 := by simpa [inB] using h1.1.2
  omega
set_option maxHeartbeats 4000000 in
theorem sysReady_any (p : Pr) (pa0 pa1 : Option Addr) (pc0 pc1 : Nat) (s : Sy) (sa0 sa1 sa3 : Option Addr) (sc0 sc1 sc3 : Nat) (w : World) (hp : PrAt w (.slice pa0 p.cells.length pc0) (.slice pa1 p.bodies.length pc1) p) (hS : SyAt w (.slice sa0 s.cells.length sc0) (.slice sa1 s.tasks.length sc1) (.slice sa3 s.log.length sc3) s) (hsm : SmSy s) (hsp : SmallP p) :
    Calls Try.prog 16 #[.agg #[.slice pa0 p.cells.length pc0, .slice pa1 p.bodies.length pc1], .agg #[.slice sa0 s.cells.length sc0, .slice sa1 s.tasks.length sc1, .int .i64 s.clock, .slice sa3 s.log.length sc3]] w fun r w' => ∃ v, r = .returned v ∧ OwnInt w.heap.size w' v (readyL p s) ∧ Below w.heap.size w w' := by
  obtain ⟨i0, hi, hz0, hz1, hz2⟩ := info_parts Try.info_int
  have HP := (show Hid (PrAt _ _ _ _) from hp)
  have HS := (show Hid (SyAt _ _ _ _ _) from hS)
  clear hp hS
  cases o1 : mSoB p s
  · have HX : Hid (readyL p s = []) := by unfold Hid readyL; rw [o1]; rfl
    have O1 := (show Hid (_ = _) from o1)
    clear o1
    go_enter Try.func16, Try.ntmps16
    go_wp2_with fail
    refine (sysOk_c p _ _ _ _ s _ _ _ _ _ _ _ (by exact PrAt.mono HP.out (by repeat (first | with_reducible exact Below.refl _ _ | (with_reducible refine Below.setCell ?_ ?hs _; case hs => ((try simp); try omega)) | (with_reducible refine Below.alloc ?_ ?hs _; case hs => ((try simp); try omega)) | with_reducible refine Below.drew ?_ | with_reducible refine below_drewN ?_ _))) (by exact SyAt.mono HS.out (by repeat (first | with_reducible exact Below.refl _ _ | (with_reducible refine Below.setCell ?_ ?hs _; case hs => ((try simp); try omega)) | (with_reducible refine Below.alloc ?_ ?hs _; case hs => ((try simp); try omega)) | with_reducible refine Below.drew ?_ | with_reducible refine below_drewN ?_ _))) hsm hsp).mono ?_
    rw [O1.out]
    rintro e w1 ⟨rfl, hb1⟩
    have HB1 : Hid (Below w.heap.size w w1) := below_then (by repeat (first | with_reducible exact Below.refl _ _ | (with_reducible refine Below.setCell ?_ ?hs _; case hs => ((try simp); try omega)) | (with_reducible refine Below.alloc ?_ ?hs _; case hs => ((try simp); try omega)) | with_reducible refine Below.drew ?_ | with_reducible refine below_drewN ?_ _)) (by (try simp); try omega) hb1
    clear hb1
    go_wp2_with fail
    go_ret
    exact ⟨_, rfl, by rw [HX.out]; exact World.ownsRow_nil _ _ _ _, HB1.out⟩
  have hn7 := mSoB_n7 o1
  have HX : Hid (readyL p s = plN (rdyB s) s.tasks.length) := by unfold Hid readyL; rw [o1]; rfl
  have O1 := (show Hid (_ = _) from o1)
  clear o1
  go_enter Try.func16, Try.ntmps16
  go_wp2_with fail
  refine (sysOk_c p _ _ _ _ s _ _ _ _ _ _ _ (by exact PrAt.mono HP.out (by repeat (first | with_reducible exact Below.refl _ _ | (with_reducible refine Below.setCell ?_ ?hs _; case hs => ((try simp); try omega)) | (with_reducible refine Below.alloc ?_ ?hs _; case hs => ((try simp); try omega)) | with_reducible refine Below.drew ?_ | with_reducible refine below_drewN ?_ _))) (by exact SyAt.mono HS.out (by repeat (first | with_reducible exact Below.refl _ _ | (with_reducible refine Below.setCell ?_ ?hs _; case hs => ((try simp); try omega)) | (with_reducible refine Below.alloc ?_ ?hs _; case hs => ((try simp); try omega)) | with_reducible refine Below.drew ?_ | with_reducible refine below_drewN ?_ _))) hsm hsp).mono ?_
  rw [O1.out]
  rintro e w1 ⟨rfl, hb1⟩
  have HB1 : Hid (Below w.heap.size w w1) := below_then (by repeat (first | with_reducible exact Below.refl _ _ | (with_reducible refine Below.setCell ?_ ?hs _; case hs => ((try simp); try omega)) | (with_reducible refine Below.alloc ?_ ?hs _; case hs => ((try simp); try omega)) | with_reducible refine Below.drew ?_ | with_reducible refine below_drewN ?_ _)) (by (try simp); try omega) hb1
  have x0_1 : w1.cell? ⟨w.heap.size, 0, none⟩ = some (.slice pa0 p.cells.length pc0) := by rw [hb1.cell (p := ⟨w.heap.size, 0, none⟩) (by (try simp); try omega)]; simp [go_sem]
  have x1_1 : w1.cell? ⟨w.heap.size, 1, none⟩ = some (.slice pa1 p.bodies.length pc1) := by rw [hb1.cell (p := ⟨w.heap.size, 1, none⟩) (by (try simp); try omega)]; simp [go_sem]
  have x2_1 : w1.cell? ⟨w.heap.size + 1, 0, none⟩ = some (.slice sa0 s.cells.length sc0) := by rw [hb1.cell (p := ⟨w.heap.size + 1, 0, none⟩) (by (try simp); try omega)]; simp [go_sem]
  have x3_1 : w1.cell? ⟨w.heap.size + 1, 1, none⟩ = some (.slice sa1 s.tasks.length sc1) := by rw [hb1.cell (p := ⟨w.heap.size + 1, 1, none⟩) (by (try simp); try omega)]; simp [go_sem]
  have x4_1 : w1.cell? ⟨w.heap.size + 1, 2, none⟩ = some (.int .i64 s.clock) := by rw [hb1.cell (p := ⟨w.heap.size + 1, 2, none⟩) (by (try simp); try omega)]; simp [go_sem]
  have x5_1 : w1.cell? ⟨w.heap.size + 1, 3, none⟩ = some (.slice sa3 s.log.length sc3) := by rw [hb1.cell (p := ⟨w.heap.size + 1, 3, none⟩) (by (try simp); try omega)]; simp [go_sem]
  have z0_1 : w.heap.size < w1.heap.size := by have := hb1.size; (try simp at this); omega
  have z1_1 : w.heap.size + 1 < w1.heap.size := by have := hb1.size; (try simp at this); omega
  clear hb1
  go_wp2_with fail
  go_loopw [5, 14] (fun o q w' => ∃ (k : Nat) (xs : List Int), k ≤ s.tasks.length ∧ q = .int .i64 k ∧ xs = plN (rdyB s) k ∧ OwnInt w1.heap.size w' o xs ∧ Below w1.heap.size w1 w') (fun _ q _ => s.tasks.length - (intOf q).toNat)
  case atStart => exact ⟨0, [], Nat.zero_le _, rfl, rfl, World.ownsRow_nil _ _ _ _, Below.refl _ _⟩
  case round =>
    obtain ⟨k, xs, hk, rfl, hxs, hown, hb⟩ := hrel
    have hkl : xs.length ≤ k := by rw [hxs]; exact plN_len _ _
    have HXS := (show Hid (xs = _) from hxs)
    clear hxs
    have HBW : Hid (Below w.heap.size w wr) := below_then HB1.out HB1.out.size hb
    have hsz : w1.heap.size ≤ wr.heap.size := hb.size
    have x0_2 : wr.cell? ⟨w.heap.size, 0, none⟩ = some (.slice pa0 p.cells.length pc0) := by rw [hb.cell (p := ⟨w.heap.size, 0, none⟩) (by (try simp); try omega)]; exact x0_1
    have x1_2 : wr.cell? ⟨w.heap.size, 1, none⟩ = some (.slice pa1 p.bodies.length pc1) := by rw [hb.cell (p := ⟨w.heap.size, 1, none⟩) (by (try simp); try omega)]; exact x1_1
    have x2_2 : wr.cell? ⟨w.heap.size + 1, 0, none⟩ = some (.slice sa0 s.cells.length sc0) := by rw [hb.cell (p := ⟨w.heap.size + 1, 0, none⟩) (by (try simp); try omega)]; exact x2_1
    have x3_2 : wr.cell? ⟨w.heap.size + 1, 1, none⟩ = some (.slice sa1 s.tasks.length sc1) := by rw [hb.cell (p := ⟨w.heap.size + 1, 1, none⟩) (by (try simp); try omega)]; exact x3_1
    have x4_2 : wr.cell? ⟨w.heap.size + 1, 2, none⟩ = some (.int .i64 s.clock) := by rw [hb.cell (p := ⟨w.heap.size + 1, 2, none⟩) (by (try simp); try omega)]; exact x4_1
    have x5_2 : wr.cell? ⟨w.heap.size + 1, 3, none⟩ = some (.slice sa3 s.log.length sc3) := by rw [hb.cell (p := ⟨w.heap.size + 1, 3, none⟩) (by (try simp); try omega)]; exact x5_1
    have z0_2 : w.heap.size < wr.heap.size := by have := hb.size; (try simp at this); omega
    have z1_2 : w.heap.size + 1 < wr.heap.size := by have := hb.size; (try simp at this); omega
    have HOW := (show Hid (OwnInt _ _ _ _) from hown)
    have HBX := (show Hid (Below _ _ _) from hb)
    clear hown hb x0_1 x1_1 x2_1 x3_1 x4_1 x5_1
    by_cases hlt : k < s.tasks.length
    · have hlt' : (k : Int) < (s.tasks.length : Int) := by omega
      obtain ⟨b, off, hsa⟩ : ∃ b off, sa1 = some ⟨b, off, none⟩ := by
        obtain ⟨a, cap, e, hm, hc⟩ := HS.out.2.1
        injection e with e1 e2 e3
        obtain ⟨b, off, _, _, _, _, e, _⟩ := hc k hlt
        exact ⟨b, off, e1.trans e⟩
      subst hsa
      obtain ⟨oa, oc, rfl, _⟩ := own_shape HOW.out
      go_wp2_with fail
      refine (moveOf_any p _ _ _ _ (w.heap.size + 1) s b off sc1 k _ x3_2 x4_2 z1_2 hlt).mono ?_
      rintro e w2 ⟨X, rfl, hM2, hb2⟩
      have HM2 := (show Hid (MvAt _ _ _ _ _ _ _) from hM2)
      have HB2 : Hid (Below w1.heap.size w1 w2) := below_then HBX.out hsz hb2
      have HB2w : Hid (Below w.heap.size w w2) := below_then HBW.out HBW.out.size hb2
      have HO2 : Hid (OwnInt w1.heap.size w2 _ xs) := own_below HOW.out hb2 (Nat.le_refl _)
      have hsz2 : w1.heap.size ≤ w2.heap.size := HB2.out.size
      clear hM2 hb2 HOW HBX HBW x0_2 x1_2 x2_2 x3_2 x4_2 x5_2 z0_2 z1_2
      go_wp2_with fail
      refine (ready_any X (w.heap.size + 1) s _ sc1 k _ HM2.out (TasAt.mono HS.out.2.1 HB2w.out) hlt).mono ?_
      rintro e w3 ⟨rfl, hb3⟩
      have HB3 : Hid (Below w1.heap.size w1 w3) := below_then HB2.out hsz2 hb3
      have HO3 : Hid (OwnInt w1.heap.size w3 _ xs) := own_below HO2.out hb3 (Nat.le_refl _)
      have hsz3 : w1.heap.size ≤ w3.heap.size := HB3.out.size
      clear hb3 HB2 HB2w HO2 HM2
      cases d : rdyB s k
      · have HT : Hid (plN (rdyB s) (k + 1) = plN (rdyB s) k) := by unfold Hid; rw [plN_succ, d]; simp
        clear d
        go_wp2_with fail
        go_roundw
        case rel => exact ⟨k + 1, xs, by omega, by go_num, by rw [HT.out, HXS.out], HO3.out, HB3.out⟩
        case measure => simp [intOf]; omega
      · have HT : Hid (plN (rdyB s) (k + 1) = plN (rdyB s) k ++ [(k : Int)]) := by unfold Hid; rw [plN_succ, d]; simp
        clear d
        go_wp2_with (at_builtin; refine wpList_append_own _ rfl _ _ 23 rfl w1.heap.size 3 i0 (.int .i64 0) 1 8 Try.underlying23 hi hz0 hz1 hz2 rfl (by decide) _ _ _ rfl (own_below HO3.out (by repeat (first | with_reducible exact Below.refl _ _ | (with_reducible refine Below.setCell ?_ ?hs _; case hs => ((try simp); try omega)) | (with_reducible refine Below.alloc ?_ ?hs _; case hs => ((try simp); try omega)) | with_reducible refine Below.drew ?_ | with_reducible refine below_drewN ?_ _)) (Nat.le_refl _)) ⟨w3.heap.size, 0, none⟩ 1 1 [.int .i64 (k : Int)] rfl rfl (fun j u hj => by match j, hj with | 0, hj => simp at hj; subst hj; simp [Addr.add]) (fun u hu => by simp at hu; subst hu; rfl) ?a3 ?a4 ?a5 ?_)
        case a3 => unfold maxLen; omega
        case a4 => omega
        case a5 => (try simp); omega
        intro v' w4 hown' hgrow _
        have HO4 : Hid (OwnInt w1.heap.size w4 v' (xs ++ [(k : Int)])) := OwnInt.snoc hown'
        have hge : ∀ g, (Value.slice oa xs.length oc).ownBlock = some g → w1.heap.size ≤ g := fun g hg => (HO3.out.lt g hg).1
        have HB4 : Hid (Below w1.heap.size w1 w4) := Below.grown (by repeat (first | with_reducible exact HB3.out | (with_reducible refine Below.setCell ?_ ?hs _; case hs => ((try simp); try omega)) | (with_reducible refine Below.alloc ?_ ?hs _; case hs => ((try simp); try omega)) | with_reducible refine Below.drew ?_ | with_reducible refine below_drewN ?_ _)) hgrow (by (try simp); omega) hge
        clear hown' hgrow HO3 HB3 hge
        go_wp2_with fail
        go_roundw
        case rel => exact ⟨k + 1, _, by omega, by go_num, by rw [HT.out, HXS.out], HO4.out, HB4.out⟩
        case measure => simp [intOf]; omega
    · have hk' : ¬ (k : Int) < (s.tasks.length : Int) := by omega
      have HR : Hid (OwnInt w1.heap.size wr u5 (readyL p s)) := by
        have := HOW.out; rw [HXS.out, show k = s.tasks.length by omega, ← HX.out] at this; exact this
      clear HOW HBX
      go_wp2_with fail
      go_ret
      exact ⟨_, rfl, own_base HR.out HB1.out.size, HBW.out⟩
end Go.Proofs.Ytgbgjljflgbcaaa

namespace Go.Proofs.Ytgbgjljflgbcaaa
open Go.RowKit
set_option linter.unusedSimpArgs false
set_option linter.unusedVariables false
set_option maxRecDepth 20000
def lvB (t : Ta) : Bool := decide (t.way = 0) || decide (t.way = 1)
def plW (f : Nat → Bool) (k : Nat) : List Int := ((List.range k).filter f).map fun i : Nat => (i : Int)
theorem plW_succ (f : Nat → Bool) (k : Nat) : plW f (k + 1) = plW f k ++ if f k then [(k : Int)] else [] := by
  unfold plW
  rw [List.range_succ, List.filter_append, List.map_append]
  cases h : f k <;> simp [h]
theorem plW_len (f : Nat → Bool) (k : Nat) : (plW f k).length ≤ k := by
  unfold plW
  have := List.length_filter_le f (List.range k)
  simpa using this
set_option maxHeartbeats 400000 in
theorem lv_any (t : Ta) (a3 a8 a9 a10 : Option Addr) (c3 c8 c9 c10 : Nat) (w : World) :
    Calls Try.prog 46 #[.agg #[.int .i64 t.body, .int .i64 t.pc, .int .i64 t.up, .slice a3 t.regs.length c3, .int .i64 t.way, .int .i64 t.stage, .int .i64 t.at_, .int .i64 t.since, .slice a8 t.old.length c8, .slice a9 t.reads.length c9, .slice a10 t.puts.length c10, .int .i64 t.when_, .int .i64 t.from_]] w fun r w' => r = .returned (.bool (lvB t)) ∧ Below w.heap.size w w' := by
  by_cases h1 : t.way = 0
  · have HF : Hid (lvB t = true) := by simp [Hid, lvB, h1]
    have h1' : (t.way == 0) = true := by simp [h1]
    go_enter Try.func46, Try.ntmps46
    go_wp2_with fail
    go_ret
    exact ⟨by rw [HF.out]; rfl, (by repeat (first | with_reducible exact Below.refl _ _ | (with_reducible refine Below.setCell ?_ ?hs _; case hs => ((try simp); try omega)) | (with_reducible refine Below.alloc ?_ ?hs _; case hs => ((try simp); try omega)) | with_reducible refine Below.drew ?_ | with_reducible refine below_drewN ?_ _))⟩
  · have HF : Hid (lvB t = decide (t.way = 1)) := by simp [Hid, lvB, h1]
    have h1' : (t.way == 0) = false := by simp [h1]
    go_enter Try.func46, Try.ntmps46
    go_wp2_with fail
    go_ret
    exact ⟨by rw [HF.out]; rfl, (by repeat (first | with_reducible exact Below.refl _ _ | (with_reducible refine Below.setCell ?_ ?hs _; case hs => ((try simp); try omega)) | (with_reducible refine Below.alloc ?_ ?hs _; case hs => ((try simp); try omega)) | with_reducible refine Below.drew ?_ | with_reducible refine below_drewN ?_ _))⟩
end Go.Proofs.Ytgbgjljflgbcaaa

namespace Go.Proofs.Ytgbgjljflgbcaaa
open Go.RowKit
set_option linter.unusedSimpArgs false
set_option linter.unusedVariables false
set_option maxRecDepth 20000
def heldL (s : Sy) : List Int := plW (fun i => plB (nth Ce.z s.cells i).lock s.tasks.length) s.cells.length
set_option maxHeartbeats 2000000 in
theorem sysHeld_any (s : Sy) (ac at' al : Option Addr) (cc ct cl : Nat) (w : World) (h : CesAt w (.slice ac s.cells.length cc) s.cells) (hn : s.cells.length ≤ 1048576) :
    Calls Try.prog 17 #[.agg #[.slice ac s.cells.length cc, .slice at' s.tasks.length ct, .int .i64 s.clock, .slice al s.log.length cl]] w fun r w' => ∃ v, r = .returned v ∧ OwnInt w.heap.size w' v (heldL s) ∧ Below w.heap.size w w' := by
  obtain ⟨i0, hi, hz0, hz1, hz2⟩ := info_parts Try.info_int
  obtain ⟨a, cap, e0, hm, hc⟩ := h
  injection e0 with e1 e2 e3
  subst e1 e3
  clear e2
  go_enter Try.func17, Try.ntmps17
  go_wp2_with fail
  go_loopw [3, 9] (fun o q w' => ∃ (k : Nat) (xs : List Int), k ≤ s.cells.length ∧ q = .int .i64 k ∧ xs = plW (fun i => plB (nth Ce.z s.cells i).lock s.tasks.length) k ∧ OwnInt (w.heap.size + 1) w' o xs ∧ Below (w.heap.size + 1) (w.alloc (.cells #[.slice ac s.cells.length cc, .slice at' s.tasks.length ct, .int .i64 s.clock, .slice al s.log.length cl] 32)) w') (fun _ q _ => s.cells.length - (intOf q).toNat)
  case atStart => exact ⟨0, [], Nat.zero_le _, rfl, rfl, World.ownsRow_nil _ _ _ _, Below.refl _ _⟩
  case round =>
    obtain ⟨k, xs, hk, rfl, hxs, hown, hb⟩ := hrel
    have hkl : xs.length ≤ k := by rw [hxs]; exact plW_len _ _
    have HX := (show Hid (xs = _) from hxs)
    clear hxs
    have hbw : Below w.heap.size w wr := ((Below.refl _ _).alloc (Nat.le_refl _) _).trans (hb.mono (by omega))
    have hsz : w.heap.size + 1 ≤ wr.heap.size := by have := hb.size; simpa using this
    have hsz' : w.heap.size < wr.heap.size := by omega
    have e0 : wr.cell? ⟨w.heap.size, 0, none⟩ = some (.slice ac s.cells.length cc) := by rw [hb.cell (p := ⟨w.heap.size, 0, none⟩) (by simp)]; simp
    have e1 : wr.cell? ⟨w.heap.size, 1, none⟩ = some (.slice at' s.tasks.length ct) := by rw [hb.cell (p := ⟨w.heap.size, 1, none⟩) (by simp)]; simp
    have HOW := (show Hid (OwnInt _ _ _ _) from hown)
    have HB := (show Hid (Below _ _ _) from hb)
    clear hown hb
    by_cases hlt : k < s.cells.length
    · have hlt' : (k : Int) < (s.cells.length : Int) := by omega
      obtain ⟨b, off, rfl, hbw', c0, c1, c2⟩ := hc k hlt
      rw [← hbw.cell (p := ⟨b, _, none⟩) hbw'] at c0 c1 c2
      have hbr : b < wr.heap.size := Nat.lt_of_lt_of_le hbw' hbw.size
      clear hc hbw
      cases q1 : plB (nth Ce.z s.cells k).lock s.tasks.length
      case true =>
        have HT : Hid (plW (fun i => plB (nth Ce.z s.cells i).lock s.tasks.length) (k + 1) = plW (fun i => plB (nth Ce.z s.cells i).lock s.tasks.length) k ++ [(k : Int)]) := by unfold Hid; rw [plW_succ]; simp [q1]
        have G1 := (show Hid (_ = _) from q1)
        clear q1
        go_wp2_with fail
        refine (isPlace_is G1.out _).mono ?_
        rintro e w' ⟨rfl, hw⟩
        have hw := hw.symm
        subst hw
        go_wp2_with (at_builtin; go_loud (refine wpList_append_own _ rfl _ _ 23 rfl (w.heap.size + 1) 3 i0 (.int .i64 0) 1 8 Try.underlying23 hi hz0 hz1 hz2 rfl (by decide) _ _ _ rfl (own_below HOW.out (by repeat (first | with_reducible exact Below.refl _ _ | (with_reducible refine Below.setCell ?_ ?hs _; case hs => ((try simp); try omega)) | (with_reducible refine Below.alloc ?_ ?hs _; case hs => ((try simp); try omega)) | with_reducible refine Below.drew ?_ | with_reducible refine below_drewN ?_ _)) (Nat.le_refl _)) ⟨wr.heap.size + 1, 0, none⟩ 1 1 [.int .i64 (k : Int)] rfl rfl (fun j u hj => by match j, hj with | 0, hj => simp at hj; subst hj; simp [Addr.add]) (fun u hu => by simp at hu; subst hu; rfl) (by unfold maxLen; omega) (by omega) (by (try simp); omega) ?_))
        intro v' w4 hown' hgrow _
        have HO4 : Hid (OwnInt (w.heap.size + 1) w4 v' (xs ++ [(k : Int)])) := OwnInt.snoc hown'
        have hge : ∀ g, u3.ownBlock = some g → w.heap.size + 1 ≤ g := fun g hg => (HOW.out.lt g hg).1
        have HB4 : Hid (Below (w.heap.size + 1) (w.alloc _) w4) := Below.grown (by repeat (first | with_reducible exact HB.out | (with_reducible refine Below.setCell ?_ ?hs _; case hs => ((try simp); try omega)) | (with_reducible refine Below.alloc ?_ ?hs _; case hs => ((try simp); try omega)) | with_reducible refine Below.drew ?_ | with_reducible refine below_drewN ?_ _)) hgrow (by simp; omega) hge
        clear hown' hgrow HOW HB hge c0 c1 c2 e0 e1
        go_wp2_with fail
        go_roundw
        case rel => exact ⟨k + 1, _, by omega, by go_num, by rw [HT.out, HX.out], HO4.out, HB4.out⟩
        case measure => simp [intOf]; omega
      case false =>
        have HT : Hid (plW (fun i => plB (nth Ce.z s.cells i).lock s.tasks.length) (k + 1) = plW (fun i => plB (nth Ce.z s.cells i).lock s.tasks.length) k) := by unfold Hid; rw [plW_succ]; simp [q1]
        have G1 := (show Hid (_ = _) from q1)
        clear q1
        go_wp2_with fail
        refine (isPlace_is G1.out _).mono ?_
        rintro e w' ⟨rfl, hw⟩
        have hw := hw.symm
        subst hw
        go_wp2_with fail
        go_roundw
        case rel => exact ⟨k + 1, xs, by omega, by go_num, by rw [HT.out, HX.out], own_below HOW.out (by repeat (first | with_reducible exact Below.refl _ _ | (with_reducible refine Below.setCell ?_ ?hs _; case hs => ((try simp); try omega)) | (with_reducible refine Below.alloc ?_ ?hs _; case hs => ((try simp); try omega)) | with_reducible refine Below.drew ?_ | with_reducible refine below_drewN ?_ _)) (Nat.le_refl _), (by repeat (first | with_reducible exact HB.out | (with_reducible refine Below.setCell ?_ ?hs _; case hs => ((try simp); try omega)) | (with_reducible refine Below.alloc ?_ ?hs _; case hs => ((try simp); try omega)) | with_reducible refine Below.drew ?_ | with_reducible refine below_drewN ?_ _))⟩
        case measure => simp [intOf]; omega
    · have hk' : ¬ (k : Int) < (s.cells.length : Int) := by omega
      have HR : Hid (OwnInt (w.heap.size + 1) wr u3 (heldL s)) := by
        have := HOW.out; rw [HX.out, show k = s.cells.length by omega] at this; exact this
      have HW := (show Hid (Below _ _ _) from hbw)
      clear hc HOW hbw HB
      go_wp2_with fail
      go_ret
      exact ⟨_, rfl, own_base HR.out (by omega), HW.out⟩
theorem heldL_new {p : Pr} (h : okB p = true) : heldL (newS p) = [] := by
  have e : newS p = ⟨p.cells.map fun n => ⟨n, 0, -1⟩, [newTa 0 (-1)], 0, []⟩ := by unfold newS; rw [h]; rfl
  rw [e]
  unfold heldL plW
  have : ∀ i, i < (p.cells.map fun n => (⟨n, 0, -1⟩ : Ce)).length → plB (nth Ce.z (p.cells.map fun n => (⟨n, 0, -1⟩ : Ce)) i).lock (([newTa 0 (-1)] : List Ta).length) = false := fun i hi => by
    rw [nth_eq _ _ i hi]; simp [plB]
  rw [List.filter_eq_nil_iff.2 (fun i hi => by rw [this i (by simpa using hi)]; simp)]
  rfl
theorem readyL_new {p : Pr} (h : okB p = true) : readyL p (newS p) = [0] := by
  have e : newS p = ⟨p.cells.map fun n => ⟨n, 0, -1⟩, [newTa 0 (-1)], 0, []⟩ := by unfold newS; rw [h]; rfl
  unfold readyL
  rw [new_ok h, if_pos rfl, e]
  rfl
end Go.Proofs.Ytgbgjljflgbcaaa

namespace Go.Proofs.Ytgbgjljflgbcaaa
open Go.RowKit
set_option linter.unusedSimpArgs false
set_option linter.unusedVariables false
set_option maxRecDepth 20000
end Go.Proofs.Ytgbgjljflgbcaaa
