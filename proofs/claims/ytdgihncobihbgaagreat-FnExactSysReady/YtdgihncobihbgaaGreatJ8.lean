import Derived.Test.YtdgihncobihbgaaGreatK5e
import Derived.Test.YtdgihncobihbgaaGreatK7
import Derived.Test.YtdgihncobihbgaaGreatK8
import Derived.Test.YtdgihncobihbgaaGreatJ7
/-
  SysOk of the program, in the model's words (by mkk11.py).
-/
namespace Go.Proofs.YtdgihncobihbgaaGreat
open Go.RowKit
set_option linter.unusedSimpArgs false
set_option linter.unusedVariables false
set_option maxRecDepth 20000

theorem sysOk_c (p : Pr) (pa0 pa1 : Option Addr) (pc0 pc1 : Nat) (s : Sy) (sa0 sa1 sa3 : Option Addr) (sc0 sc1 sc3 : Nat) (w : World) (hp : PrAt w (.slice pa0 p.cells.length pc0) (.slice pa1 p.bodies.length pc1) p) (hS : SyAt w (.slice sa0 s.cells.length sc0) (.slice sa1 s.tasks.length sc1) (.slice sa3 s.log.length sc3) s) (hsm : SmSy s) (hsp : SmallP p) :
    Calls Tryz.prog 11 #[.agg #[.slice pa0 p.cells.length pc0, .slice pa1 p.bodies.length pc1], .agg #[.slice sa0 s.cells.length sc0, .slice sa1 s.tasks.length sc1, .int .i64 s.clock, .slice sa3 s.log.length sc3]] w fun r w' => r = .returned (.bool (mSoB p s)) ∧ Below w.heap.size w w' := by
  rw [← so_eq]; exact sysOk_any p pa0 pa1 pc0 pc1 s sa0 sa1 sa3 sc0 sc1 sc3 w hp hS hsm hsp.1

end Go.Proofs.YtdgihncobihbgaaGreat

/-
  SysReady, of the program and of the model (by mky.py).
-/
namespace Go.Proofs.YtdgihncobihbgaaGreat
open Go.RowKit
set_option linter.unusedSimpArgs false
set_option linter.unusedVariables false
set_option maxRecDepth 20000

/-- the places, of the first so many, of which something holds -/
def plN (f : Nat → Bool) (k : Nat) : List Int := ((List.range k).filter f).map fun i : Nat => (i : Int)
theorem plN_succ (f : Nat → Bool) (k : Nat) : plN f (k + 1) = plN f k ++ if f k then [(k : Int)] else [] := by
  unfold plN
  rw [List.range_succ, List.filter_append, List.map_append]
  cases h : f k <;> simp [h]
theorem plN_len (f : Nat → Bool) (k : Nat) : (plN f k).length ≤ k := by
  unfold plN
  have := List.length_filter_le f (List.range k)
  simpa using this
theorem own_notbox {B : Nat} {w : World} {v : Value} {xs : List Int} {g : Nat} {M : Array Value} {t : TypeId} (h : OwnInt B w v xs) (hg : w.heap[g]? = some (.cells M t)) (ht : t ≠ 3) : ∀ k, v.ownBlock = some k → k = g → False := fun k e ek => by
  subst ek
  rcases h.2 with ⟨rfl, _⟩ | ⟨g', cap, cur, rfl, hb, hgg, _⟩
  · cases e
  · injection e with e
    subst e
    rw [hgg] at hg
    injection hg with hg
    injection hg with h1 h2
    exact ht h2.symm
theorem heap_newest (w : World) (o : Obj) : (w.alloc o).heap[w.heap.size]? = some o := by
  first | exact heap_alloc_new w o | exact Go.heap_alloc_new w o | simp [World.alloc, Array.getElem?_push]
theorem OwnAlloc {B : Nat} {w : World} {v : Value} {xs : List Int} (h : OwnInt B w v xs) (o : Obj) : OwnInt B (w.alloc o) v xs := World.ownsRow.alloc h o
def readyL (p : Pr) (s : Sy) : List Int := if mSoB p s then plN (rdyB s) s.tasks.length else []
theorem mSoB_n7 {p : Pr} {s : Sy} (h : mSoB p s = true) : s.tasks.length ≤ 7 := by
  rw [mSoB_head] at h
  simp only [Bool.and_eq_true] at h
  have h1 := h.1
  unfold mHeadB at h1
  simp only [Bool.and_eq_true] at h1
  have : 1 ≤ (s.tasks.length : Int) ∧ (s.tasks.length : Int) ≤ 7 := by simpa [inB] using h1.1.2
  omega

set_option maxHeartbeats 4000000 in
theorem sysReady_any (p : Pr) (pa0 pa1 : Option Addr) (pc0 pc1 : Nat) (s : Sy) (sa0 sa1 sa3 : Option Addr) (sc0 sc1 sc3 : Nat) (w : World) (hp : PrAt w (.slice pa0 p.cells.length pc0) (.slice pa1 p.bodies.length pc1) p) (hS : SyAt w (.slice sa0 s.cells.length sc0) (.slice sa1 s.tasks.length sc1) (.slice sa3 s.log.length sc3) s) (hsm : SmSy s) (hsp : SmallP p) :
    Calls Tryz.prog 15 #[.agg #[.slice pa0 p.cells.length pc0, .slice pa1 p.bodies.length pc1], .agg #[.slice sa0 s.cells.length sc0, .slice sa1 s.tasks.length sc1, .int .i64 s.clock, .slice sa3 s.log.length sc3]] w fun r w' => ∃ v, r = .returned v ∧ OwnInt w.heap.size w' v (readyL p s) ∧ Below w.heap.size w w' := by
  obtain ⟨i0, hi, hz0, hz1, hz2⟩ := info_parts Tryz.info_int
  have HP := (show Hid (PrAt _ _ _ _) from hp)
  have HS := (show Hid (SyAt _ _ _ _ _) from hS)
  clear hp hS
  cases o1 : mSoB p s
  · have HX : Hid (readyL p s = []) := by unfold Hid readyL; rw [o1]; rfl
    have O1 := (show Hid (_ = _) from o1)
    clear o1
    go_enter Tryz.func15, Tryz.ntmps15
    go_wp2_with fail
    refine (sysOk_c p _ _ _ _ s _ _ _ _ _ _ _ (by exact PrAt.mono HP.out (by repeat (first | with_reducible exact Below.refl _ _ | (with_reducible refine Below.setCell ?_ ?hs _; case hs => ((try simp); try omega)) | (with_reducible refine Below.alloc ?_ ?hs _; case hs => ((try simp); try omega)) | with_reducible refine Below.drew ?_ | with_reducible refine below_drewN ?_ _))) (by exact SyAt.mono HS.out (by repeat (first | with_reducible exact Below.refl _ _ | (with_reducible refine Below.setCell ?_ ?hs _; case hs => ((try simp); try omega)) | (with_reducible refine Below.alloc ?_ ?hs _; case hs => ((try simp); try omega)) | with_reducible refine Below.drew ?_ | with_reducible refine below_drewN ?_ _))) hsm hsp).mono ?_
    rw [O1.out]
    rintro e w1 ⟨rfl, hb1⟩
    have HB1 : Hid (Below w.heap.size w w1) := below_then (by repeat (first | with_reducible exact Below.refl _ _ | (with_reducible refine Below.setCell ?_ ?hs _; case hs => ((try simp); try omega)) | (with_reducible refine Below.alloc ?_ ?hs _; case hs => ((try simp); try omega)) | with_reducible refine Below.drew ?_ | with_reducible refine below_drewN ?_ _)) (by (try simp); try omega) hb1
    clear hb1
    go_wp2_with fail
    go_ret
    exact ⟨_, rfl, by rw [HX.out]; exact World.ownsRow_nil _ _ _ _, HB1.out⟩
  have hn7 := mSoB_n7 o1
  have HX : Hid (readyL p s = plN (rdyB s) s.tasks.length) := by unfold Hid readyL; rw [o1]; rfl
  have O1 := (show Hid (_ = _) from o1)
  clear o1
  go_enter Tryz.func15, Tryz.ntmps15
  go_wp2_with fail
  refine (sysOk_c p _ _ _ _ s _ _ _ _ _ _ _ (by exact PrAt.mono HP.out (by repeat (first | with_reducible exact Below.refl _ _ | (with_reducible refine Below.setCell ?_ ?hs _; case hs => ((try simp); try omega)) | (with_reducible refine Below.alloc ?_ ?hs _; case hs => ((try simp); try omega)) | with_reducible refine Below.drew ?_ | with_reducible refine below_drewN ?_ _))) (by exact SyAt.mono HS.out (by repeat (first | with_reducible exact Below.refl _ _ | (with_reducible refine Below.setCell ?_ ?hs _; case hs => ((try simp); try omega)) | (with_reducible refine Below.alloc ?_ ?hs _; case hs => ((try simp); try omega)) | with_reducible refine Below.drew ?_ | with_reducible refine below_drewN ?_ _))) hsm hsp).mono ?_
  rw [O1.out]
  rintro e w1 ⟨rfl, hb1⟩
  have HB1 : Hid (Below w.heap.size w w1) := below_then (by repeat (first | with_reducible exact Below.refl _ _ | (with_reducible refine Below.setCell ?_ ?hs _; case hs => ((try simp); try omega)) | (with_reducible refine Below.alloc ?_ ?hs _; case hs => ((try simp); try omega)) | with_reducible refine Below.drew ?_ | with_reducible refine below_drewN ?_ _)) (by (try simp); try omega) hb1
  have x0_1 : w1.cell? ⟨w.heap.size, 0, none⟩ = some (.slice pa0 p.cells.length pc0) := by rw [hb1.cell (p := ⟨w.heap.size, 0, none⟩) (by (try simp); try omega)]; simp [go_sem]
  have x1_1 : w1.cell? ⟨w.heap.size, 1, none⟩ = some (.slice pa1 p.bodies.length pc1) := by rw [hb1.cell (p := ⟨w.heap.size, 1, none⟩) (by (try simp); try omega)]; simp [go_sem]
  have x2_1 : w1.cell? ⟨w.heap.size + 1, 0, none⟩ = some (.slice sa0 s.cells.length sc0) := by rw [hb1.cell (p := ⟨w.heap.size + 1, 0, none⟩) (by (try simp); try omega)]; simp [go_sem]
  have x3_1 : w1.cell? ⟨w.heap.size + 1, 1, none⟩ = some (.slice sa1 s.tasks.length sc1) := by rw [hb1.cell (p := ⟨w.heap.size + 1, 1, none⟩) (by (try simp); try omega)]; simp [go_sem]
  have x4_1 : w1.cell? ⟨w.heap.size + 1, 2, none⟩ = some (.int .i64 s.clock) := by rw [hb1.cell (p := ⟨w.heap.size + 1, 2, none⟩) (by (try simp); try omega)]; simp [go_sem]
  have x5_1 : w1.cell? ⟨w.heap.size + 1, 3, none⟩ = some (.slice sa3 s.log.length sc3) := by rw [hb1.cell (p := ⟨w.heap.size + 1, 3, none⟩) (by (try simp); try omega)]; simp [go_sem]
  have z0_1 : w.heap.size < w1.heap.size := by have := hb1.size; (try simp at this); omega
  have z1_1 : w.heap.size + 1 < w1.heap.size := by have := hb1.size; (try simp at this); omega
  clear hb1
  go_wp2_with fail
  go_loopw [5, 14] (fun o q w' => ∃ (k : Nat) (xs : List Int), k ≤ s.tasks.length ∧ q = .int .i64 k ∧ xs = plN (rdyB s) k ∧ OwnInt w1.heap.size w' o xs ∧ Below w1.heap.size w1 w') (fun _ q _ => s.tasks.length - (intOf q).toNat)
  case atStart => exact ⟨0, [], Nat.zero_le _, rfl, rfl, World.ownsRow_nil _ _ _ _, Below.refl _ _⟩
  case round =>
    obtain ⟨k, xs, hk, rfl, hxs, hown, hb⟩ := hrel
    have hkl : xs.length ≤ k := by rw [hxs]; exact plN_len _ _
    have HXS := (show Hid (xs = _) from hxs)
    clear hxs
    have HBW : Hid (Below w.heap.size w wr) := below_then HB1.out HB1.out.size hb
    have hsz : w1.heap.size ≤ wr.heap.size := hb.size
    have x0_2 : wr.cell? ⟨w.heap.size, 0, none⟩ = some (.slice pa0 p.cells.length pc0) := by rw [hb.cell (p := ⟨w.heap.size, 0, none⟩) (by (try simp); try omega)]; exact x0_1
    have x1_2 : wr.cell? ⟨w.heap.size, 1, none⟩ = some (.slice pa1 p.bodies.length pc1) := by rw [hb.cell (p := ⟨w.heap.size, 1, none⟩) (by (try simp); try omega)]; exact x1_1
    have x2_2 : wr.cell? ⟨w.heap.size + 1, 0, none⟩ = some (.slice sa0 s.cells.length sc0) := by rw [hb.cell (p := ⟨w.heap.size + 1, 0, none⟩) (by (try simp); try omega)]; exact x2_1
    have x3_2 : wr.cell? ⟨w.heap.size + 1, 1, none⟩ = some (.slice sa1 s.tasks.length sc1) := by rw [hb.cell (p := ⟨w.heap.size + 1, 1, none⟩) (by (try simp); try omega)]; exact x3_1
    have x4_2 : wr.cell? ⟨w.heap.size + 1, 2, none⟩ = some (.int .i64 s.clock) := by rw [hb.cell (p := ⟨w.heap.size + 1, 2, none⟩) (by (try simp); try omega)]; exact x4_1
    have x5_2 : wr.cell? ⟨w.heap.size + 1, 3, none⟩ = some (.slice sa3 s.log.length sc3) := by rw [hb.cell (p := ⟨w.heap.size + 1, 3, none⟩) (by (try simp); try omega)]; exact x5_1
    have z0_2 : w.heap.size < wr.heap.size := by have := hb.size; (try simp at this); omega
    have z1_2 : w.heap.size + 1 < wr.heap.size := by have := hb.size; (try simp at this); omega
    have HOW := (show Hid (OwnInt _ _ _ _) from hown)
    have HBX := (show Hid (Below _ _ _) from hb)
    clear hown hb x0_1 x1_1 x2_1 x3_1 x4_1 x5_1
    by_cases hlt : k < s.tasks.length
    · have hlt' : (k : Int) < (s.tasks.length : Int) := by omega
      obtain ⟨b, off, hsa⟩ : ∃ b off, sa1 = some ⟨b, off, none⟩ := by
        obtain ⟨a, cap, e, hm, hc⟩ := HS.out.2.1
        injection e with e1 e2 e3
        obtain ⟨b, off, _, _, _, _, e, _⟩ := hc k hlt
        exact ⟨b, off, e1.trans e⟩
      subst hsa
      obtain ⟨oa, oc, rfl, _⟩ := own_shape HOW.out
      go_wp2_with fail
      refine (moveOf_any p _ _ _ _ (w.heap.size + 1) s b off sc1 k _ x3_2 x4_2 z1_2 hlt).mono ?_
      rintro e w2 ⟨X, rfl, hM2, hb2⟩
      have HM2 := (show Hid (MvAt _ _ _ _ _ _ _) from hM2)
      have HB2 : Hid (Below w1.heap.size w1 w2) := below_then HBX.out hsz hb2
      have HB2w : Hid (Below w.heap.size w w2) := below_then HBW.out HBW.out.size hb2
      have HO2 : Hid (OwnInt w1.heap.size w2 _ xs) := own_below HOW.out hb2 (Nat.le_refl _)
      have hsz2 : w1.heap.size ≤ w2.heap.size := HB2.out.size
      clear hM2 hb2 HOW HBX HBW x0_2 x1_2 x2_2 x3_2 x4_2 x5_2 z0_2 z1_2
      go_wp2_with fail
      refine (ready_any X (w.heap.size + 1) s _ sc1 k _ HM2.out (TasAt.mono HS.out.2.1 HB2w.out) hlt).mono ?_
      rintro e w3 ⟨rfl, hb3⟩
      have HB3 : Hid (Below w1.heap.size w1 w3) := below_then HB2.out hsz2 hb3
      have HO3 : Hid (OwnInt w1.heap.size w3 _ xs) := own_below HO2.out hb3 (Nat.le_refl _)
      have hsz3 : w1.heap.size ≤ w3.heap.size := HB3.out.size
      clear hb3 HB2 HB2w HO2 HM2
      cases d : rdyB s k
      · have HT : Hid (plN (rdyB s) (k + 1) = plN (rdyB s) k) := by unfold Hid; rw [plN_succ, d]; simp
        clear d
        go_wp2_with fail
        go_roundw
        case rel => exact ⟨k + 1, xs, by omega, by go_num, by rw [HT.out, HXS.out], HO3.out, HB3.out⟩
        case measure => simp [intOf]; omega
      · have HT : Hid (plN (rdyB s) (k + 1) = plN (rdyB s) k ++ [(k : Int)]) := by unfold Hid; rw [plN_succ, d]; simp
        clear d
        go_wp2_with (at_builtin; refine wpList_append_own _ rfl _ _ 22 rfl w1.heap.size 3 i0 (.int .i64 0) 1 8 Tryz.underlying22 hi hz0 hz1 hz2 rfl (by decide) _ _ _ rfl (own_below HO3.out (by repeat (first | with_reducible exact Below.refl _ _ | (with_reducible refine Below.setCell ?_ ?hs _; case hs => ((try simp); try omega)) | (with_reducible refine Below.alloc ?_ ?hs _; case hs => ((try simp); try omega)) | with_reducible refine Below.drew ?_ | with_reducible refine below_drewN ?_ _)) (Nat.le_refl _)) ⟨w3.heap.size, 0, none⟩ 1 1 [.int .i64 (k : Int)] rfl rfl (fun j u hj => by match j, hj with | 0, hj => simp at hj; subst hj; simp [Addr.add]) (fun u hu => by simp at hu; subst hu; rfl) ?a3 ?a4 ?a5 ?_)
        case a3 => unfold maxLen; omega
        case a4 => omega
        case a5 => (try simp); omega
        intro v' w4 hown' hgrow _
        have HO4 : Hid (OwnInt w1.heap.size w4 v' (xs ++ [(k : Int)])) := OwnInt.snoc hown'
        have hge : ∀ g, (Value.slice oa xs.length oc).ownBlock = some g → w1.heap.size ≤ g := fun g hg => (HO3.out.lt g hg).1
        have HB4 : Hid (Below w1.heap.size w1 w4) := Below.grown (by repeat (first | with_reducible exact HB3.out | (with_reducible refine Below.setCell ?_ ?hs _; case hs => ((try simp); try omega)) | (with_reducible refine Below.alloc ?_ ?hs _; case hs => ((try simp); try omega)) | with_reducible refine Below.drew ?_ | with_reducible refine below_drewN ?_ _)) hgrow (by (try simp); omega) hge
        clear hown' hgrow HO3 HB3 hge
        go_wp2_with fail
        go_roundw
        case rel => exact ⟨k + 1, _, by omega, by go_num, by rw [HT.out, HXS.out], HO4.out, HB4.out⟩
        case measure => simp [intOf]; omega
    · have hk' : ¬ (k : Int) < (s.tasks.length : Int) := by omega
      have HR : Hid (OwnInt w1.heap.size wr u5 (readyL p s)) := by
        have := HOW.out; rw [HXS.out, show k = s.tasks.length by omega, ← HX.out] at this; exact this
      clear HOW HBX
      go_wp2_with fail
      go_ret
      exact ⟨_, rfl, own_base HR.out HB1.out.size, HBW.out⟩

set_option maxHeartbeats 4000000 in
theorem sSysReady_any (p : Pr) (pa0 pa1 : Option Addr) (pc0 pc1 : Nat) (s : Sy) (sa0 sa1 sa3 : Option Addr) (sc0 sc1 sc3 : Nat) (w : World) (hp : PrAt w (.slice pa0 p.cells.length pc0) (.slice pa1 p.bodies.length pc1) p) (hS : SyAt w (.slice sa0 s.cells.length sc0) (.slice sa1 s.tasks.length sc1) (.slice sa3 s.log.length sc3) s) (hsm : SmSy s) (hsp : SmallP p) :
    Calls Tryz.prog 14 #[.agg #[.slice pa0 p.cells.length pc0, .slice pa1 p.bodies.length pc1], .agg #[.slice sa0 s.cells.length sc0, .slice sa1 s.tasks.length sc1, .int .i64 s.clock, .slice sa3 s.log.length sc3]] w fun r w' => ∃ v, r = .returned v ∧ OwnInt w.heap.size w' v (readyL p s) ∧ Below w.heap.size w w' := by
  obtain ⟨i0, hi, hz0, hz1, hz2⟩ := info_parts Tryz.info_int
  have HP := (show Hid (PrAt _ _ _ _) from hp)
  have HS := (show Hid (SyAt _ _ _ _ _) from hS)
  clear hp hS
  cases o1 : mSoB p s
  · have HX : Hid (readyL p s = []) := by unfold Hid readyL; rw [o1]; rfl
    have O1 := (show Hid (_ = _) from o1)
    clear o1
    go_enter Tryz.func14, Tryz.ntmps14
    go_wp2_with fail
    refine (sSysOk_any p _ _ _ _ s _ _ _ _ _ _ _ (by exact PrAt.mono HP.out (by repeat (first | with_reducible exact Below.refl _ _ | (with_reducible refine Below.setCell ?_ ?hs _; case hs => ((try simp); try omega)) | (with_reducible refine Below.alloc ?_ ?hs _; case hs => ((try simp); try omega)) | with_reducible refine Below.drew ?_ | with_reducible refine below_drewN ?_ _))) (by exact SyAt.mono HS.out (by repeat (first | with_reducible exact Below.refl _ _ | (with_reducible refine Below.setCell ?_ ?hs _; case hs => ((try simp); try omega)) | (with_reducible refine Below.alloc ?_ ?hs _; case hs => ((try simp); try omega)) | with_reducible refine Below.drew ?_ | with_reducible refine below_drewN ?_ _))) hsm hsp).mono ?_
    rw [O1.out]
    rintro e w1 ⟨rfl, hb1⟩
    have HB1 : Hid (Below w.heap.size w w1) := below_then (by repeat (first | with_reducible exact Below.refl _ _ | (with_reducible refine Below.setCell ?_ ?hs _; case hs => ((try simp); try omega)) | (with_reducible refine Below.alloc ?_ ?hs _; case hs => ((try simp); try omega)) | with_reducible refine Below.drew ?_ | with_reducible refine below_drewN ?_ _)) (by (try simp); try omega) hb1
    have HO1 : Hid (OwnInt w.heap.size w1 (.slice (some ⟨w.heap.size + 1 + 1, 0, none⟩) 0 0) []) := own_below (own_made0 _ _ _ _ (by simp) (by (try simp); try omega)) hb1 (Nat.le_refl _)
    clear hb1
    go_wp2_with fail
    go_ret
    exact ⟨_, rfl, by rw [HX.out]; exact HO1.out, HB1.out⟩
  have hn7 := mSoB_n7 o1
  have HX : Hid (readyL p s = plN (rdyB s) s.tasks.length) := by unfold Hid readyL; rw [o1]; rfl
  have O1 := (show Hid (_ = _) from o1)
  clear o1
  go_enter Tryz.func14, Tryz.ntmps14
  go_wp2_with fail
  refine (sSysOk_any p _ _ _ _ s _ _ _ _ _ _ _ (by exact PrAt.mono HP.out (by repeat (first | with_reducible exact Below.refl _ _ | (with_reducible refine Below.setCell ?_ ?hs _; case hs => ((try simp); try omega)) | (with_reducible refine Below.alloc ?_ ?hs _; case hs => ((try simp); try omega)) | with_reducible refine Below.drew ?_ | with_reducible refine below_drewN ?_ _))) (by exact SyAt.mono HS.out (by repeat (first | with_reducible exact Below.refl _ _ | (with_reducible refine Below.setCell ?_ ?hs _; case hs => ((try simp); try omega)) | (with_reducible refine Below.alloc ?_ ?hs _; case hs => ((try simp); try omega)) | with_reducible refine Below.drew ?_ | with_reducible refine below_drewN ?_ _))) hsm hsp).mono ?_
  rw [O1.out]
  rintro e w0 ⟨rfl, hb1⟩
  have HB0 : Hid (Below w.heap.size w w0) := below_then (by repeat (first | with_reducible exact Below.refl _ _ | (with_reducible refine Below.setCell ?_ ?hs _; case hs => ((try simp); try omega)) | (with_reducible refine Below.alloc ?_ ?hs _; case hs => ((try simp); try omega)) | with_reducible refine Below.drew ?_ | with_reducible refine below_drewN ?_ _)) (by (try simp); try omega) hb1
  have HO0 : Hid (OwnInt (w.heap.size + 1 + 1) w0 (.slice (some ⟨w.heap.size + 1 + 1, 0, none⟩) 0 0) []) := own_below (own_made0 _ _ _ _ (by simp) (by (try simp); try omega)) hb1 (Nat.le_refl _)
  have x0_0 : w0.cell? ⟨w.heap.size, 0, none⟩ = some (.slice pa0 p.cells.length pc0) := by rw [hb1.cell (p := ⟨w.heap.size, 0, none⟩) (by (try simp); try omega)]; simp [go_sem]
  have x1_0 : w0.cell? ⟨w.heap.size, 1, none⟩ = some (.slice pa1 p.bodies.length pc1) := by rw [hb1.cell (p := ⟨w.heap.size, 1, none⟩) (by (try simp); try omega)]; simp [go_sem]
  have x2_0 : w0.cell? ⟨w.heap.size + 1, 0, none⟩ = some (.slice sa0 s.cells.length sc0) := by rw [hb1.cell (p := ⟨w.heap.size + 1, 0, none⟩) (by (try simp); try omega)]; simp [go_sem]
  have x3_0 : w0.cell? ⟨w.heap.size + 1, 1, none⟩ = some (.slice sa1 s.tasks.length sc1) := by rw [hb1.cell (p := ⟨w.heap.size + 1, 1, none⟩) (by (try simp); try omega)]; simp [go_sem]
  have x4_0 : w0.cell? ⟨w.heap.size + 1, 2, none⟩ = some (.int .i64 s.clock) := by rw [hb1.cell (p := ⟨w.heap.size + 1, 2, none⟩) (by (try simp); try omega)]; simp [go_sem]
  have x5_0 : w0.cell? ⟨w.heap.size + 1, 3, none⟩ = some (.slice sa3 s.log.length sc3) := by rw [hb1.cell (p := ⟨w.heap.size + 1, 3, none⟩) (by (try simp); try omega)]; simp [go_sem]
  have z0_0 : w.heap.size < w0.heap.size := by have := hb1.size; (try simp at this); omega
  have z1_0 : w.heap.size + 1 < w0.heap.size := by have := hb1.size; (try simp at this); omega
  clear hb1
  have hw0l : w.heap.size + 1 + 1 ≤ w0.heap.size := by have := z1_0; omega
  go_wp2_with fail
  go_loopw [5, 7] (fun o q w' => ∃ (k : Nat) (xs : List Int), k ≤ s.tasks.length ∧ q = .int .i64 k ∧ xs = plN (rdyB s) k ∧ OwnInt (w.heap.size + 1 + 1) w' o xs ∧ Below (w.heap.size + 1 + 1) w0 w' ∧ w'.heap[w0.heap.size]? = some (.cells #[.slice pa0 p.cells.length pc0, .slice pa1 p.bodies.length pc1, .slice sa0 s.cells.length sc0, .slice sa1 s.tasks.length sc1, .int .i64 s.clock, .slice sa3 s.log.length sc3] 72)) (fun _ q _ => s.tasks.length - (intOf q).toNat)
  case atStart => exact ⟨0, [], Nat.zero_le _, rfl, rfl, OwnAlloc HO0.out _, (Below.refl _ _).alloc (by omega) _, heap_newest _ _⟩
  case round =>
    obtain ⟨k, xs, hk, rfl, hxs, hown, hb, hbox⟩ := hrel
    have hkl : xs.length ≤ k := by rw [hxs]; exact plN_len _ _
    have HXS := (show Hid (xs = _) from hxs)
    clear hxs
    have HBW : Hid (Below w.heap.size w wr) := HB0.out.trans (hb.mono (by omega))
    have hsz : w0.heap.size ≤ wr.heap.size := hb.size
    have hXl : w0.heap.size < wr.heap.size := (Array.getElem?_eq_some_iff.1 hbox).1
    have hX1 : wr.cell? ⟨w0.heap.size, 3, none⟩ = some (.slice sa1 s.tasks.length sc1) := by rw [cell_of_row wr w0.heap.size 3 _ _ (0, 0) hbox]; rfl
    have hX2 : wr.cell? ⟨w0.heap.size, 4, none⟩ = some (.int .i64 s.clock) := by rw [cell_of_row wr w0.heap.size 4 _ _ (0, 0) hbox]; rfl
    have x3_2 : wr.cell? ⟨w.heap.size + 1, 1, none⟩ = some (.slice sa1 s.tasks.length sc1) := by rw [hb.cell (p := ⟨w.heap.size + 1, 1, none⟩) (by simp)]; exact x3_0
    have z1_2 : w.heap.size + 1 < wr.heap.size := by omega
    have HOW := (show Hid (OwnInt _ _ _ _) from hown)
    have HBX := (show Hid (Below _ _ _) from hb)
    have HBOX := (show Hid (_ = _) from hbox)
    clear hown hb hbox x0_0 x1_0 x2_0 x3_0 x4_0 x5_0
    by_cases hlt : k < s.tasks.length
    · have hlt' : (k : Int) < (s.tasks.length : Int) := by omega
      obtain ⟨oa, oc, rfl, _⟩ := own_shape HOW.out
      go_wp2_with fail
      refine (sReady_any w0.heap.size s _ sc1 k _ hX1 hX2 hXl (TasAt.mono HS.out.2.1 HBW.out) hlt hn7).mono ?_
      rintro e w3 ⟨rfl, hb3⟩
      have HB3 : Hid (Below (w.heap.size + 1 + 1) w0 w3) := HBX.out.trans (hb3.mono (by omega))
      have HO3 : Hid (OwnInt (w.heap.size + 1 + 1) w3 _ xs) := own_below HOW.out hb3 (Nat.le_refl _)
      have HBOX3 : Hid (w3.heap[w0.heap.size]? = some (.cells #[.slice pa0 p.cells.length pc0, .slice pa1 p.bodies.length pc1, .slice sa0 s.cells.length sc0, .slice sa1 s.tasks.length sc1, .int .i64 s.clock, .slice sa3 s.log.length sc3] 72)) := (hb3.block _ hXl).trans HBOX.out
      have hsz3 : w0.heap.size < w3.heap.size := by have := hb3.size; omega
      clear hb3 HBX HBW HOW HBOX hX1 hX2 x3_2
      cases d : rdyB s k
      · have HT : Hid (plN (rdyB s) (k + 1) = plN (rdyB s) k) := by unfold Hid; rw [plN_succ, d]; simp
        clear d
        go_wp2_with fail
        go_roundw
        case rel => exact ⟨k + 1, xs, by omega, by go_num, by rw [HT.out, HXS.out], HO3.out, HB3.out, HBOX3.out⟩
        case measure => simp [intOf]; omega
      · have HT : Hid (plN (rdyB s) (k + 1) = plN (rdyB s) k ++ [(k : Int)]) := by unfold Hid; rw [plN_succ, d]; simp
        have HNB := (show Hid (∀ g, _) from own_notbox HO3.out HBOX3.out (by decide))
        clear d
        go_wp2_with (at_builtin; refine wpList_append_own _ rfl _ _ 22 rfl (w.heap.size + 1 + 1) 3 i0 (.int .i64 0) 1 8 Tryz.underlying22 hi hz0 hz1 hz2 rfl (by decide) _ _ _ rfl (own_below HO3.out (by repeat (first | with_reducible exact Below.refl _ _ | (with_reducible refine Below.setCell ?_ ?hs _; case hs => ((try simp); try omega)) | (with_reducible refine Below.alloc ?_ ?hs _; case hs => ((try simp); try omega)) | with_reducible refine Below.drew ?_ | with_reducible refine below_drewN ?_ _)) (Nat.le_refl _)) ⟨w3.heap.size, 0, none⟩ 1 1 [.int .i64 (k : Int)] rfl rfl (fun j u hj => by match j, hj with | 0, hj => simp at hj; subst hj; simp [Addr.add]) (fun u hu => by simp at hu; subst hu; rfl) ?a3 ?a4 ?a5 ?_)
        case a3 => unfold maxLen; omega
        case a4 => omega
        case a5 => (try simp); omega
        intro v' w4 hown' hgrow _
        have HO4 : Hid (OwnInt (w.heap.size + 1 + 1) w4 v' (xs ++ [(k : Int)])) := OwnInt.snoc hown'
        have hge : ∀ g, (Value.slice oa xs.length oc).ownBlock = some g → w.heap.size + 1 + 1 ≤ g := fun g hg => (HO3.out.lt g hg).1
        have HB4 : Hid (Below (w.heap.size + 1 + 1) w0 w4) := Below.grown (by repeat (first | with_reducible exact HB3.out | (with_reducible refine Below.setCell ?_ ?hs _; case hs => ((try simp); try omega)) | (with_reducible refine Below.alloc ?_ ?hs _; case hs => ((try simp); try omega)) | with_reducible refine Below.drew ?_ | with_reducible refine below_drewN ?_ _)) hgrow (by (try simp); omega) hge
        have HBOX4 : Hid (w4.heap[w0.heap.size]? = some (.cells #[.slice pa0 p.cells.length pc0, .slice pa1 p.bodies.length pc1, .slice sa0 s.cells.length sc0, .slice sa1 s.tasks.length sc1, .int .i64 s.clock, .slice sa3 s.log.length sc3] 72)) := by
          unfold Hid
          rw [hgrow.block w0.heap.size (by (try simp); omega) (fun e => HNB.out w0.heap.size e.symm rfl)]
          exact (((Below.refl w3.heap.size w3).alloc (Nat.le_refl _) _).block w0.heap.size hsz3).trans HBOX3.out
        clear hown' hgrow HO3 HB3 HBOX3 HNB hge
        go_wp2_with fail
        go_roundw
        case rel => exact ⟨k + 1, _, by omega, by go_num, by rw [HT.out, HXS.out], HO4.out, HB4.out, HBOX4.out⟩
        case measure => simp [intOf]; omega
    · have hk' : ¬ (k : Int) < (s.tasks.length : Int) := by omega
      have HR : Hid (OwnInt (w.heap.size + 1 + 1) wr u5 (readyL p s)) := by
        have := HOW.out; rw [HXS.out, show k = s.tasks.length by omega, ← HX.out] at this; exact this
      clear HOW HBX
      go_wp2_with fail
      go_ret
      exact ⟨_, rfl, own_base HR.out (by omega), HBW.out⟩

end Go.Proofs.YtdgihncobihbgaaGreat

/-
  SysOver, of the program and of the model (by mky.py).
-/
namespace Go.Proofs.YtdgihncobihbgaaGreat
open Go.RowKit
set_option linter.unusedSimpArgs false
set_option linter.unusedVariables false
set_option maxRecDepth 20000

def overB (p : Pr) (s : Sy) : Bool := mSoB p s && decide ((readyL p s).length = 0)
set_option maxHeartbeats 4000000 in
theorem sysOver_any (p : Pr) (pa0 pa1 : Option Addr) (pc0 pc1 : Nat) (s : Sy) (sa0 sa1 sa3 : Option Addr) (sc0 sc1 sc3 : Nat) (w : World) (hp : PrAt w (.slice pa0 p.cells.length pc0) (.slice pa1 p.bodies.length pc1) p) (hS : SyAt w (.slice sa0 s.cells.length sc0) (.slice sa1 s.tasks.length sc1) (.slice sa3 s.log.length sc3) s) (hsm : SmSy s) (hsp : SmallP p) :
    Calls Tryz.prog 22 #[.agg #[.slice pa0 p.cells.length pc0, .slice pa1 p.bodies.length pc1], .agg #[.slice sa0 s.cells.length sc0, .slice sa1 s.tasks.length sc1, .int .i64 s.clock, .slice sa3 s.log.length sc3]] w fun r w' => r = .returned (.bool (overB p s)) ∧ Below w.heap.size w w' := by
  have HP := (show Hid (PrAt _ _ _ _) from hp)
  have HS := (show Hid (SyAt _ _ _ _ _) from hS)
  clear hp hS
  cases o1 : mSoB p s
  · have HF : Hid (overB p s = false) := by unfold Hid overB; rw [o1]; rfl
    have O1 := (show Hid (_ = _) from o1)
    clear o1
    go_enter Tryz.func22, Tryz.ntmps22
    go_wp2_with fail
    refine (sysOk_c p _ _ _ _ s _ _ _ _ _ _ _ (by exact PrAt.mono HP.out (by repeat (first | with_reducible exact Below.refl _ _ | (with_reducible refine Below.setCell ?_ ?hs _; case hs => ((try simp); try omega)) | (with_reducible refine Below.alloc ?_ ?hs _; case hs => ((try simp); try omega)) | with_reducible refine Below.drew ?_ | with_reducible refine below_drewN ?_ _))) (by exact SyAt.mono HS.out (by repeat (first | with_reducible exact Below.refl _ _ | (with_reducible refine Below.setCell ?_ ?hs _; case hs => ((try simp); try omega)) | (with_reducible refine Below.alloc ?_ ?hs _; case hs => ((try simp); try omega)) | with_reducible refine Below.drew ?_ | with_reducible refine below_drewN ?_ _))) hsm hsp).mono ?_
    rw [O1.out]
    rintro e w1 ⟨rfl, hb1⟩
    have HB1 : Hid (Below w.heap.size w w1) := below_then (by repeat (first | with_reducible exact Below.refl _ _ | (with_reducible refine Below.setCell ?_ ?hs _; case hs => ((try simp); try omega)) | (with_reducible refine Below.alloc ?_ ?hs _; case hs => ((try simp); try omega)) | with_reducible refine Below.drew ?_ | with_reducible refine below_drewN ?_ _)) (by (try simp); try omega) hb1
    clear hb1
    go_wp2_with fail
    go_ret
    exact ⟨by rw [HF.out]; rfl, HB1.out⟩
  have HF : Hid (overB p s = (((readyL p s).length : Int) == 0)) := by
    unfold Hid overB; rw [o1, Bool.true_and, Bool.eq_iff_iff]; simp
  have O1 := (show Hid (_ = _) from o1)
  clear o1
  go_enter Tryz.func22, Tryz.ntmps22
  go_wp2_with fail
  refine (sysOk_c p _ _ _ _ s _ _ _ _ _ _ _ (by exact PrAt.mono HP.out (by repeat (first | with_reducible exact Below.refl _ _ | (with_reducible refine Below.setCell ?_ ?hs _; case hs => ((try simp); try omega)) | (with_reducible refine Below.alloc ?_ ?hs _; case hs => ((try simp); try omega)) | with_reducible refine Below.drew ?_ | with_reducible refine below_drewN ?_ _))) (by exact SyAt.mono HS.out (by repeat (first | with_reducible exact Below.refl _ _ | (with_reducible refine Below.setCell ?_ ?hs _; case hs => ((try simp); try omega)) | (with_reducible refine Below.alloc ?_ ?hs _; case hs => ((try simp); try omega)) | with_reducible refine Below.drew ?_ | with_reducible refine below_drewN ?_ _))) hsm hsp).mono ?_
  rw [O1.out]
  rintro e w1 ⟨rfl, hb1⟩
  have HB1 : Hid (Below w.heap.size w w1) := below_then (by repeat (first | with_reducible exact Below.refl _ _ | (with_reducible refine Below.setCell ?_ ?hs _; case hs => ((try simp); try omega)) | (with_reducible refine Below.alloc ?_ ?hs _; case hs => ((try simp); try omega)) | with_reducible refine Below.drew ?_ | with_reducible refine below_drewN ?_ _)) (by (try simp); try omega) hb1
  have x0_1 : w1.cell? ⟨w.heap.size, 0, none⟩ = some (.slice pa0 p.cells.length pc0) := by rw [hb1.cell (p := ⟨w.heap.size, 0, none⟩) (by (try simp); try omega)]; simp [go_sem]
  have x1_1 : w1.cell? ⟨w.heap.size, 1, none⟩ = some (.slice pa1 p.bodies.length pc1) := by rw [hb1.cell (p := ⟨w.heap.size, 1, none⟩) (by (try simp); try omega)]; simp [go_sem]
  have x2_1 : w1.cell? ⟨w.heap.size + 1, 0, none⟩ = some (.slice sa0 s.cells.length sc0) := by rw [hb1.cell (p := ⟨w.heap.size + 1, 0, none⟩) (by (try simp); try omega)]; simp [go_sem]
  have x3_1 : w1.cell? ⟨w.heap.size + 1, 1, none⟩ = some (.slice sa1 s.tasks.length sc1) := by rw [hb1.cell (p := ⟨w.heap.size + 1, 1, none⟩) (by (try simp); try omega)]; simp [go_sem]
  have x4_1 : w1.cell? ⟨w.heap.size + 1, 2, none⟩ = some (.int .i64 s.clock) := by rw [hb1.cell (p := ⟨w.heap.size + 1, 2, none⟩) (by (try simp); try omega)]; simp [go_sem]
  have x5_1 : w1.cell? ⟨w.heap.size + 1, 3, none⟩ = some (.slice sa3 s.log.length sc3) := by rw [hb1.cell (p := ⟨w.heap.size + 1, 3, none⟩) (by (try simp); try omega)]; simp [go_sem]
  have z0_1 : w.heap.size < w1.heap.size := by have := hb1.size; (try simp at this); omega
  have z1_1 : w.heap.size + 1 < w1.heap.size := by have := hb1.size; (try simp at this); omega
  clear hb1
  go_wp2_with fail
  refine (sysReady_any p _ _ _ _ s _ _ _ _ _ _ _ (by exact PrAt.mono HP.out HB1.out) (by exact SyAt.mono HS.out HB1.out) hsm hsp).mono ?_
  rintro e w2 ⟨rv, rfl, ho2, hb2⟩
  obtain ⟨ra, rc, rfl, _⟩ := own_shape ho2
  have HB2 : Hid (Below w.heap.size w w2) := below_then HB1.out HB1.out.size hb2
  clear hb2 ho2 x0_1 x1_1 x2_1 x3_1 x4_1 x5_1
  go_wp2_with fail
  go_ret
  exact ⟨by rw [HF.out]; rfl, HB2.out⟩

set_option maxHeartbeats 4000000 in
theorem sSysOver_any (p : Pr) (pa0 pa1 : Option Addr) (pc0 pc1 : Nat) (s : Sy) (sa0 sa1 sa3 : Option Addr) (sc0 sc1 sc3 : Nat) (w : World) (hp : PrAt w (.slice pa0 p.cells.length pc0) (.slice pa1 p.bodies.length pc1) p) (hS : SyAt w (.slice sa0 s.cells.length sc0) (.slice sa1 s.tasks.length sc1) (.slice sa3 s.log.length sc3) s) (hsm : SmSy s) (hsp : SmallP p) :
    Calls Tryz.prog 21 #[.agg #[.slice pa0 p.cells.length pc0, .slice pa1 p.bodies.length pc1], .agg #[.slice sa0 s.cells.length sc0, .slice sa1 s.tasks.length sc1, .int .i64 s.clock, .slice sa3 s.log.length sc3]] w fun r w' => r = .returned (.bool (overB p s)) ∧ Below w.heap.size w w' := by
  have HP := (show Hid (PrAt _ _ _ _) from hp)
  have HS := (show Hid (SyAt _ _ _ _ _) from hS)
  clear hp hS
  cases o1 : mSoB p s
  · have HF : Hid (overB p s = false) := by unfold Hid overB; rw [o1]; rfl
    have O1 := (show Hid (_ = _) from o1)
    clear o1
    go_enter Tryz.func21, Tryz.ntmps21
    go_wp2_with fail
    refine (sSysOk_any p _ _ _ _ s _ _ _ _ _ _ _ (by exact PrAt.mono HP.out (by repeat (first | with_reducible exact Below.refl _ _ | (with_reducible refine Below.setCell ?_ ?hs _; case hs => ((try simp); try omega)) | (with_reducible refine Below.alloc ?_ ?hs _; case hs => ((try simp); try omega)) | with_reducible refine Below.drew ?_ | with_reducible refine below_drewN ?_ _))) (by exact SyAt.mono HS.out (by repeat (first | with_reducible exact Below.refl _ _ | (with_reducible refine Below.setCell ?_ ?hs _; case hs => ((try simp); try omega)) | (with_reducible refine Below.alloc ?_ ?hs _; case hs => ((try simp); try omega)) | with_reducible refine Below.drew ?_ | with_reducible refine below_drewN ?_ _))) hsm hsp).mono ?_
    rw [O1.out]
    rintro e w1 ⟨rfl, hb1⟩
    have HB1 : Hid (Below w.heap.size w w1) := below_then (by repeat (first | with_reducible exact Below.refl _ _ | (with_reducible refine Below.setCell ?_ ?hs _; case hs => ((try simp); try omega)) | (with_reducible refine Below.alloc ?_ ?hs _; case hs => ((try simp); try omega)) | with_reducible refine Below.drew ?_ | with_reducible refine below_drewN ?_ _)) (by (try simp); try omega) hb1
    clear hb1
    go_wp2_with fail
    go_ret
    exact ⟨by rw [HF.out]; rfl, HB1.out⟩
  have HF : Hid (overB p s = (((readyL p s).length : Int) == 0)) := by
    unfold Hid overB; rw [o1, Bool.true_and, Bool.eq_iff_iff]; simp
  have O1 := (show Hid (_ = _) from o1)
  clear o1
  go_enter Tryz.func21, Tryz.ntmps21
  go_wp2_with fail
  refine (sSysOk_any p _ _ _ _ s _ _ _ _ _ _ _ (by exact PrAt.mono HP.out (by repeat (first | with_reducible exact Below.refl _ _ | (with_reducible refine Below.setCell ?_ ?hs _; case hs => ((try simp); try omega)) | (with_reducible refine Below.alloc ?_ ?hs _; case hs => ((try simp); try omega)) | with_reducible refine Below.drew ?_ | with_reducible refine below_drewN ?_ _))) (by exact SyAt.mono HS.out (by repeat (first | with_reducible exact Below.refl _ _ | (with_reducible refine Below.setCell ?_ ?hs _; case hs => ((try simp); try omega)) | (with_reducible refine Below.alloc ?_ ?hs _; case hs => ((try simp); try omega)) | with_reducible refine Below.drew ?_ | with_reducible refine below_drewN ?_ _))) hsm hsp).mono ?_
  rw [O1.out]
  rintro e w1 ⟨rfl, hb1⟩
  have HB1 : Hid (Below w.heap.size w w1) := below_then (by repeat (first | with_reducible exact Below.refl _ _ | (with_reducible refine Below.setCell ?_ ?hs _; case hs => ((try simp); try omega)) | (with_reducible refine Below.alloc ?_ ?hs _; case hs => ((try simp); try omega)) | with_reducible refine Below.drew ?_ | with_reducible refine below_drewN ?_ _)) (by (try simp); try omega) hb1
  have x0_1 : w1.cell? ⟨w.heap.size, 0, none⟩ = some (.slice pa0 p.cells.length pc0) := by rw [hb1.cell (p := ⟨w.heap.size, 0, none⟩) (by (try simp); try omega)]; simp [go_sem]
  have x1_1 : w1.cell? ⟨w.heap.size, 1, none⟩ = some (.slice pa1 p.bodies.length pc1) := by rw [hb1.cell (p := ⟨w.heap.size, 1, none⟩) (by (try simp); try omega)]; simp [go_sem]
  have x2_1 : w1.cell? ⟨w.heap.size + 1, 0, none⟩ = some (.slice sa0 s.cells.length sc0) := by rw [hb1.cell (p := ⟨w.heap.size + 1, 0, none⟩) (by (try simp); try omega)]; simp [go_sem]
  have x3_1 : w1.cell? ⟨w.heap.size + 1, 1, none⟩ = some (.slice sa1 s.tasks.length sc1) := by rw [hb1.cell (p := ⟨w.heap.size + 1, 1, none⟩) (by (try simp); try omega)]; simp [go_sem]
  have x4_1 : w1.cell? ⟨w.heap.size + 1, 2, none⟩ = some (.int .i64 s.clock) := by rw [hb1.cell (p := ⟨w.heap.size + 1, 2, none⟩) (by (try simp); try omega)]; simp [go_sem]
  have x5_1 : w1.cell? ⟨w.heap.size + 1, 3, none⟩ = some (.slice sa3 s.log.length sc3) := by rw [hb1.cell (p := ⟨w.heap.size + 1, 3, none⟩) (by (try simp); try omega)]; simp [go_sem]
  have z0_1 : w.heap.size < w1.heap.size := by have := hb1.size; (try simp at this); omega
  have z1_1 : w.heap.size + 1 < w1.heap.size := by have := hb1.size; (try simp at this); omega
  clear hb1
  go_wp2_with fail
  refine (sSysReady_any p _ _ _ _ s _ _ _ _ _ _ _ (by exact PrAt.mono HP.out HB1.out) (by exact SyAt.mono HS.out HB1.out) hsm hsp).mono ?_
  rintro e w2 ⟨rv, rfl, ho2, hb2⟩
  obtain ⟨ra, rc, rfl, _⟩ := own_shape ho2
  have HB2 : Hid (Below w.heap.size w w2) := below_then HB1.out HB1.out.size hb2
  clear hb2 ho2 x0_1 x1_1 x2_1 x3_1 x4_1 x5_1
  go_wp2_with fail
  go_ret
  exact ⟨by rw [HF.out]; rfl, HB2.out⟩

end Go.Proofs.YtdgihncobihbgaaGreat
