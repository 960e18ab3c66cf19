import Derived.Test.YtgbgjljflgbcaaaSo37
import Derived.Test.YtgbgjljflgbcaaaSo38
import Derived.Test.YtgbgjljflgbcaaaSo06
import Derived.Laws.EntriesVeiled
import Derived.Deep.RegionWith
import Derived.Test.YtgbgjljflgbcaaaSo01
namespace Go.Proofs.Ytgbgjljflgbcaaa
open Go.RowKit
set_option linter.unusedSimpArgs false
set_option linter.unusedVariables false
set_option maxRecDepth 20000

set_option maxHeartbeats 8000000
set_option maxRecDepth 20000
theorem SyAt.shapes {w : World} {cv tv lv : Value} {s : Sy} (h : SyAt w cv tv lv s) : ∃ a1 c1 a2 c2 a3 c3, cv = .slice a1 s.cells.length c1 /\ tv = .slice a2 s.tasks.length c2 /\ lv = .slice a3 s.log.length c3 := by
 obtain ⟨a1, c1, e1, _⟩ := ces_src h.1
 obtain ⟨a2, c2, e2, _⟩ := h.2.1.cap
 obtain ⟨a3, c3, e3, _⟩ := h.2.2.cap
 exact ⟨a1, c1, a2, c2, a3, c3, e1, e2, e3⟩
theorem sysRun_no (p : Pr) (s : Sy) (ts : List Int) (tsa : Option Addr) (tsc : Nat) (pc pb cv tv lv : Value) (w : World) (hP : PrAt w pc pb p) (h : SyAt w cv tv lv s) (hsm : SmSy s) (hsp : SmallP p) (hno : mSoB p s = false \/ 300 < ts.length) :
   Calls Try.prog 51 #[.agg #[pc, pb], .agg #[cv, tv, .int .i64 s.clock, lv], .slice tsa ts.length tsc] w fun r w' => r = .returned (.tuple #[.agg #[.slice none 0 0, .slice none 0 0, .int .i64 0, .slice none 0 0], .bool false]) /\ Below w.heap.size w w' := by
 obtain ⟨pa, pca, rfl, _⟩ := hP.1.shape
 obtain ⟨pba, pbc, rfl, _⟩ := hP.2.shape
 obtain ⟨aa, ca, ta, tc, la, lc, rfl, rfl, rfl⟩ := h.shapes
 have HP := (show Hid (PrAt _ _ _ _) from hP)
 have HS := (show Hid (SyAt _ _ _ _ _) from h)
 have HX := (show Hid (SmSy _) from hsm)
 have HSP := (show Hid (SmallP _) from hsp)
 clear hP h hsm hsp
 have HY : Hid (∃ V, V = (((w.alloc (.cells #[.slice pa p.cells.length pca, .slice pba p.bodies.length pbc] 26)).alloc (.cells #[.slice aa s.cells.length ca, .slice ta s.tasks.length tc, .int .i64 s.clock, .slice la s.log.length lc] 32)).alloc (.cells #[.slice none 0 0, .slice none 0 0, .int .i64 0, .slice none 0 0] 32)) /\ PBox V w.heap.size (.slice pa p.cells.length pca) (.slice pba p.bodies.length pbc) /\ V.heap[w.heap.size + 1]? = some (.cells #[.slice aa s.cells.length ca, .slice ta s.tasks.length tc, .int .i64 s.clock, .slice la s.log.length lc] 32 (0, 0)) /\ V.heap[w.heap.size + 2]? = some (.cells #[.slice none 0 0, .slice none 0 0, .int .i64 0, .slice none 0 0] 32 (0, 0)) /\ V.heap.size = w.heap.size + 3 /\ Below w.heap.size w V) := by
   refine ⟨_, rfl, PBox.alloc (PBox.alloc (heap_alloc_new w _) _) _, ?_, ?_, by simp, (((Below.refl _ _).alloc (Nat.le_refl _) _).alloc (by simp) _).alloc (by simp; omega) _⟩
   . rw [Below.heap_alloc _ _ _ (by simp)]
     simpa using heap_alloc_new (w.alloc (.cells #[.slice pa p.cells.length pca, .slice pba p.bodies.length pbc] 26)) (.cells #[.slice aa s.cells.length ca, .slice ta s.tasks.length tc, .int .i64 s.clock, .slice la s.log.length lc] 32)
   . simpa using heap_alloc_new ((w.alloc (.cells #[.slice pa p.cells.length pca, .slice pba p.bodies.length pbc] 26)).alloc (.cells #[.slice aa s.cells.length ca, .slice ta s.tasks.length tc, .int .i64 s.clock, .slice la s.log.length lc] 32)) (.cells #[.slice none 0 0, .slice none 0 0, .int .i64 0, .slice none 0 0] 32)
 go_enter Try.func51, Try.ntmps51
 go_wp2_with fail
 obtain ⟨V, hV, hVP, hVY, hVZ, hVs, hVb⟩ := HY.out
 rw [<- hV]
 clear hV HY
 have hVg : w.heap.size + 2 < V.heap.size := by omega
 clear hVs
 revert hVP hVY hVZ hVg
 generalize hYe : w.heap.size + 1 = Y
 generalize hZe : Y + 1 = Z
 have e2 : w.heap.size + 2 = Z := by omega
 rw [e2]
 have hwY : w.heap.size < Y := by omega
 have hYZ : Y < Z := by omega
 clear e2 hYe hZe
 intro hVP hVY hVZ hVg
 have HVP := (show Hid (PBox _ _ _ _) from hVP)
 have HVY := (show Hid (_ = _) from hVY)
 have HVZ := (show Hid (_ = _) from hVZ)
 have HVB := (show Hid (Below _ _ _) from hVb)
 have hsw := hVb.size
 clear hVP hVY hVZ hVb
 refine (sSysOk_any p pa pba pca pbc s aa ta la ca tc lc V (HP.out.mono HVB.out) (HS.out.mono HVB.out) HX.out HSP.out).mono ?_
 rintro e w1 ⟨rfl, hb1⟩
 have hs1 := hb1.size
 have HVZ1 : Hid (w1.heap[Z]? = _) := (hb1.block Z (by omega)).trans HVZ.out
 have HBw1 : Hid (Below w.heap.size w w1) := HVB.out.trans (hb1.mono hsw)
 clear hb1 HVY HVZ HVB
 cases hm : mSoB p s
 . clear hm hno
   obtain ⟨⟨z0, z1, z2, z3⟩, ⟨f0, f1, f2, f3⟩, hZl⟩ := box4c HVZ1.out
   go_wp2_with fail
   (try simp only [Exit.inBlock, Exit.then])
   obtain ⟨⟨r0, r1, r2, r3⟩, _, _⟩ := box4c (box4 (b0 := .slice none 0 0) (b1 := .slice none 0 0) (b2 := .int .i64 0) (b3 := .slice none 0 0) HVZ1.out).1
   refine bodyPost_ret (v := .tuple #[.agg #[.slice none 0 0, .slice none 0 0, .int .i64 0, .slice none 0 0], .bool false]) ?_ rfl ⟨rfl, (((HBw1.out.setCell (by simp; omega) _).setCell (by simp; omega) _).setCell (by simp; omega) _).setCell (by simp; omega) _⟩
   rw [results_cell_tmp rfl]
   go_simp
 . have hn : (300 : Int) < (ts.length : Int) := by
     rcases hno with h | h
     . rw [h] at hm; cases hm
     . omega
   clear hm hno
   obtain ⟨⟨z0, z1, z2, z3⟩, ⟨f0, f1, f2, f3⟩, hZl⟩ := box4c HVZ1.out
   go_wp2_with fail
   (try simp only [Exit.inBlock, Exit.then])
   obtain ⟨⟨r0, r1, r2, r3⟩, _, _⟩ := box4c (box4 (b0 := .slice none 0 0) (b1 := .slice none 0 0) (b2 := .int .i64 0) (b3 := .slice none 0 0) HVZ1.out).1
   refine bodyPost_ret (v := .tuple #[.agg #[.slice none 0 0, .slice none 0 0, .int .i64 0, .slice none 0 0], .bool false]) ?_ rfl ⟨rfl, (((HBw1.out.setCell (by simp; omega) _).setCell (by simp; omega) _).setCell (by simp; omega) _).setCell (by simp; omega) _⟩
   rw [results_cell_tmp rfl]
   go_simp

set_option maxRecDepth 20000
def lvB (t : Ta) : Bool := decide (t.way = 0) || decide (t.way = 1)
def plW (f : Nat -> Bool) (k : Nat) : List Int := ((List.range k).filter f).map fun i : Nat => (i : Int)
theorem plW_succ (f : Nat -> Bool) (k : Nat) : plW f (k + 1) = plW f k ++ if f k then [(k : Int)] else [] := by
 unfold plW
 rw [List.range_succ, List.filter_append, List.map_append]
 cases h : f k <;> simp [h]
theorem plW_len (f : Nat -> Bool) (k : Nat) : (plW f k).length <= k := by
 unfold plW
 have := List.length_filter_le f (List.range k)
 simpa using this
theorem lv_any (t : Ta) (a3 a8 a9 a10 : Option Addr) (c3 c8 c9 c10 : Nat) (w : World) :
   Calls Try.prog 46 #[.agg #[.int .i64 t.body, .int .i64 t.pc, .int .i64 t.up, .slice a3 t.regs.length c3, .int .i64 t.way, .int .i64 t.stage, .int .i64 t.at_, .int .i64 t.since, .slice a8 t.old.length c8, .slice a9 t.reads.length c9, .slice a10 t.puts.length c10, .int .i64 t.when_, .int .i64 t.from_]] w fun r w' => r = .returned (.bool (lvB t)) /\ Below w.heap.size w w' := by
 by_cases h1 : t.way = 0
 . have HF : Hid (lvB t = true) := by simp [Hid, lvB, h1]
   have h1' : (t.way == 0) = true := by simp [h1]
   go_enter Try.func46, Try.ntmps46
   go_wp2_with fail
   go_ret
   exact ⟨by rw [HF.out]; rfl, bq0⟩
 . have HF : Hid (lvB t = decide (t.way = 1)) := by simp [Hid, lvB, h1]
   have h1' : (t.way == 0) = false := by simp [h1]
   go_enter Try.func46, Try.ntmps46
   go_wp2_with fail
   go_ret
   exact ⟨by rw [HF.out]; rfl, bq0⟩

set_option maxRecDepth 20000
def hdB (c : Ce) : Bool := decide (0 <= c.lock)
def hdL (s : Sy) : List Int := plW (fun i => hdB (nth Ce.z s.cells i)) s.cells.length
theorem sSysHeld_any (s : Sy) (ac at' al : Option Addr) (cc ct cl : Nat) (w : World) (h : CesAt w (.slice ac s.cells.length cc) s.cells) (hn : s.cells.length <= 1048576) :
   Calls Try.prog 50 #[.agg #[.slice ac s.cells.length cc, .slice at' s.tasks.length ct, .int .i64 s.clock, .slice al s.log.length cl]] w fun r w' => ∃ v, r = .returned v /\ OwnInt w.heap.size w' v (hdL s) /\ Below w.heap.size w w' := by
 obtain ⟨i0, hi, hz0, hz1, hz2⟩ := info_parts Try.info_int
 obtain ⟨a, cap, e0, hm, hc⟩ := h
 injection e0 with e1 e2 e3
 subst e1 e3
 clear e2
 go_enter Try.func50, Try.ntmps50
 go_wp2_with fail
 go_loopw [3, 4] (fun o q w' => ∃ (k : Nat) (xs : List Int), k <= s.cells.length /\ q = .int .i64 k /\ xs = plW (fun i => hdB (nth Ce.z s.cells i)) k /\ OwnInt (w.heap.size + 1) w' o xs /\ Below (w.heap.size + 1) (w.alloc (.cells #[.slice ac s.cells.length cc, .slice at' s.tasks.length ct, .int .i64 s.clock, .slice al s.log.length cl] 32)) w') (fun _ q _ => s.cells.length - (intOf q).toNat)
 case atStart => exact ⟨0, [], Nat.zero_le _, rfl, rfl, own_made0 _ _ _ _ (by simp) (by simp), (Below.refl _ _).alloc (by simp) _⟩
 case round =>
   obtain ⟨k, xs, hk, rfl, hxs, hown, hb⟩ := hrel
   have hkl : xs.length <= k := by rw [hxs]; exact plW_len _ _
   have HX := (show Hid (xs = _) from hxs)
   clear hxs
   have hbw : Below w.heap.size w wr := ((Below.refl _ _).alloc (Nat.le_refl _) _).trans (hb.mono (by omega))
   have hsz : w.heap.size + 1 <= wr.heap.size := by have := hb.size; simpa using this
   have hsz' : w.heap.size < wr.heap.size := by omega
   have e0 : wr.cell? ⟨w.heap.size, 0, none⟩ = some (.slice ac s.cells.length cc) := by rw [hb.cell (p := ⟨w.heap.size, 0, none⟩) (by simp)]; simp
   have HOW := (show Hid (OwnInt _ _ _ _) from hown)
   have HB := (show Hid (Below _ _ _) from hb)
   clear hown hb
   by_cases hlt : k < s.cells.length
   . have hlt' : (k : Int) < (s.cells.length : Int) := by omega
     obtain ⟨b, off, rfl, hbw', c0, c1, c2⟩ := hc k hlt
     rw [<- hbw.cell (p := ⟨b, _, none⟩) hbw'] at c0 c1 c2
     clear hc hbw
     by_cases q1 : 0 <= (nth Ce.z s.cells k).lock
     case pos =>
       have HT : Hid (plW (fun i => hdB (nth Ce.z s.cells i)) (k + 1) = plW (fun i => hdB (nth Ce.z s.cells i)) k ++ [(k : Int)]) := by unfold Hid; rw [plW_succ]; simp [hdB, q1]
       go_wp2_with (at_builtin; refine wpList_append_own _ rfl _ _ 23 rfl (w.heap.size + 1) 3 i0 (.int .i64 0) 1 8 Try.underlying23 hi hz0 hz1 hz2 rfl (by decide) _ _ _ rfl (own_below HOW.out bq0 (Nat.le_refl _)) ⟨wr.heap.size, 0, none⟩ 1 1 [.int .i64 (k : Int)] rfl rfl (fun j u hj => by match j, hj with | 0, hj => simp at hj; subst hj; simp [Addr.add]) (fun u hu => by simp at hu; subst hu; rfl) ?a3 ?a4 ?a5 ?_)
       case a3 => unfold maxLen; omega
       case a4 => omega
       case a5 => (try simp); omega
       intro v' w4 hown' hgrow _
       have HO4 : Hid (OwnInt (w.heap.size + 1) w4 v' (xs ++ [(k : Int)])) := OwnInt.snoc hown'
       have hge : ∀ g, u3.ownBlock = some g -> w.heap.size + 1 <= g := fun g hg => (HOW.out.lt g hg).1
       have HB4 : Hid (Below (w.heap.size + 1) (w.alloc _) w4) := Below.grown (bqx HB.out) hgrow (by simp; omega) hge
       clear hown' hgrow HOW HB hge c0 c1 c2 e0
       go_wp2_with fail
       go_roundw
       case rel => exact ⟨k + 1, _, by omega, by go_num, by rw [HT.out, HX.out], HO4.out, HB4.out⟩
       case measure => simp [intOf]; omega
     case neg =>
       have HT : Hid (plW (fun i => hdB (nth Ce.z s.cells i)) (k + 1) = plW (fun i => hdB (nth Ce.z s.cells i)) k) := by unfold Hid; rw [plW_succ]; simp [hdB, q1]
       go_wp2_with fail
       go_roundw
       case rel => exact ⟨k + 1, xs, by omega, by go_num, by rw [HT.out, HX.out], own_below HOW.out bq0 (Nat.le_refl _), (bqx HB.out)⟩
       case measure => simp [intOf]; omega
   . have hk' : ¬ (k : Int) < (s.cells.length : Int) := by omega
     have HR : Hid (OwnInt (w.heap.size + 1) wr u3 (hdL s)) := by
       have := HOW.out; rw [HX.out, show k = s.cells.length by omega] at this; exact this
     have HW := (show Hid (Below _ _ _) from hbw)
     clear hc HOW hbw HB
     go_wp2_with fail
     go_ret
     exact ⟨_, rfl, own_base HR.out (by omega), HW.out⟩
end Go.Proofs.Ytgbgjljflgbcaaa
