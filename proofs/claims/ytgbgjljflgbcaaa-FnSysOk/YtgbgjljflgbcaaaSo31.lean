import Derived.Test.YtgbgjljflgbcaaaSo06
import Derived.Test.YtgbgjljflgbcaaaSo01
import Derived.Test.YtgbgjljflgbcaaaSo27
import Derived.Test.YtgbgjljflgbcaaaSo30
import Derived.Laws.ResultCell
import Derived.Test.YtgbgjljflgbcaaaSo25
import Derived.Test.YtgbgjljflgbcaaaSo26
namespace Go.Proofs.Ytgbgjljflgbcaaa
set_option maxHeartbeats 8000000
open Go.RowKit
set_option linter.unusedSimpArgs false
set_option linter.unusedVariables false
set_option maxRecDepth 20000
theorem sReady_any (X : Nat) (s : Sy) (sa1 : Option Addr) (sc1 i : Nat) (w : World) (hX1 : w.cell? ⟨X, 3, none⟩ = some (.slice sa1 s.tasks.length sc1)) (hX2 : w.cell? ⟨X, 4, none⟩ = some (.int .i64 s.clock)) (hXl : X < w.heap.size) (hT : TasAt w (.slice sa1 s.tasks.length sc1) s.tasks) (hi : i < s.tasks.length) (hn7 : s.tasks.length <= 7) :
   Calls Try.prog 132 #[.pointer (some ⟨X, 0, none⟩), .int .i64 (i : Int)] w fun r w' => r = .returned (.bool (rdyB s i)) /\ Below w.heap.size w w' := by
 have HT := (show Hid (TasAt _ _ _) from hT)
 obtain ⟨a, cap, e, hm, hc⟩ := hT
 injection e with e1 e2 e3
 subst e1 e3
 have hi' : (i : Int) < (s.tasks.length : Int) := by omega
 obtain ⟨b, off, v3, v8, v9, v10, rfl, hbw, c0, c1, c2, c3, c4, c5, c6, c7, c8, c9, c10, c11, c12, h3, h8, h9, h10⟩ := hc i hi
 obtain ⟨a3, e3', rfl, hm3⟩ := h3.shape
 obtain ⟨a8, e8', rfl, hm8⟩ := h8.shape
 obtain ⟨a9, e9', rfl, hm9⟩ := h9.shape
 obtain ⟨a10, e10', rfl, hm10⟩ := h10.shape
 clear hc h3 h8 h9 h10 e2
 by_cases q0 : 200 <= s.clock
 . have HF : Hid (rdyB s i = false) := by unfold Hid rdyB; rw [if_pos q0]
   go_enter Try.func132, Try.ntmps132
   go_wp2_with fail
   (try go_quiet (fail))
   (try go_wp2_with fail)
   go_ret
   exact ⟨by rw [HF.out]; rfl, bq0⟩
 by_cases q1 : (nth Ta.z s.tasks i).way = 0
 . have q1' : ((nth Ta.z s.tasks i).way == 0) = true := by simp [q1]
   by_cases q2 : (nth Ta.z s.tasks i).stage = 0
   . have q2' : ((nth Ta.z s.tasks i).stage != 0) = false := by simp [q2]
     have q2'' : ((nth Ta.z s.tasks i).stage == 0) = true := by simp [q2]
     have HF : Hid (rdyB s i = decide ((nth Ta.z s.tasks i).when_ <= s.clock)) := by unfold Hid rdyB; rw [if_neg q0, if_pos q1, decide_eq_true q2]; rfl
     clear q1
     go_enter Try.func132, Try.ntmps132
     go_wp2_with fail
     (try go_quiet (fail))
     (try go_wp2_with fail)
     go_ret
     exact ⟨by rw [HF.out]; rfl, bq0⟩
   . have q2' : ((nth Ta.z s.tasks i).stage != 0) = true := by simp [q2]
     have q2'' : ((nth Ta.z s.tasks i).stage == 0) = false := by simp [q2]
     have HF : Hid (rdyB s i = true) := by unfold Hid rdyB; rw [if_neg q0, if_pos q1, decide_eq_false q2]; rfl
     clear q1
     go_enter Try.func132, Try.ntmps132
     go_wp2_with fail
     (try go_quiet (fail))
     (try go_wp2_with fail)
     go_ret
     exact ⟨by rw [HF.out]; rfl, bq0⟩
 have q1' : ((nth Ta.z s.tasks i).way == 0) = false := by simp [q1]
 by_cases q2 : (nth Ta.z s.tasks i).way = 1
 case neg =>
   have q2' : ((nth Ta.z s.tasks i).way == 1) = false := by simp [q2]
   have HF : Hid (rdyB s i = false) := by unfold Hid rdyB; rw [if_neg q0, if_neg q1, if_neg q2]
   go_enter Try.func132, Try.ntmps132
   go_wp2_with fail
   (try go_quiet (fail))
   (try go_wp2_with fail)
   go_ret
   exact ⟨by rw [HF.out]; rfl, bq0⟩
 have q2' : ((nth Ta.z s.tasks i).way == 1) = true := by simp [q2]
 have HFF : Hid (rdyB s i = (decide (0 < kin s.tasks i 3) || (decide (kin s.tasks i 0 = 0) && decide (kin s.tasks i 1 = 0)))) := by unfold Hid rdyB; rw [if_neg q0, if_neg q1, if_pos q2]
 have HQ := (show Hid (_ = _) from q2)
 have K0 := kin_le s.tasks i 0
 have K1 := kin_le s.tasks i 1
 have W1 : IntKind.i64.wrap ((kin s.tasks i 0 : Int) + (kin s.tasks i 1 : Int)) = (kin s.tasks i 0 : Int) + (kin s.tasks i 1 : Int) := by rw [IntKind.wrap_i64]; omega
 clear q2
 have hX1' : ∀ w' : World, Below w.heap.size w w' -> w'.cell? ⟨X, 3, none⟩ = some (.slice (some ⟨b, off, none⟩) s.tasks.length sc1) := fun w' hb => by rw [hb.cell (p := ⟨X, 3, none⟩) hXl]; exact hX1
 have HX := (show Hid (∀ w' : World, _) from hX1')
 clear hX1'
 by_cases d3 : 0 < kin s.tasks i 3
 . have d3' : (0 : Int) < (kin s.tasks i 3 : Int) := by omega
   have HF : Hid (rdyB s i = true) := by unfold Hid; rw [HFF.out, decide_eq_true d3]; rfl
   clear HFF d3 K0 K1
   go_enter Try.func132, Try.ntmps132
   go_wp2_with fail
   refine (kids_any X s.tasks (some ⟨b, off, none⟩) sc1 _ _ _ (HX.out _ bq0) (by exact TasAt.mono HT.out bq0)).mono ?_
   rintro e w3 ⟨rfl, hw3⟩
   have hw3 := hw3.symm
   subst hw3
   (try go_quiet (fail))
   (try go_wp2_with fail)
   go_ret
   exact ⟨by rw [HF.out]; rfl, bq0⟩
 . have d3' : ¬ (0 : Int) < (kin s.tasks i 3 : Int) := by omega
   have HF : Hid (rdyB s i = ((kin s.tasks i 0 : Int) + (kin s.tasks i 1 : Int) == 0)) := by
     unfold Hid; rw [HFF.out, decide_eq_false d3, Bool.false_or, <- Bool.decide_and, Bool.eq_iff_iff]; simp; omega
   clear HFF d3 K0 K1
   go_enter Try.func132, Try.ntmps132
   go_wp2_with fail
   refine (kids_any X s.tasks (some ⟨b, off, none⟩) sc1 _ _ _ (HX.out _ bq0) (by exact TasAt.mono HT.out bq0)).mono ?_
   rintro e w3 ⟨rfl, hw3⟩
   have hw3 := hw3.symm
   subst hw3
   go_wp2_with fail
   refine (kids_any X s.tasks (some ⟨b, off, none⟩) sc1 _ _ _ (HX.out _ bq0) (by exact TasAt.mono HT.out bq0)).mono ?_
   rintro e w3 ⟨rfl, hw3⟩
   have hw3 := hw3.symm
   subst hw3
   go_wp2_with fail
   refine (kids_any X s.tasks (some ⟨b, off, none⟩) sc1 _ _ _ (HX.out _ bq0) (by exact TasAt.mono HT.out bq0)).mono ?_
   rintro e w3 ⟨rfl, hw3⟩
   have hw3 := hw3.symm
   subst hw3
   go_wp2_with fail
   (try go_quiet (fail))
   (try go_wp2_with fail)
   go_ret
   exact ⟨by rw [HF.out]; rfl, bq0⟩

set_option maxRecDepth 20000
def OwnS (B : Nat) (w : World) (cv tv lv : Value) (s : Sy) : Prop := ∃ f T L, OwnSy f B w cv tv lv s.cells T L /\ T.map (·.1) = s.tasks /\ L.map (·.1) = s.log
theorem OwnS.on {B : Nat} {w : World} {cv tv lv : Value} {s : Sy} (h : OwnS B w cv tv lv s) : SyOn (fun b => B <= b) w cv tv lv s := by
 obtain ⟨f, T, L, h, hT, hL⟩ := h
 exact h.on hT hL
theorem OwnS.ext {B : Nat} {w w' : World} {cv tv lv : Value} {s : Sy} (h : OwnS B w cv tv lv s) (hk : ∀ g, B <= g -> g < w.heap.size -> w'.heap[g]? = w.heap[g]?) : OwnS B w' cv tv lv s := by
 obtain ⟨f, T, L, h, hT, hL⟩ := h
 exact ⟨f, T, L, h.ext (fun _ _ _ => rfl) hk, hT, hL⟩
theorem OwnS.below {B C : Nat} {w w' : World} {cv tv lv : Value} {s : Sy} (h : OwnS B w cv tv lv s) (hb : Below C w w') (hC : w.heap.size <= C) : OwnS B w' cv tv lv s :=
 h.ext fun g _ hg => hb.block g (by omega)
theorem OwnS.base {B B' : Nat} {w : World} {cv tv lv : Value} {s : Sy} (h : OwnS B w cv tv lv s) (hB : B' <= B) : OwnS B' w cv tv lv s := by
 obtain ⟨f, T, L, h, hT, hL⟩ := h
 exact ⟨f, T, L, h.base hB, hT, hL⟩
theorem OwnS.setX {B : Nat} {w : World} {cv tv lv : Value} {s : Sy} (h : OwnS B w cv tv lv s) {X o : Nat} (hX : X < B) (v : Value) : OwnS B (w.setCell ⟨X, o, none⟩ v) cv tv lv s :=
 h.ext fun g hg _ => heap_set_ne w _ v g (by simp; omega)
def DoR (S : Nat -> Prop) (p : Pr) (s : Sy) (k : Int) (cv tv lv : Value) (w : World) (r : Ending) (w' : World) : Prop :=
 ∃ cv' tv' lv', r = .returned (.tuple #[.agg #[cv', tv', .int .i64 (doS p s k).clock, lv'], .bool (doB s k)]) /\ SyOn (fun b => S b \/ w.heap.size <= b) w' cv' tv' lv' (doS p s k) /\ (doB s k = false -> cv' = cv /\ tv' = tv /\ lv' = lv) /\ (doB s k = true -> OwnS w.heap.size w' cv' tv' lv' (doS p s k)) /\ Below w.heap.size w w'
theorem doS_no {p : Pr} {s : Sy} {k : Int} (h : doB s k = false) : doS p s k = s := by unfold doS; rw [h]; rfl
theorem doS_yes {p : Pr} {s : Sy} {k : Int} (h : doB s k = true) : doS p s k = stepS p s k.toNat := by unfold doS; rw [h]; rfl
theorem box6c {w : World} {X : Nat} {a0 a1 a2 a3 a4 a5 : Value} {t : TypeId} (h : w.heap[X]? = some (.cells #[a0, a1, a2, a3, a4, a5] t (0, 0))) : (w.cell? ⟨X, 0, none⟩ = some a0 /\ w.cell? ⟨X, 1, none⟩ = some a1 /\ w.cell? ⟨X, 2, none⟩ = some a2 /\ w.cell? ⟨X, 3, none⟩ = some a3 /\ w.cell? ⟨X, 4, none⟩ = some a4 /\ w.cell? ⟨X, 5, none⟩ = some a5) /\ (∀ o, w.frozen? ⟨X, o, none⟩ = false) /\ X < w.heap.size := by
 refine ⟨⟨?_, ?_, ?_, ?_, ?_, ?_⟩, fun o => frozen_of_row w X o _ _ h, bx_lt h⟩ <;> (rw [cell_of_row w X _ _ _ (0, 0) h]; rfl)
theorem box6s {w : World} {X : Nat} {a0 a1 a2 a3 a4 a5 b2 b3 b4 b5 : Value} {t : TypeId} (h : w.heap[X]? = some (.cells #[a0, a1, a2, a3, a4, a5] t (0, 0))) :
  ((((w.setCell ⟨X, 2, none⟩ b2).setCell ⟨X, 3, none⟩ b3).setCell ⟨X, 4, none⟩ b4).setCell ⟨X, 5, none⟩ b5).heap[X]? = some (.cells #[a0, a1, b2, b3, b4, b5] t (0, 0)) := by
 have h0 := heap_setCell_same w X 2 _ _ b2 h
 have h1 := heap_setCell_same _ X 3 _ _ b3 h0
 have h2 := heap_setCell_same _ X 4 _ _ b4 h1
 exact heap_setCell_same _ X 5 _ _ b5 h2
theorem l11Do_any (S : Nat -> Prop) (p : Pr) (s : Sy) (k : Int) (pc pb cv tv lv : Value) (w : World) (hP : PrS (fun b => b < w.heap.size) w pc pb p) (h : SyOn S w cv tv lv s) (hv : Inw p s) (hsm : SmSy s) :
   Calls Try.prog 99 #[.agg #[pc, pb], .agg #[cv, tv, .int .i64 s.clock, lv], .int .i64 k] w (DoR S p s k cv tv lv w) := by
 obtain ⟨pa, pca, rfl, _⟩ := hP.1.shape
 obtain ⟨pba, pbc, rfl, _⟩ := hP.2.shape
 obtain ⟨aa, ca, rfl, _, _, _⟩ := ces_src h.1.at
 obtain ⟨ta, tc, rfl, _, _⟩ := h.2.1.at.cap
 obtain ⟨la, lc, rfl, _, _⟩ := h.2.2.at.cap
 have hn7 : s.tasks.length <= 7 := hv.i.bd.n7
 have hwr : IntKind.i64.wrap ((s.tasks.length : Int) - 1) = (s.tasks.length : Int) - 1 := by rw [IntKind.wrap_i64]; omega
 have HP := (show Hid (PrS _ _ _ _ _) from hP)
 have HS := (show Hid (SyOn _ _ _ _ _ _) from h)
 have HV := (show Hid (Inw _ _) from hv)
 have HSM := (show Hid (SmSy _) from hsm)
 clear hP h hv hsm
 have HY : Hid (∃ V, V = ((((w.alloc (.cells #[.slice pa p.cells.length pca, .slice pba p.bodies.length pbc] 26)).alloc (.cells #[.slice aa s.cells.length ca, .slice ta s.tasks.length tc, .int .i64 s.clock, .slice la s.log.length lc] 32)).alloc (.cells #[.slice none 0 0, .slice none 0 0, .int .i64 0, .slice none 0 0] 32)).alloc (.cells #[.slice pa p.cells.length pca, .slice pba p.bodies.length pbc, .slice aa s.cells.length ca, .slice ta s.tasks.length tc, .int .i64 s.clock, .slice la s.log.length lc] 149)) /\ V.heap[w.heap.size + 1]? = some (.cells #[.slice aa s.cells.length ca, .slice ta s.tasks.length tc, .int .i64 s.clock, .slice la s.log.length lc] 32 (0, 0)) /\ V.heap[w.heap.size + 2]? = some (.cells #[.slice none 0 0, .slice none 0 0, .int .i64 0, .slice none 0 0] 32 (0, 0)) /\ V.heap[w.heap.size + 3]? = some (.cells #[.slice pa p.cells.length pca, .slice pba p.bodies.length pbc, .slice aa s.cells.length ca, .slice ta s.tasks.length tc, .int .i64 s.clock, .slice la s.log.length lc] 149 (0, 0)) /\ V.heap.size = w.heap.size + 4 /\ Below w.heap.size w V) := by
   refine ⟨_, rfl, ?_, ?_, ?_, by simp, (((((Below.refl _ _).alloc (Nat.le_refl _) _).alloc (by simp) _).alloc (by simp; omega) _).alloc (by simp; omega) _)⟩
   . rw [Below.heap_alloc _ _ _ (by simp), Below.heap_alloc _ _ _ (by simp)]
     simpa using heap_alloc_new (w.alloc (.cells #[.slice pa p.cells.length pca, .slice pba p.bodies.length pbc] 26)) (.cells #[.slice aa s.cells.length ca, .slice ta s.tasks.length tc, .int .i64 s.clock, .slice la s.log.length lc] 32)
   . rw [Below.heap_alloc _ _ _ (by simp)]
     simpa using heap_alloc_new ((w.alloc (.cells #[.slice pa p.cells.length pca, .slice pba p.bodies.length pbc] 26)).alloc (.cells #[.slice aa s.cells.length ca, .slice ta s.tasks.length tc, .int .i64 s.clock, .slice la s.log.length lc] 32)) (.cells #[.slice none 0 0, .slice none 0 0, .int .i64 0, .slice none 0 0] 32)
   . simpa using heap_alloc_new (((w.alloc (.cells #[.slice pa p.cells.length pca, .slice pba p.bodies.length pbc] 26)).alloc (.cells #[.slice aa s.cells.length ca, .slice ta s.tasks.length tc, .int .i64 s.clock, .slice la s.log.length lc] 32)).alloc (.cells #[.slice none 0 0, .slice none 0 0, .int .i64 0, .slice none 0 0] 32)) (.cells #[.slice pa p.cells.length pca, .slice pba p.bodies.length pbc, .slice aa s.cells.length ca, .slice ta s.tasks.length tc, .int .i64 s.clock, .slice la s.log.length lc] 149)
 go_enter Try.func99, Try.ntmps99
 go_wp2_with fail
 obtain ⟨V, hV, hVY, hVZ, hVX, hVs, hVb⟩ := HY.out
 rw [<- hV]
 clear hV HY
 have hVg : w.heap.size + 3 < V.heap.size := by omega
 clear hVs
 revert hVY hVZ hVX hVg
 generalize hYe : w.heap.size + 1 = Y
 generalize hZe : Y + 1 = Z
 generalize hXe : Z + 1 = X
 have e2 : w.heap.size + 2 = Z := by omega
 have e3 : w.heap.size + 3 = X := by omega
 rw [e2, e3]
 intro hVY hVZ hVX hVg
 have hwY : w.heap.size < Y := by omega
 have hYZ : Y < Z := by omega
 have hZX : Z < X := by omega
 clear e2 e3 hYe hZe hXe
 have HVY := (show Hid (_ = _) from hVY)
 have HVZ := (show Hid (_ = _) from hVZ)
 have HVX := (show Hid (_ = _) from hVX)
 have HVB := (show Hid (Below _ _ _) from hVb)
 have hsw := hVb.size
 clear hVY hVZ hVX hVb
 have HIN : Hid (inB k 0 ((s.tasks.length : Int) - 1) = plB k s.tasks.length) := in_pl _ _
 refine (l6In_any k 0 _ _).mono ?_
 rw [HIN.out]
 clear HIN
 rintro e w1 ⟨rfl, hw1⟩
 have hw1 := hw1.symm
 subst hw1
 cases hpl : plB k s.tasks.length
 . have HD : Hid (doB s k = false) := by unfold Hid doB; rw [hpl]; rfl
   clear hpl
   obtain ⟨⟨y0, y1, y2, y3⟩, _, hYl⟩ := box4c HVY.out
   obtain ⟨⟨z0, z1, z2, z3⟩, ⟨f0, f1, f2, f3⟩, hZl⟩ := box4c HVZ.out
   go_wp2_with fail
   (try simp only [Exit.inBlock, Exit.then])
   obtain ⟨⟨p0, p1, p2, p3⟩, _, _⟩ := box4c (box4 (b0 := .slice aa s.cells.length ca) (b1 := .slice ta s.tasks.length tc) (b2 := .int .i64 s.clock) (b3 := .slice la s.log.length lc) HVZ.out).1
   have HB : Hid (Below w.heap.size w ((((V.setCell ⟨Z, 0, none⟩ (.slice aa s.cells.length ca)).setCell ⟨Z, 1, none⟩ (.slice ta s.tasks.length tc)).setCell ⟨Z, 2, none⟩ (.int .i64 s.clock)).setCell ⟨Z, 3, none⟩ (.slice la s.log.length lc))) := (((HVB.out.setCell (by simp; omega) _).setCell (by simp; omega) _).setCell (by simp; omega) _).setCell (by simp; omega) _
   refine bodyPost_ret (v := .tuple #[.agg #[.slice aa s.cells.length ca, .slice ta s.tasks.length tc, .int .i64 s.clock, .slice la s.log.length lc], .bool false]) ?_ rfl ⟨_, _, _, by rw [doS_no HD.out, HD.out], by rw [doS_no HD.out]; exact (HS.out.kept (Kept.below HB.out)).wide (fun b hb => .inl hb), fun _ => ⟨rfl, rfl, rfl⟩, fun e => (by rw [HD.out] at e; cases e), HB.out⟩
   rw [results_cell_tmp rfl]
   go_simp
 . obtain ⟨hk0, hk1⟩ := (plB_iff' _ _).1 hpl
   obtain ⟨i, rfl⟩ : ∃ i : Nat, k = (i : Int) := ⟨k.toNat, by omega⟩
   have hi : i < s.tasks.length := by omega
   have HPL := (show Hid (_ = _) from hpl)
   clear hpl hk0 hk1
   obtain ⟨⟨x0, x1, x2, x3, x4, x5⟩, xf, hXl⟩ := box6c HVX.out
   go_wp2_with fail
   refine (sReady_any X s ta tc i V x3 x4 hXl (HS.out.2.1.at.mono HVB.out) hi hn7).mono ?_
   rintro e w2 ⟨rfl, hb2⟩
   have hs2 := hb2.size
   have HVY2 : Hid (w2.heap[Y]? = _) := (hb2.block Y (by omega)).trans HVY.out
   have HVZ2 : Hid (w2.heap[Z]? = _) := (hb2.block Z (by omega)).trans HVZ.out
   have HVX2 : Hid (w2.heap[X]? = _) := (hb2.block X (by omega)).trans HVX.out
   have HB2 : Hid (Below w.heap.size w w2) := HVB.out.trans (hb2.mono hsw)
   clear hb2 x0 x1 x2 x3 x4 x5 xf HVY HVZ HVX HVB
   obtain ⟨⟨y0, y1, y2, y3⟩, _, hYl⟩ := box4c HVY2.out
   cases hr : rdyB s i
   . have HD : Hid (doB s (i : Int) = false) := by unfold Hid doB; rw [HPL.out, Int.toNat_natCast, hr]; rfl
     clear hr
     obtain ⟨⟨z0, z1, z2, z3⟩, ⟨f0, f1, f2, f3⟩, hZl⟩ := box4c HVZ2.out
     go_wp2_with fail
     (try simp only [Exit.inBlock, Exit.then])
     obtain ⟨⟨p0, p1, p2, p3⟩, _, _⟩ := box4c (box4 (b0 := .slice aa s.cells.length ca) (b1 := .slice ta s.tasks.length tc) (b2 := .int .i64 s.clock) (b3 := .slice la s.log.length lc) HVZ2.out).1
     have HB : Hid (Below w.heap.size w ((((w2.setCell ⟨Z, 0, none⟩ (.slice aa s.cells.length ca)).setCell ⟨Z, 1, none⟩ (.slice ta s.tasks.length tc)).setCell ⟨Z, 2, none⟩ (.int .i64 s.clock)).setCell ⟨Z, 3, none⟩ (.slice la s.log.length lc))) := (((HB2.out.setCell (by simp; omega) _).setCell (by simp; omega) _).setCell (by simp; omega) _).setCell (by simp; omega) _
     refine bodyPost_ret (v := .tuple #[.agg #[.slice aa s.cells.length ca, .slice ta s.tasks.length tc, .int .i64 s.clock, .slice la s.log.length lc], .bool false]) ?_ rfl ⟨_, _, _, by rw [doS_no HD.out, HD.out], by rw [doS_no HD.out]; exact (HS.out.kept (Kept.below HB.out)).wide (fun b hb => .inl hb), fun _ => ⟨rfl, rfl, rfl⟩, fun e => (by rw [HD.out] at e; cases e), HB.out⟩
     rw [results_cell_tmp rfl]
     go_simp
   . have HD : Hid (doB s (i : Int) = true) := by unfold Hid doB; rw [HPL.out, Int.toNat_natCast, hr]; rfl
     have HE : Hid (doS p s (i : Int) = stepS p s i) := by have := doS_yes (p := p) HD.out; rw [Int.toNat_natCast] at this; exact this
     have HR := (show Hid (_ = _) from hr)
     clear hr
     go_wp2_with fail
     refine (l11Copy_any s _ _ _ _ (HS.out.at.mono HB2.out) HSM.out).mono ?_
     rintro e w3 ⟨f, cv', tv', lv', T, L, rfl, hO, hT, hL, hb3⟩
     obtain ⟨xa, xc, rfl, _, _⟩ := own_shape hO.c.1
     obtain ⟨ya, yc, rfl, _, _⟩ := own_shape hO.t.1
     obtain ⟨za, zc, rfl, _, _⟩ := own_shape hO.l.1
     have HO := (show Hid (OwnSy _ _ _ _ _ _ _ _ _) from hO)
     have HM := (show Hid (_ /\ _) from ⟨hT, hL⟩)
     have hs3 := hb3.size
     have hX2 : X < w2.heap.size := by omega
     have HVZ3 : Hid (w3.heap[Z]? = _) := (hb3.block Z (by omega)).trans HVZ2.out
     have HVX3 : Hid (w3.heap[X]? = _) := (hb3.block X (by omega)).trans HVX2.out
     have HB3 : Hid (Below w.heap.size w w3) := HB2.out.trans (hb3.mono HB2.out.size)
     clear hb3 y0 y1 y2 y3 hYl HVY2 HVZ2 HVX2 hO hT hL
     obtain ⟨⟨x0, x1, x2, x3, x4, x5⟩, xf, hXl⟩ := box6c HVX3.out
     have xf2 := xf 2
     have xf3 := xf 3
     have xf4 := xf 4
     have xf5 := xf 5
     clear xf
     have HX6 := (show Hid (_ = _) from box6s (b2 := .slice xa s.cells.length xc) (b3 := .slice ya T.length yc) (b4 := .int .i64 s.clock) (b5 := .slice za L.length zc) HVX3.out)
     have HB4 : Hid (Below w.heap.size w ((((w3.setCell ⟨X, 2, none⟩ (.slice xa s.cells.length xc)).setCell ⟨X, 3, none⟩ (.slice ya T.length yc)).setCell ⟨X, 4, none⟩ (.int .i64 s.clock)).setCell ⟨X, 5, none⟩ (.slice za L.length zc))) := (((HB3.out.setCell (by simp; omega) _).setCell (by simp; omega) _).setCell (by simp; omega) _).setCell (by simp; omega) _
     have HO4 : Hid (OwnSy f w2.heap.size ((((w3.setCell ⟨X, 2, none⟩ (.slice xa s.cells.length xc)).setCell ⟨X, 3, none⟩ (.slice ya T.length yc)).setCell ⟨X, 4, none⟩ (.int .i64 s.clock)).setCell ⟨X, 5, none⟩ (.slice za L.length zc)) (.slice xa s.cells.length xc) (.slice ya T.length yc) (.slice za L.length zc) s.cells T L) := (((HO.out.setX hX2 _).setX hX2 _).setX hX2 _).setX hX2 _
     have HVZ4 : Hid (((((w3.setCell ⟨X, 2, none⟩ (.slice xa s.cells.length xc)).setCell ⟨X, 3, none⟩ (.slice ya T.length yc)).setCell ⟨X, 4, none⟩ (.int .i64 s.clock)).setCell ⟨X, 5, none⟩ (.slice za L.length zc)).heap[Z]? = some (.cells #[.slice none 0 0, .slice none 0 0, .int .i64 0, .slice none 0 0] 32 (0, 0))) := by
       unfold Hid
       rw [heap_set_ne _ _ _ Z (by show Z ≠ X; omega), heap_set_ne _ _ _ Z (by show Z ≠ X; omega), heap_set_ne _ _ _ Z (by show Z ≠ X; omega), heap_set_ne _ _ _ Z (by show Z ≠ X; omega)]
       exact HVZ3.out
     have hs4 : w2.heap.size <= ((((w3.setCell ⟨X, 2, none⟩ (.slice xa s.cells.length xc)).setCell ⟨X, 3, none⟩ (.slice ya T.length yc)).setCell ⟨X, 4, none⟩ (.int .i64 s.clock)).setCell ⟨X, 5, none⟩ (.slice za L.length zc)).heap.size := by simpa using hs3
     go_wp2_with fail
     revert HX6 HB4 HO4 HVZ4 hs4
     generalize ((((w3.setCell ⟨X, 2, none⟩ (.slice xa s.cells.length xc)).setCell ⟨X, 3, none⟩ (.slice ya T.length yc)).setCell ⟨X, 4, none⟩ (.int .i64 s.clock)).setCell ⟨X, 5, none⟩ (.slice za L.length zc)) = w4
     intro HX6 HB4 HO4 HVZ4 hs4
     obtain ⟨⟨u0, u1, u2, u3, u4, u5⟩, uf, hul⟩ := box6c HX6.out
     have HSW : Hid (SW X w2.heap.size w4 (.slice pa p.cells.length pca) (.slice pba p.bodies.length pbc) p s) :=
       ⟨⟨f, _, _, _, T, L, HO4.out, HM.out.1, HM.out.2, u2, u3, u5⟩, u0, u1, u4, uf, hX2, hs4, ⟨(HP.out.1.kept (Kept.below HB4.out)).wide (fun b hb => by have : b < w.heap.size := hb; show b < X; omega), (HP.out.2.kept (Kept.below HB4.out)).wide (fun b hb => by have : b < w.heap.size := hb; show b < X; omega)⟩⟩
     clear u0 u1 u2 u3 u4 u5 uf hul x0 x1 x2 x3 x4 x5 xf2 xf3 xf4 xf5 HVX3 HVZ3 HX6
     refine (step_any X w2.heap.size _ _ p s i _ HSW.out hi HV.out HR.out).mono ?_
     rintro e w5 ⟨rfl, hs5, hf5⟩
     obtain ⟨f', cv5, tv5, lv5, T', L', hO5, hT5, hL5, v2, v3, v5⟩ := hs5.ex
     have v4 := hs5.c4
     obtain ⟨xa', xc', rfl, _, _⟩ := own_shape hO5.c.1
     obtain ⟨ya', yc', rfl, _, _⟩ := own_shape hO5.t.1
     obtain ⟨za', zc', rfl, _, _⟩ := own_shape hO5.l.1
     have HO5 := (show Hid (OwnSy _ _ _ _ _ _ _ _ _) from hO5)
     have HM5 := (show Hid (_ /\ _) from ⟨hT5, hL5⟩)
     have hZ2 : Z < w2.heap.size := by omega
     have hb5 : Below w.heap.size w4 w5 := hf5.below (fun b hb => by rcases hb with hb | hb <;> omega) HB4.out.size
     have HB5 : Hid (Below w.heap.size w w5) := HB4.out.trans hb5
     have HVZ5 : Hid (w5.heap[Z]? = _) := (hf5.block Z (by omega) (fun hb => by rcases hb with hb | hb <;> omega)).trans HVZ4.out
     have hX5 : X < w5.heap.size := by have := hs5.lt; have := hs5.le; omega
     clear hs5 hf5 hO5 hT5 hL5 hb5 HVZ4 HB4 HO4
     obtain ⟨⟨z0, z1, z2, z3⟩, ⟨f0, f1, f2, f3⟩, hZl⟩ := box4c HVZ5.out
     go_wp2_with fail
     (try simp only [Exit.inBlock, Exit.then])
     obtain ⟨⟨p0, p1, p2, p3⟩, _, _⟩ := box4c (box4 (b0 := .slice xa' (stepS p s i).cells.length xc') (b1 := .slice ya' T'.length yc') (b2 := .int .i64 (stepS p s i).clock) (b3 := .slice za' L'.length zc') HVZ5.out).1
     refine bodyPost_ret (v := .tuple #[.agg #[.slice xa' (stepS p s i).cells.length xc', .slice ya' T'.length yc', .int .i64 (stepS p s i).clock, .slice za' L'.length zc'], .bool true]) ?_ rfl ⟨_, _, _, by rw [HE.out, HD.out], by rw [HE.out]; exact ((((HO5.out.setX hZ2 _).setX hZ2 _).setX hZ2 _).setX hZ2 _).on HM5.out.1 HM5.out.2 |>.wide (fun b hb => .inr (by have : w2.heap.size <= b := hb; show w.heap.size <= b; omega)), fun e => (by rw [HD.out] at e; cases e), fun _ => (by rw [HE.out]; exact OwnS.base ⟨f', T', L', (((HO5.out.setX hZ2 _).setX hZ2 _).setX hZ2 _).setX hZ2 _, HM5.out.1, HM5.out.2⟩ (by omega)), (((HB5.out.setCell (by simp; omega) _).setCell (by simp; omega) _).setCell (by simp; omega) _).setCell (by simp; omega) _⟩
     rw [results_cell_tmp rfl]
     go_simp

def Le (s : Sy) : Prop := ∀ e, e ∈ s.log -> SmEn e
theorem Le.same {s s' : Sy} (h : Le s) (e : s'.log = s.log) : Le s' := by unfold Le; rw [e]; exact h
theorem Le.more {s s' : Sy} {x : En} (h : Le s) (e : s'.log = s.log ++ [x]) (hx : SmEn x) : Le s' := by
 unfold Le
 rw [e]
 intro y hy
 rcases List.mem_append.1 hy with q | q
 . exact h y q
 . rw [List.mem_singleton.1 q]; exact hx
theorem sm_task {p : Pr} {s : Sy} (h : Np p s) {i : Nat} (hi : i < s.tasks.length) : (tkN s i).reads.length <= 1048576 /\ (tkN s i).puts.length <= 1048576 := by
 have hT := h.t i hi
 have a := puB_len hT.reads
 have b := puB_len hT.puts
 have c := h.cs
 have d := okB_cells h.ok
 omega
theorem Le.end {p : Pr} {s : Sy} (h : Le s) (hn : Np p s) {i : Nat} (hi : i < s.tasks.length) (w : Int) : Le (endS s i w) :=
 h.more (x := endE (tkN s i) i w) rfl (sm_task hn hi)
theorem Le.write {p : Pr} {s : Sy} (h : Le s) (hn : Np p s) {i : Nat} (hi : i < s.tasks.length) : Le (writeS s i) := by
 unfold writeS
 split
 . rw [write_end hi]
   exact h.more (x := endE (tkN s i) i (tkN s i).when_) rfl (sm_task hn hi)
 . exact h.same rfl
theorem Le.deed1 {s : Sy} (h : Le s) (i : Nat) (d : De) : Le (deed1 s i d) := by
 unfold Go.Proofs.Ytgbgjljflgbcaaa.deed1 loadS
 split
 . split
   . exact h.same rfl
   . split <;> exact h.same rfl
 split
 . exact h.same rfl
 split
 . split <;> exact h.same rfl
 . exact h.same rfl
theorem Le.try {p : Pr} {s : Sy} (h : Le s) (hn : Np p s) {i : Nat} (hi : i < s.tasks.length) (ds : List De) : Le (tryS s i ds) := by
 unfold tryS
 split
 . exact h.same rfl
 split
 . unfold deedS
   split
   . exact h.deed1 i _
   split
   . exact h.end hn hi _
   . exact h.same rfl
 split
 . unfold lockS
   split <;> exact h.same rfl
 split
 . exact h.same rfl
 split
 . unfold checkS
   split
   . split <;> exact h.same rfl
   . exact h.same rfl
 . exact h.write hn hi
theorem Le.wrAll {p : Pr} {s : Sy} (h : Le s) (hn : Np p s) {i : Nat} (hi : i < s.tasks.length) (n : Nat) : Le (wrAll n s i) := by
 induction n generalizing s with
 | zero => exact h
 | succ n ih =>
   unfold Go.Proofs.Ytgbgjljflgbcaaa.wrAll
   split
   . rename_i e; exact ih (h.write hn hi) (hn.write hi e) (by rw [writeS_len]; exact hi)
   . exact h
theorem Le.offB {p : Pr} {s : Sy} (h : Le s) (hn : Np p s) {i : Nat} (hi : i < s.tasks.length) : Le (offB s i) := by
 unfold Go.Proofs.Ytgbgjljflgbcaaa.offB
 split
 . exact h
 . have v1 := h.wrAll hn hi 4
   simp only
   split
   . exact v1.same rfl
   . exact v1.same rfl
theorem Le.kids {p : Pr} {f : Sy -> Nat -> Sy} (hf : ∀ s k, (f s k).tasks.length = s.tasks.length) (hnp : ∀ s k, Np p s -> k < s.tasks.length -> Np p (f s k)) (hq : ∀ s k, Le s -> Np p s -> k < s.tasks.length -> Le (f s k)) {s : Sy} (h : Le s) (hn : Np p s) (i : Nat) : ∀ n, n <= s.tasks.length -> Le (kidsS f s i n) := by
 intro n
 induction n with
 | zero => intro _; exact h
 | succ n ih =>
   intro hn'
   have hl := kidsS_len hf s i n
   rw [kidsS_succ]
   split
   . exact hq _ _ (ih (by omega)) (Np.kids hf hnp hn i n (by omega)) (by omega)
   . exact ih (by omega)
theorem Le.offS {p : Pr} (f : Nat) {s : Sy} (h : Le s) (hn : Np p s) {i : Nat} (hi : i < s.tasks.length) : Le (offS f s i) := by
 induction f generalizing s i with
 | zero => exact h
 | succ f ih =>
  unfold Go.Proofs.Ytgbgjljflgbcaaa.offS
  exact Le.offB (Le.kids (offS_len f) (fun s k h hk => h.offS f hk) (fun s k h hn hk => ih h hn hk) h hn i s.tasks.length (Nat.le_refl _)) (Np.kids (offS_len f) (fun s k h hk => h.offS f hk) hn i s.tasks.length (Nat.le_refl _)) (by rw [kidsS_len (offS_len f)]; exact hi)
theorem Le.step {p : Pr} {s : Sy} (h : Le s) (hn : Np p s) {i : Nat} (hi : i < s.tasks.length) : Le (stepS p s i) := by
 unfold stepS
 split
 . unfold awaitS
   split
   . exact h.same rfl
   . exact (Le.kids (offS_len s.tasks.length) (fun s k h hk => h.offS _ hk) (fun s' k h hn hk => Le.offS _ h hn hk) h hn i s.tasks.length (Nat.le_refl _)).same rfl
 split
 . simp only
   split
   . exact h.try hn hi _
   split
   . exact h.same rfl
   split
   . exact h.same rfl
   . exact h.same rfl
 . exact h.same rfl
structure Inx (p : Pr) (s : Sy) : Prop where
 w : Inw p s
 e : Le s
theorem Inx.do {p : Pr} {s : Sy} (h : Inx p s) (k : Int) : Inx p (doS p s k) := by
 refine ⟨h.w.do k, ?_⟩
 unfold doS
 split
 . rename_i e; exact h.e.step h.w.i.np (doB_at e).1
 . exact h.e
theorem Inx.run {p : Pr} {s : Sy} (h : Inx p s) (ks : List Int) : Inx p (runS p s ks) := by
 unfold runS
 induction ks generalizing s with
 | nil => exact h
 | cons k ks ih => rw [List.foldl_cons]; exact ih (h.do k)
theorem Inx.sm {p : Pr} {s : Sy} (h : Inx p s) : SmSy s := by
 have hn := h.w.i.np
 have c := hn.cs
 have d := okB_cells hn.ok
 have n7 : s.tasks.length <= 7 := h.w.i.bd.n7
 have l28 := hn.l28 h.w.i.bd
 refine ⟨by omega, ⟨by omega, fun j hj => ?_⟩, by omega, fun j hj => h.e _ (nth_mem En.z _ _ hj)⟩
 have hT := hn.t j hj
 have r3 := (rgB_iff.1 hT.regs).1
 have o3 := (rgB_iff.1 hT.old).1
 have e := sm_task hn hj
 unfold tkN at r3 o3 e
 exact ⟨by omega, by omega, e.1, e.2⟩

set_option maxRecDepth 20000
theorem l12Holds_any (t : Ta) (a3 a8 a9 a10 : Option Addr) (c3 c8 c9 c10 : Nat) (c : Int) (w : World) (h : PusAt w (.slice a10 t.puts.length c10) t.puts) (hs : t.stage = 0 \/ t.stage = 1 \/ t.stage = 2 \/ t.stage = 3 \/ t.stage = 4 \/ t.stage = 5) (nu : t.puts.length <= 1048576) :
  Calls Try.prog 105 #[.agg #[.int .i64 t.body, .int .i64 t.pc, .int .i64 t.up, .slice a3 t.regs.length c3, .int .i64 t.way, .int .i64 t.stage, .int .i64 t.at_, .int .i64 t.since, .slice a8 t.old.length c8, .slice a9 t.reads.length c9, .slice a10 t.puts.length c10, .int .i64 t.when_, .int .i64 t.from_], .int .i64 c] w fun r w' => r = .returned (.bool (mHoB t c)) /\ Below w.heap.size w w' := by
 have HH := (show Hid (PusAt _ _ _) from h)
 clear h
 cases hf : fdP t.puts c with
 | none =>
  have HF : Hid (mHoB t c = false) := by unfold Hid mHoB; rw [hf]
  have HI : Hid (fdI t.puts c = -1) := by unfold Hid fdI; rw [hf]
  clear hf hs
  go_enter Try.func105, Try.ntmps105
  go_wp2_with fail
  refine (l11Find_any _ t.puts _ _ (by exact PusAt.mono HH.out bq0)).mono ?_
  rintro e w1 ⟨rfl, hw⟩
  have hw := hw.symm
  subst hw
  rw [HI.out]
  go_wp2_with fail
  go_ret
  exact ⟨by rw [HF.out]; rfl, bq0⟩
 | some i =>
  obtain ⟨hi1, hi2, hi3⟩ := fdP_some hf
  have HI : Hid (fdI t.puts c = (i : Int)) := by unfold Hid fdI; rw [hf]
  have HF : Hid (mHoB t c = if t.stage = 2 then decide ((i : Int) < t.at_) else if t.stage = 3 \/ t.stage = 4 then true else if t.stage = 5 then decide (t.at_ <= (i : Int)) else false) := by unfold Hid mHoB; rw [hf]
  have hn : ¬ (i : Int) < 0 := by omega
  clear hf hi2 hi3
  rcases hs with e | e | e | e | e | e
  all_goals
   have E5 := (show Hid (t.stage = _) from e)
   rw [e]
   go_enter Try.func105, Try.ntmps105
   go_wp2_with fail
   refine (l11Find_any _ t.puts _ _ (by exact PusAt.mono HH.out bq0)).mono ?_
   rintro e w1 ⟨rfl, hw⟩
   have hw := hw.symm
   subst hw
   rw [HI.out]
   go_wp2_with fail
   go_ret
   exact ⟨by rw [HF.out]; simp [E5.out] <;> rfl, bq0⟩
end Go.Proofs.Ytgbgjljflgbcaaa
