import Derived.Test.YtgbgjljflgbcaaaXn35
import Derived.Test.YtgbgjljflgbcaaaXn38
import Derived.Test.YtgbgjljflgbcaaaXn39
import Derived.Test.YtgbgjljflgbcaaaXn41
import Derived.Test.YtgbgjljflgbcaaaXn20
import Derived.Test.YtgbgjljflgbcaaaXn21
import Derived.Deep.DeepCutAuto
namespace Go.Proofs.Ytgbgjljflgbcaaa
open Go.RowKit
set_option linter.unusedSimpArgs false
set_option linter.unusedVariables false
set_option maxRecDepth 20000
theorem eqSys_same' (s : Sy) (cv tv lv cv' tv' lv' : Value) (w : World) (h : SyAt w cv tv lv s) (h' : SyAt w cv' tv' lv' s) :
    Calls Try.prog 26 #[.agg #[cv, tv, .int .i64 s.clock, lv], .agg #[cv', tv', .int .i64 s.clock, lv']] w fun r w' => r = .returned (.bool true) ∧ Below w.heap.size w w' :=
  eqSys_same s cv tv lv cv' tv' lv' w h.1 h.2.1 h.2.2 h'.1 h'.2.1 h'.2.2
theorem sySh_lt {w : World} {cv tv lv : Value} {T : List (Value × Value × Value × Value)} {E : List (Value × Value)} (h1 : RowSh 3 w cv) (h2 : TasSh w tv T) (h3 : EnsSh w lv E) : ∀ a, a ∈ mtSy cv tv lv T E → a.block < w.heap.size := fun a ha => by
  rcases List.mem_append.1 ha with h | h
  · exact (h1.trail a h).2
  · rcases List.mem_append.1 h with h | h
    · exact (h2.trail a h).2
    · exact (h3.trail a h).2
theorem sySh_ic {w : World} {cv tv lv : Value} {T : List (Value × Value × Value × Value)} {E : List (Value × Value)} (h1 : RowSh 3 w cv) (h2 : TasSh w tv T) (h3 : EnsSh w lv E) : ∀ a, a ∈ mtSy cv tv lv T E → ICell w a := fun a ha => by
  rcases List.mem_append.1 ha with h | h
  · exact (h1.trail a h).1
  · rcases List.mem_append.1 h with h | h
    · exact (h2.trail a h).1
    · exact (h3.trail a h).1
theorem wrT_below {B : Nat} {w w' : World} (h : Below B w w') {A : List Addr} (hA : ∀ a, a ∈ A → B ≤ a.block) (k : Int) : Below B w (wrT w' A k) := by
  induction A generalizing w' k with
  | nil => exact h
  | cons a A ih => exact ih (h.setCell (hA a (by simp)) _) (fun b hb => hA b (by simp [hb])) (k + 1)
theorem prSh_of {w w' : World} {cv bv : Value} {p : Pr} (h : PrOn (fun b => w.heap.size ≤ b) w' cv bv p) (hz : Fz w w') (hs : SmallP p) :
    ∃ M, RowSh 1 w' cv ∧ BodiesSh w' bv M ∧ (∀ a, a ∈ mtP cv M → w.heap.size ≤ a.block) ∧ (mtP cv M).length ≤ 4611688217451692032 := by
  have hf : ∀ b o, w.heap.size ≤ b → w'.frozen? ⟨b, o, none⟩ = false := fun b o hb => hz.new hb o
  obtain ⟨k1, k2, k3⟩ := h.1.sh hf
  obtain ⟨M, l1, l2, l3⟩ := h.2.sh hf ⟨hs.2.1, hs.2.2⟩
  refine ⟨M, k1, l1, fun a ha => ?_, ?_⟩
  · rcases List.mem_append.1 ha with h | h
    · exact k2 a h
    · exact l2 a h
  · have h1 := hs.1
    have h2 := hs.2.1
    have h4 : p.bodies.length * (1048576 * 4194306) ≤ 1048576 * (1048576 * 4194306) := Nat.mul_le_mul_right _ h2
    simp only [mtP, List.length_append]
    omega
theorem prSh_ic {w : World} {cv bv : Value} {M : List (Value × List (Value × Value))} (h1 : RowSh 1 w cv) (h2 : BodiesSh w bv M) : ∀ a, a ∈ mtP cv M → ICell w a := fun a ha => by
  rcases List.mem_append.1 ha with h | h
  · exact (h1.trail a h).1
  · exact (h2.part (Nat.le_refl _) a h).1
theorem prSh_lt {w : World} {cv bv : Value} {M : List (Value × List (Value × Value))} (h1 : RowSh 1 w cv) (h2 : BodiesSh w bv M) : ∀ a, a ∈ mtP cv M → a.block < w.heap.size := fun a ha => by
  rcases List.mem_append.1 ha with h | h
  · exact (h1.trail a h).2
  · exact (h2.part (Nat.le_refl _) a h).2
theorem newS_len {p : Pr} {R : Sy} {B1 : Bool} (hR : (newS p, okB p) = (R, B1)) (hs : SmallP p) : R.cells.length ≤ 1048576 ∧ R.tasks.length ≤ 1 ∧ (∀ i, i < R.tasks.length → nth Ta.z R.tasks i = newTa 0 (-1)) ∧ R.log = [] := by
  injection hR with e1 e2
  subst e1
  have h1 := hs.1
  unfold newS
  split
  · refine ⟨by simpa using h1, by simp, fun i hi => ?_, rfl⟩
    have : i = 0 := by simpa using hi
    subst this; rfl
  · exact ⟨by simp, by simp, fun i hi => by simp at hi, rfl⟩
theorem OwnS.tr {B : Nat} {w : World} {cv tv lv : Value} {s : Sy} (h : OwnS B w cv tv lv s) (h1 : s.cells.length ≤ 1048576) (h2 : s.tasks.length ≤ 1) (h3 : ∀ i, i < s.tasks.length → nth Ta.z s.tasks i = newTa 0 (-1)) (h4 : s.log = []) :
    ∃ TV EV, RowSh 3 w cv ∧ TasSh w tv TV ∧ EnsSh w lv EV ∧ (mtSy cv tv lv TV EV).Nodup ∧ (∀ a, a ∈ mtSy cv tv lv TV EV → B ≤ a.block) ∧ (mtSy cv tv lv TV EV).length ≤ 4611686018427387904 := by
  obtain ⟨f, T, L, ho, hT, hL⟩ := h
  refine ⟨T.map tvv, L.map evv, ho.csh, ho.tsh, ho.esh, ho.trail.1, ho.trail.2, ?_⟩
  have c := ho.c.trlen 3
  have hTl : T.length = s.tasks.length := by rw [← hT, List.length_map]
  have hLl : L = [] := by rw [h4] at hL; simpa using hL
  subst hLl
  have t : (mtTaR (T.map tvv) tv).length ≤ 100 := by
    rcases row_block ho.t with rfl | ⟨g, cap, rfl, _⟩
    · simp [mtTaR]
    · simp only [mtTaR, List.length_map]
      have : (mtTas g 0 (T.map tvv) T.length).length ≤ T.length * 100 := mtTas_len_le fun i hi => by
        rw [map_nth tvv TT.z Z4v T i hi, mtTa_len]
        have hi' : i < s.tasks.length := by omega
        have e : (nth TT.z T i).1 = newTa 0 (-1) := by rw [← h3 i hi', ← hT, map_nth (·.1) TT.z Ta.z T i hi]
        have hti := ho.ti i hi
        have k1 := hti.r.trlen 1
        have k2 := hti.o.trlen 1
        have k3 := hti.d.trlen 2
        have k4 := hti.u.trlen 2
        rw [e] at k1 k2 k3 k4
        simp only [newTa, List.length_cons, List.length_nil] at k1 k2 k3 k4
        simp only [tvv]
        omega
      have : T.length * 100 ≤ 1 * 100 := Nat.mul_le_mul_right _ (by omega)
      omega
  have l : (mtEnR (([] : List EE).map evv) lv).length = 0 := by
    rcases row_block ho.l with rfl | ⟨g, cap, rfl, _⟩ <;> simp [mtEnR, mtEns]
  simp only [mtSy, List.length_append]
  rw [l]
  omega
theorem SyOn.wr {C : Nat} {w : World} {cv tv lv : Value} {s : Sy} (h : SyOn (fun b => b < C) w cv tv lv s) {A : List Addr} (hA : ∀ a, a ∈ A → C ≤ a.block) (k : Int) : SyOn (fun b => b < C) (wrT w A k) cv tv lv s :=
  h.kept ⟨Nat.le_of_eq (wrT_rest w A k).2.2.2.symm, fun b o hb _ => wrT_other (fun hp => by have := hA _ hp; simp at this; omega) k⟩
theorem OwnS.wr {B : Nat} {w : World} {cv tv lv : Value} {s : Sy} (h : OwnS B w cv tv lv s) {A : List Addr} (hA : ∀ a, a ∈ A → a.block < B) (k : Int) : OwnS B (wrT w A k) cv tv lv s :=
  h.ext fun g hg _ => wrT_block (fun a ha => by have := hA a ha; omega) k
theorem newR_eq {p : Pr} {R : Sy} {B1 : Bool} (hR : (newS p, okB p) = (R, B1)) {w w' : World} {e : Ending} (h : NewR p w e w') :
    ∃ a1 c1 a2 c2 a3 c3, e = .returned (.tuple #[.agg #[.slice a1 R.cells.length c1, .slice a2 R.tasks.length c2, .int .i64 R.clock, .slice a3 R.log.length c3], .bool B1]) ∧ OwnS w.heap.size w' (.slice a1 R.cells.length c1) (.slice a2 R.tasks.length c2) (.slice a3 R.log.length c3) R ∧ Below w.heap.size w w' := by
  injection hR with e1 e2
  subst e1
  subst e2
  obtain ⟨cv, tv, lv, rfl, ho, hb⟩ := h
  have hs := ho.on.at
  obtain ⟨a1, c1, rfl, _⟩ := hs.1.shape
  obtain ⟨a2, c2, rfl, _⟩ := hs.2.1.shape
  obtain ⟨a3, c3, rfl, _⟩ := hs.2.2.shape
  exact ⟨a1, c1, a2, c2, a3, c3, rfl, ho, hb⟩
theorem sSysNew_eq {p : Pr} {R : Sy} {B1 : Bool} (hR : (newS p, okB p) = (R, B1)) (S : Nat → Prop) (pc pb : Value) (w : World) (hp : PrS S w pc pb p) :
    Calls Try.prog 10 #[.agg #[pc, pb]] w fun e w' => ∃ a1 c1 a2 c2 a3 c3, e = .returned (.tuple #[.agg #[.slice a1 R.cells.length c1, .slice a2 R.tasks.length c2, .int .i64 R.clock, .slice a3 R.log.length c3], .bool B1]) ∧ OwnS w.heap.size w' (.slice a1 R.cells.length c1) (.slice a2 R.tasks.length c2) (.slice a3 R.log.length c3) R ∧ Below w.heap.size w w' :=
  (sSysNew_any S p pc pb w hp).mono fun _ _ h => newR_eq hR h
theorem sysNew_eq {p : Pr} {R : Sy} {B1 : Bool} (hR : (newS p, okB p) = (R, B1)) (S : Nat → Prop) (pc pb : Value) (w : World) (hp : PrS S w pc pb p) :
    Calls Try.prog 11 #[.agg #[pc, pb]] w fun e w' => ∃ a1 c1 a2 c2 a3 c3, e = .returned (.tuple #[.agg #[.slice a1 R.cells.length c1, .slice a2 R.tasks.length c2, .int .i64 R.clock, .slice a3 R.log.length c3], .bool B1]) ∧ OwnS w.heap.size w' (.slice a1 R.cells.length c1) (.slice a2 R.tasks.length c2) (.slice a3 R.log.length c3) R ∧ Below w.heap.size w w' :=
  (sysNew_any S p pc pb w hp).mono fun _ _ h => newR_eq hR h
set_option maxHeartbeats 8000000 in
theorem exactSysNew_walk (p : Pr) (pv0 pv1 : Value) (w : World) (hP : PrAt w pv0 pv1 p) :
    Calls Try.prog 8 #[.agg #[pv0, pv1]] w fun r w' => r = .returned (.bool true) ∧ Below w.heap.size w w' := by
  obtain ⟨aPa0, aPc0, rfl, _⟩ := hP.1.shape
  obtain ⟨aPa1, aPc1, rfl, _⟩ := hP.2.shape
  have HP := (show Hid (PrAt _ _ _ _) from hP)
  clear hP
  obtain ⟨R, B1, hR⟩ : ∃ R B1, (newS p, okB p) = (R, B1) := ⟨_, _, rfl⟩
  have HRR := (show Hid (_ = _) from hR)
  clear hR
  go_enter Try.func8, Try.ntmps8
  go_wp2_with fail
  refine (szProg_any p _ _ 1048576 _ (by exact HP.out.1.mono (by repeat (first | with_reducible exact Below.refl _ _ | (with_reducible refine Below.setCell ?_ ?hs _; case hs => ((try simp); try omega)) | (with_reducible refine Below.alloc ?_ ?hs _; case hs => ((try simp); try omega)) | with_reducible refine Below.drew ?_ | with_reducible refine below_drewN ?_ _))) (by exact HP.out.2.mono (by repeat (first | with_reducible exact Below.refl _ _ | (with_reducible refine Below.setCell ?_ ?hs _; case hs => ((try simp); try omega)) | (with_reducible refine Below.alloc ?_ ?hs _; case hs => ((try simp); try omega)) | with_reducible refine Below.drew ?_ | with_reducible refine below_drewN ?_ _))) (by omega) (by omega)).mono ?_
  rintro e w1 ⟨q, rfl, hq, hb⟩
  have ea0_1 : w1.cell? ⟨w.heap.size, 0, none⟩ = some (.slice aPa0 p.cells.length aPc0) := by rw [hb.cell (p := ⟨w.heap.size, 0, none⟩) (by (try simp); try omega)]; simp [go_sem]
  have ea1_1 : w1.cell? ⟨w.heap.size, 1, none⟩ = some (.slice aPa1 p.bodies.length aPc1) := by rw [hb.cell (p := ⟨w.heap.size, 1, none⟩) (by (try simp); try omega)]; simp [go_sem]
  have za_1 : w.heap.size < w1.heap.size := by have := hb.size; (try simp at this); omega
  have HB1 : Hid (Below w.heap.size w w1) := below_then (by repeat (first | with_reducible exact Below.refl _ _ | (with_reducible refine Below.setCell ?_ ?hs _; case hs => ((try simp); try omega)) | (with_reducible refine Below.alloc ?_ ?hs _; case hs => ((try simp); try omega)) | with_reducible refine Below.drew ?_ | with_reducible refine below_drewN ?_ _)) (by (try simp); try omega) hb
  have HQQ := (show Hid (0 ≤ q → SmallP p) from hq)
  clear hb hq
  by_cases hneg : q < 0
  · go_wp2_with fail
    go_ret
    exact ⟨rfl, HB1.out⟩
  have HSMP : Hid (SmallP p) := HQQ.out (by omega)
  clear HQQ
  have hnl := newS_len HRR.out HSMP.out
  have HNL := (show Hid (_ ∧ _ ∧ _ ∧ _) from hnl)
  clear hnl
  go_wp2_with fail
  refine (toProg_th' p _ _ _ (by exact PrAt.mono HP.out (by repeat (first | with_reducible exact HB1.out | (with_reducible refine Below.setCell ?_ ?hs _; case hs => ((try simp); try omega)) | (with_reducible refine Below.alloc ?_ ?hs _; case hs => ((try simp); try omega)) | with_reducible refine Below.drew ?_ | with_reducible refine below_drewN ?_ _))) HSMP.out).mono ?_
  rintro e w2 ⟨sPv0, sPv1, rfl, ho, hb, hz⟩
  obtain ⟨sPa0, sPc0, rfl, _⟩ := ho.1.shape
  obtain ⟨sPa1, sPc1, rfl, _⟩ := ho.2.shape
  have ea0_2 : w2.cell? ⟨w.heap.size, 0, none⟩ = some (.slice aPa0 p.cells.length aPc0) := by rw [hb.cell (p := ⟨w.heap.size, 0, none⟩) (by (try simp); try omega)]; exact ea0_1
  have ea1_2 : w2.cell? ⟨w.heap.size, 1, none⟩ = some (.slice aPa1 p.bodies.length aPc1) := by rw [hb.cell (p := ⟨w.heap.size, 1, none⟩) (by (try simp); try omega)]; exact ea1_1
  have za_2 : w.heap.size < w2.heap.size := by have := hb.size; (try simp at this); omega
  have HB2 : Hid (Below w.heap.size w w2) := below_then HB1.out HB1.out.size hb
  have HXO := (show Hid (PrS (fun _ => True) w2 _ _ _) from PrS.wide (fun _ _ => trivial) (show PrS _ w2 _ _ _ from ho))
  clear ho hz hb
  clear ea0_1 ea1_1 za_1
  clear HB1 
  go_wp2_with fail
  refine (sSysNew_eq HRR.out _ _ _ _ (by exact PrS.kept HXO.out (Kept.below (by repeat (first | with_reducible exact Below.refl _ _ | (with_reducible refine Below.setCell ?_ ?hs _; case hs => ((try simp); try omega)) | (with_reducible refine Below.alloc ?_ ?hs _; case hs => ((try simp); try omega)) | with_reducible refine Below.drew ?_ | with_reducible refine below_drewN ?_ _))))).mono ?_
  rintro e w3 ⟨ua1, uc1, ua2, uc2, ua3, uc3, rfl, hs, hb⟩
  have ea0_3 : w3.cell? ⟨w.heap.size, 0, none⟩ = some (.slice aPa0 p.cells.length aPc0) := by rw [hb.cell (p := ⟨w.heap.size, 0, none⟩) (by (try simp); try omega)]; exact ea0_2
  have ea1_3 : w3.cell? ⟨w.heap.size, 1, none⟩ = some (.slice aPa1 p.bodies.length aPc1) := by rw [hb.cell (p := ⟨w.heap.size, 1, none⟩) (by (try simp); try omega)]; exact ea1_2
  have za_3 : w.heap.size < w3.heap.size := by have := hb.size; (try simp at this); omega
  have HB3 : Hid (Below w.heap.size w w3) := below_then HB2.out HB2.out.size hb
  have HS3 := (show Hid (SyOn (fun b => b < w3.heap.size) w3 (.slice ua1 R.cells.length uc1) (.slice ua2 R.tasks.length uc2) (.slice ua3 R.log.length uc3) R) from SyOn.wide (fun _ hb => hb.2) hs.on.ltw)
  have h03 : w.heap.size < w3.heap.size := za_3
  clear hs hb HXO
  clear ea0_2 ea1_2 za_2
  clear HB2 
  go_wp2_with fail
  refine (toProg_th' p _ _ _ (by exact PrAt.mono HP.out (by repeat (first | with_reducible exact HB3.out | (with_reducible refine Below.setCell ?_ ?hs _; case hs => ((try simp); try omega)) | (with_reducible refine Below.alloc ?_ ?hs _; case hs => ((try simp); try omega)) | with_reducible refine Below.drew ?_ | with_reducible refine below_drewN ?_ _))) HSMP.out).mono ?_
  rintro e w4 ⟨xPv0, xPv1, rfl, ho, hb, hz⟩
  obtain ⟨xPa0, xPc0, rfl, _⟩ := ho.1.shape
  obtain ⟨xPa1, xPc1, rfl, _⟩ := ho.2.shape
  have hr : Below w3.heap.size w3 w4 := below_then (by repeat (first | with_reducible exact Below.refl _ _ | (with_reducible refine Below.setCell ?_ ?hs _; case hs => ((try simp); try omega)) | (with_reducible refine Below.alloc ?_ ?hs _; case hs => ((try simp); try omega)) | with_reducible refine Below.drew ?_ | with_reducible refine below_drewN ?_ _)) (by (try simp); try omega) hb
  have ea0_4 : w4.cell? ⟨w.heap.size, 0, none⟩ = some (.slice aPa0 p.cells.length aPc0) := by rw [hr.cell (p := ⟨w.heap.size, 0, none⟩) (by (try simp); try omega)]; exact ea0_3
  have ea1_4 : w4.cell? ⟨w.heap.size, 1, none⟩ = some (.slice aPa1 p.bodies.length aPc1) := by rw [hr.cell (p := ⟨w.heap.size, 1, none⟩) (by (try simp); try omega)]; exact ea1_3
  have za_4 : w.heap.size < w4.heap.size := by have := hr.size; (try simp at this); omega
  have eu0_4 : w4.cell? ⟨w3.heap.size, 0, none⟩ = some (.slice ua1 R.cells.length uc1) := by rw [hb.cell (p := ⟨w3.heap.size, 0, none⟩) (by (try simp); try omega)]; simp [go_sem]
  have eu1_4 : w4.cell? ⟨w3.heap.size, 1, none⟩ = some (.slice ua2 R.tasks.length uc2) := by rw [hb.cell (p := ⟨w3.heap.size, 1, none⟩) (by (try simp); try omega)]; simp [go_sem]
  have eu2_4 : w4.cell? ⟨w3.heap.size, 2, none⟩ = some (.int .i64 R.clock) := by rw [hb.cell (p := ⟨w3.heap.size, 2, none⟩) (by (try simp); try omega)]; simp [go_sem]
  have eu3_4 : w4.cell? ⟨w3.heap.size, 3, none⟩ = some (.slice ua3 R.log.length uc3) := by rw [hb.cell (p := ⟨w3.heap.size, 3, none⟩) (by (try simp); try omega)]; simp [go_sem]
  have zu_4 : w3.heap.size < w4.heap.size := by have := hb.size; (try simp at this); omega
  have HB4 : Hid (Below w.heap.size w w4) := below_then HB3.out HB3.out.size hr
  have HS4 := (show Hid (SyOn (fun b => b < w3.heap.size) w4 (.slice ua1 R.cells.length uc1) (.slice ua2 R.tasks.length uc2) (.slice ua3 R.log.length uc3) R) from SyOn.kept HS3.out (Kept.below hr))
  have HXO := (show Hid (PrS (fun _ => True) w4 _ _ _) from PrS.wide (fun _ _ => trivial) (show PrS _ w4 _ _ _ from ho))
  have HXP4 := (show Hid (PrAt w4 _ _ _) from ho.at)
  obtain ⟨MP, k1, k2, k3, k4⟩ := prSh_of ho hz HSMP.out
  have HYP4 := (show Hid (RowSh 1 w4 _ ∧ BodiesSh w4 _ MP) from ⟨k1, k2⟩)
  have HRP : Hid (∀ a, a ∈ mtP _ MP → w3.heap.size + 1 ≤ a.block ∧ a.block < w4.heap.size) := fun a ha => ⟨by have := k3 a ha; (try simp at this); omega, prSh_lt k1 k2 a ha⟩
  have hlP := k4
  have h34 : w3.heap.size < w4.heap.size := zu_4
  clear ho hz hb k1 k2 k3 k4
  clear ea0_3 ea1_3 za_3
  clear HB3 HS3
  clear hr
  go_wp2_with fail
  refine (sysNew_eq HRR.out _ _ _ _ (by exact PrS.kept HXO.out (Kept.below (by repeat (first | with_reducible exact Below.refl _ _ | (with_reducible refine Below.setCell ?_ ?hs _; case hs => ((try simp); try omega)) | (with_reducible refine Below.alloc ?_ ?hs _; case hs => ((try simp); try omega)) | with_reducible refine Below.drew ?_ | with_reducible refine below_drewN ?_ _))))).mono ?_
  rintro e w5 ⟨ga1, gc1, ga2, gc2, ga3, gc3, rfl, hs, hb⟩
  have hr : Below w4.heap.size w4 w5 := below_then (by repeat (first | with_reducible exact Below.refl _ _ | (with_reducible refine Below.setCell ?_ ?hs _; case hs => ((try simp); try omega)) | (with_reducible refine Below.alloc ?_ ?hs _; case hs => ((try simp); try omega)) | with_reducible refine Below.drew ?_ | with_reducible refine below_drewN ?_ _)) (by (try simp); try omega) hb
  have ea0_5 : w5.cell? ⟨w.heap.size, 0, none⟩ = some (.slice aPa0 p.cells.length aPc0) := by rw [hr.cell (p := ⟨w.heap.size, 0, none⟩) (by (try simp); try omega)]; exact ea0_4
  have ea1_5 : w5.cell? ⟨w.heap.size, 1, none⟩ = some (.slice aPa1 p.bodies.length aPc1) := by rw [hr.cell (p := ⟨w.heap.size, 1, none⟩) (by (try simp); try omega)]; exact ea1_4
  have za_5 : w.heap.size < w5.heap.size := by have := hr.size; (try simp at this); omega
  have eu0_5 : w5.cell? ⟨w3.heap.size, 0, none⟩ = some (.slice ua1 R.cells.length uc1) := by rw [hr.cell (p := ⟨w3.heap.size, 0, none⟩) (by (try simp); try omega)]; exact eu0_4
  have eu1_5 : w5.cell? ⟨w3.heap.size, 1, none⟩ = some (.slice ua2 R.tasks.length uc2) := by rw [hr.cell (p := ⟨w3.heap.size, 1, none⟩) (by (try simp); try omega)]; exact eu1_4
  have eu2_5 : w5.cell? ⟨w3.heap.size, 2, none⟩ = some (.int .i64 R.clock) := by rw [hr.cell (p := ⟨w3.heap.size, 2, none⟩) (by (try simp); try omega)]; exact eu2_4
  have eu3_5 : w5.cell? ⟨w3.heap.size, 3, none⟩ = some (.slice ua3 R.log.length uc3) := by rw [hr.cell (p := ⟨w3.heap.size, 3, none⟩) (by (try simp); try omega)]; exact eu3_4
  have zu_5 : w3.heap.size < w5.heap.size := by have := hr.size; (try simp at this); omega
  have ex0_5 : w5.cell? ⟨w4.heap.size, 0, none⟩ = some (.slice xPa0 p.cells.length xPc0) := by rw [hb.cell (p := ⟨w4.heap.size, 0, none⟩) (by (try simp); try omega)]; simp [go_sem]
  have ex1_5 : w5.cell? ⟨w4.heap.size, 1, none⟩ = some (.slice xPa1 p.bodies.length xPc1) := by rw [hb.cell (p := ⟨w4.heap.size, 1, none⟩) (by (try simp); try omega)]; simp [go_sem]
  have zx_5 : w4.heap.size < w5.heap.size := by have := hb.size; (try simp at this); omega
  have HB5 : Hid (Below w.heap.size w w5) := below_then HB4.out HB4.out.size hr
  have HS5 := (show Hid (SyOn (fun b => b < w3.heap.size) w5 (.slice ua1 R.cells.length uc1) (.slice ua2 R.tasks.length uc2) (.slice ua3 R.log.length uc3) R) from SyOn.kept HS4.out (Kept.below hr))
  have HXP5 := (show Hid (PrAt w5 _ _ _) from PrAt.mono HXP4.out hr)
  have HYP5 := (show Hid (RowSh 1 w5 _ ∧ BodiesSh w5 _ MP) from ⟨HYP4.out.1.set (IntSet.below hr), HYP4.out.2.set (IntSet.below hr)⟩)
  have HG5 := (show Hid (OwnS (w4.heap.size + 1) w5 (.slice ga1 R.cells.length gc1) (.slice ga2 R.tasks.length gc2) (.slice ga3 R.log.length gc3) R) from hs.base (by (try simp); try omega))
  obtain ⟨TV, EV, k1, k2, k3, kn, kb, kl⟩ := OwnS.tr HG5.out HNL.out.1 HNL.out.2.1 HNL.out.2.2.1 HNL.out.2.2.2
  have HGS5 := (show Hid (RowSh 3 w5 _ ∧ TasSh w5 _ TV ∧ EnsSh w5 _ EV) from ⟨k1, k2, k3⟩)
  have HTB : Hid (∀ a, a ∈ mtSy (.slice ga1 R.cells.length gc1) (.slice ga2 R.tasks.length gc2) (.slice ga3 R.log.length gc3) TV EV → w4.heap.size + 1 ≤ a.block ∧ a.block < w5.heap.size) := fun a ha => ⟨kb a ha, sySh_lt k1 k2 k3 a ha⟩
  have HTN := (show Hid (List.Nodup _) from kn)
  have h45 : w4.heap.size < w5.heap.size := zx_5
  clear hs hb HXO k1 k2 k3 kn kb
  clear ea0_4 ea1_4 eu0_4 eu1_4 eu2_4 eu3_4 za_4 zu_4
  clear HB4 HS4 HXP4 HYP4
  clear hr
  go_wp2_with fail
  refine (eqSys_same' R _ _ _ _ _ _ _ (by exact SyAt.mono HG5.out.on.at (by repeat (first | with_reducible exact Below.refl _ _ | (with_reducible refine Below.setCell ?_ ?hs _; case hs => ((try simp); try omega)) | (with_reducible refine Below.alloc ?_ ?hs _; case hs => ((try simp); try omega)) | with_reducible refine Below.drew ?_ | with_reducible refine below_drewN ?_ _))) (by exact SyAt.mono HS5.out.at (by repeat (first | with_reducible exact Below.refl _ _ | (with_reducible refine Below.setCell ?_ ?hs _; case hs => ((try simp); try omega)) | (with_reducible refine Below.alloc ?_ ?hs _; case hs => ((try simp); try omega)) | with_reducible refine Below.drew ?_ | with_reducible refine below_drewN ?_ _)))).mono ?_
  rintro e w6 ⟨rfl, hb⟩
  have hr : Below w5.heap.size w5 w6 := below_then (by repeat (first | with_reducible exact Below.refl _ _ | (with_reducible refine Below.setCell ?_ ?hs _; case hs => ((try simp); try omega)) | (with_reducible refine Below.alloc ?_ ?hs _; case hs => ((try simp); try omega)) | with_reducible refine Below.drew ?_ | with_reducible refine below_drewN ?_ _)) (by (try simp); try omega) hb
  have ea0_6 : w6.cell? ⟨w.heap.size, 0, none⟩ = some (.slice aPa0 p.cells.length aPc0) := by rw [hr.cell (p := ⟨w.heap.size, 0, none⟩) (by (try simp); try omega)]; exact ea0_5
  have ea1_6 : w6.cell? ⟨w.heap.size, 1, none⟩ = some (.slice aPa1 p.bodies.length aPc1) := by rw [hr.cell (p := ⟨w.heap.size, 1, none⟩) (by (try simp); try omega)]; exact ea1_5
  have za_6 : w.heap.size < w6.heap.size := by have := hr.size; (try simp at this); omega
  have eu0_6 : w6.cell? ⟨w3.heap.size, 0, none⟩ = some (.slice ua1 R.cells.length uc1) := by rw [hr.cell (p := ⟨w3.heap.size, 0, none⟩) (by (try simp); try omega)]; exact eu0_5
  have eu1_6 : w6.cell? ⟨w3.heap.size, 1, none⟩ = some (.slice ua2 R.tasks.length uc2) := by rw [hr.cell (p := ⟨w3.heap.size, 1, none⟩) (by (try simp); try omega)]; exact eu1_5
  have eu2_6 : w6.cell? ⟨w3.heap.size, 2, none⟩ = some (.int .i64 R.clock) := by rw [hr.cell (p := ⟨w3.heap.size, 2, none⟩) (by (try simp); try omega)]; exact eu2_5
  have eu3_6 : w6.cell? ⟨w3.heap.size, 3, none⟩ = some (.slice ua3 R.log.length uc3) := by rw [hr.cell (p := ⟨w3.heap.size, 3, none⟩) (by (try simp); try omega)]; exact eu3_5
  have zu_6 : w3.heap.size < w6.heap.size := by have := hr.size; (try simp at this); omega
  have ex0_6 : w6.cell? ⟨w4.heap.size, 0, none⟩ = some (.slice xPa0 p.cells.length xPc0) := by rw [hr.cell (p := ⟨w4.heap.size, 0, none⟩) (by (try simp); try omega)]; exact ex0_5
  have ex1_6 : w6.cell? ⟨w4.heap.size, 1, none⟩ = some (.slice xPa1 p.bodies.length xPc1) := by rw [hr.cell (p := ⟨w4.heap.size, 1, none⟩) (by (try simp); try omega)]; exact ex1_5
  have zx_6 : w4.heap.size < w6.heap.size := by have := hr.size; (try simp at this); omega
  have eg0_6 : w6.cell? ⟨w5.heap.size, 0, none⟩ = some (.slice ga1 R.cells.length gc1) := by rw [hb.cell (p := ⟨w5.heap.size, 0, none⟩) (by (try simp); try omega)]; simp [go_sem]
  have eg1_6 : w6.cell? ⟨w5.heap.size, 1, none⟩ = some (.slice ga2 R.tasks.length gc2) := by rw [hb.cell (p := ⟨w5.heap.size, 1, none⟩) (by (try simp); try omega)]; simp [go_sem]
  have eg2_6 : w6.cell? ⟨w5.heap.size, 2, none⟩ = some (.int .i64 R.clock) := by rw [hb.cell (p := ⟨w5.heap.size, 2, none⟩) (by (try simp); try omega)]; simp [go_sem]
  have eg3_6 : w6.cell? ⟨w5.heap.size, 3, none⟩ = some (.slice ga3 R.log.length gc3) := by rw [hb.cell (p := ⟨w5.heap.size, 3, none⟩) (by (try simp); try omega)]; simp [go_sem]
  have zg_6 : w5.heap.size < w6.heap.size := by have := hb.size; (try simp at this); omega
  have HB6 : Hid (Below w.heap.size w w6) := below_then HB5.out HB5.out.size hr
  have HS6 := (show Hid (SyOn (fun b => b < w3.heap.size) w6 (.slice ua1 R.cells.length uc1) (.slice ua2 R.tasks.length uc2) (.slice ua3 R.log.length uc3) R) from SyOn.kept HS5.out (Kept.below hr))
  have HXP6 := (show Hid (PrAt w6 _ _ _) from PrAt.mono HXP5.out hr)
  have HYP6 := (show Hid (RowSh 1 w6 _ ∧ BodiesSh w6 _ MP) from ⟨HYP5.out.1.set (IntSet.below hr), HYP5.out.2.set (IntSet.below hr)⟩)
  have HG6 := (show Hid (OwnS (w4.heap.size + 1) w6 (.slice ga1 R.cells.length gc1) (.slice ga2 R.tasks.length gc2) (.slice ga3 R.log.length gc3) R) from OwnS.below HG5.out hr (Nat.le_refl _))
  have HGS6 := (show Hid (RowSh 3 w6 _ ∧ TasSh w6 _ TV ∧ EnsSh w6 _ EV) from ⟨HGS5.out.1.set (IntSet.below hr), HGS5.out.2.1.set (IntSet.below hr), HGS5.out.2.2.set (IntSet.below hr)⟩)
  clear hb
  clear ea0_5 ea1_5 eu0_5 eu1_5 eu2_5 eu3_5 ex0_5 ex1_5 za_5 zu_5 zx_5
  clear HB5 HS5 HXP5 HYP5 HG5 HGS5
  clear hr
  go_wp2_with fail
  have HC := (show Hid (PrAt w6.drew (.slice aPa0 p.cells.length aPc0) (.slice aPa1 p.bodies.length aPc1) p) from PrAt.mono HP.out HB6.out.drew)
  have HEX := (show Hid (PrAt w6.drew (.slice xPa0 p.cells.length xPc0) (.slice xPa1 p.bodies.length xPc1) p) from PrAt.mono HXP6.out (Below.refl _ _).drew)
  go_cut [45] (fun sx wx => sx = .bool false ∧ Below w6.heap.size w6 wx)
  case first =>
    go_region_with (first | (go_at_call 25; refine (toProg_th' p _ _ _ HC.out HSMP.out).mono ?_; rintro e wx1 ⟨yv0, yv1, rfl, hoy, hby, hzy⟩; obtain ⟨ya0, yc0, rfl, _⟩ := (hoy.1).shape; obtain ⟨ya1, yc1, rfl, _⟩ := (hoy.2).shape; have y0 : wx1.cell? ⟨w4.heap.size, 0, none⟩ = some (.slice xPa0 p.cells.length xPc0) := (hby.cell (p := ⟨w4.heap.size, 0, none⟩) zx_6).trans ex0_6; have y1 : wx1.cell? ⟨w4.heap.size, 1, none⟩ = some (.slice xPa1 p.bodies.length xPc1) := (hby.cell (p := ⟨w4.heap.size, 1, none⟩) zx_6).trans ex1_6) | (go_at_call 27; refine (eqProg_same' p _ _ _ _ _ (PrAt.mono HEX.out hby) hoy.at).mono ?_; rintro e wx2 ⟨rfl, hbz⟩))
    all_goals
      have HQ := (show Hid (Below w6.heap.size w6 wx2) from below_then (((Below.refl _ _).drew).trans hby) hby.size hbz)
      clear hby hbz hoy hzy y0 y1 HC HEX
      go_wp2_with fail
      go_meet
      exact ⟨rfl, HQ.out⟩
  case rest =>
  obtain ⟨rfl, hb⟩ := hcut
  obtain ⟨w7, hwc⟩ : ∃ w7 : World, w7 = wc := ⟨_, rfl⟩
  subst hwc
  clear HC HEX
  have ea0_7 : w7.cell? ⟨w.heap.size, 0, none⟩ = some (.slice aPa0 p.cells.length aPc0) := by rw [hb.cell (p := ⟨w.heap.size, 0, none⟩) (by (try simp); try omega)]; exact ea0_6
  have ea1_7 : w7.cell? ⟨w.heap.size, 1, none⟩ = some (.slice aPa1 p.bodies.length aPc1) := by rw [hb.cell (p := ⟨w.heap.size, 1, none⟩) (by (try simp); try omega)]; exact ea1_6
  have za_7 : w.heap.size < w7.heap.size := by have := hb.size; (try simp at this); omega
  have eu0_7 : w7.cell? ⟨w3.heap.size, 0, none⟩ = some (.slice ua1 R.cells.length uc1) := by rw [hb.cell (p := ⟨w3.heap.size, 0, none⟩) (by (try simp); try omega)]; exact eu0_6
  have eu1_7 : w7.cell? ⟨w3.heap.size, 1, none⟩ = some (.slice ua2 R.tasks.length uc2) := by rw [hb.cell (p := ⟨w3.heap.size, 1, none⟩) (by (try simp); try omega)]; exact eu1_6
  have eu2_7 : w7.cell? ⟨w3.heap.size, 2, none⟩ = some (.int .i64 R.clock) := by rw [hb.cell (p := ⟨w3.heap.size, 2, none⟩) (by (try simp); try omega)]; exact eu2_6
  have eu3_7 : w7.cell? ⟨w3.heap.size, 3, none⟩ = some (.slice ua3 R.log.length uc3) := by rw [hb.cell (p := ⟨w3.heap.size, 3, none⟩) (by (try simp); try omega)]; exact eu3_6
  have zu_7 : w3.heap.size < w7.heap.size := by have := hb.size; (try simp at this); omega
  have ex0_7 : w7.cell? ⟨w4.heap.size, 0, none⟩ = some (.slice xPa0 p.cells.length xPc0) := by rw [hb.cell (p := ⟨w4.heap.size, 0, none⟩) (by (try simp); try omega)]; exact ex0_6
  have ex1_7 : w7.cell? ⟨w4.heap.size, 1, none⟩ = some (.slice xPa1 p.bodies.length xPc1) := by rw [hb.cell (p := ⟨w4.heap.size, 1, none⟩) (by (try simp); try omega)]; exact ex1_6
  have zx_7 : w4.heap.size < w7.heap.size := by have := hb.size; (try simp at this); omega
  have eg0_7 : w7.cell? ⟨w5.heap.size, 0, none⟩ = some (.slice ga1 R.cells.length gc1) := by rw [hb.cell (p := ⟨w5.heap.size, 0, none⟩) (by (try simp); try omega)]; exact eg0_6
  have eg1_7 : w7.cell? ⟨w5.heap.size, 1, none⟩ = some (.slice ga2 R.tasks.length gc2) := by rw [hb.cell (p := ⟨w5.heap.size, 1, none⟩) (by (try simp); try omega)]; exact eg1_6
  have eg2_7 : w7.cell? ⟨w5.heap.size, 2, none⟩ = some (.int .i64 R.clock) := by rw [hb.cell (p := ⟨w5.heap.size, 2, none⟩) (by (try simp); try omega)]; exact eg2_6
  have eg3_7 : w7.cell? ⟨w5.heap.size, 3, none⟩ = some (.slice ga3 R.log.length gc3) := by rw [hb.cell (p := ⟨w5.heap.size, 3, none⟩) (by (try simp); try omega)]; exact eg3_6
  have zg_7 : w5.heap.size < w7.heap.size := by have := hb.size; (try simp at this); omega
  have HB7 : Hid (Below w.heap.size w w7) := below_then HB6.out HB6.out.size hb
  have HS7 := (show Hid (SyOn (fun b => b < w3.heap.size) w7 (.slice ua1 R.cells.length uc1) (.slice ua2 R.tasks.length uc2) (.slice ua3 R.log.length uc3) R) from SyOn.kept HS6.out (Kept.below hb))
  have HXP7 := (show Hid (PrAt w7 _ _ _) from PrAt.mono HXP6.out hb)
  have HYP7 := (show Hid (RowSh 1 w7 _ ∧ BodiesSh w7 _ MP) from ⟨HYP6.out.1.set (IntSet.below hb), HYP6.out.2.set (IntSet.below hb)⟩)
  have HG7 := (show Hid (OwnS (w4.heap.size + 1) w7 (.slice ga1 R.cells.length gc1) (.slice ga2 R.tasks.length gc2) (.slice ga3 R.log.length gc3) R) from OwnS.below HG6.out hb (Nat.le_refl _))
  have HGS7 := (show Hid (RowSh 3 w7 _ ∧ TasSh w7 _ TV ∧ EnsSh w7 _ EV) from ⟨HGS6.out.1.set (IntSet.below hb), HGS6.out.2.1.set (IntSet.below hb), HGS6.out.2.2.set (IntSet.below hb)⟩)
  clear hb
  clear ea0_6 ea1_6 eu0_6 eu1_6 eu2_6 eu3_6 ex0_6 ex1_6 eg0_6 eg1_6 eg2_6 eg3_6 za_6 zu_6 zx_6 zg_6
  clear HB6 HS6 HXP6 HYP6 HG6 HGS6
  clear HXP7
  go_wp2_with fail
  refine (markProg_tr _ _ MP _ _ HYP7.out.1 HYP7.out.2 (by omega) (by omega)).mono ?_
  rintro e w8 ⟨rfl, wm, hbm, ew⟩
  have hS : IntSet w7 w8 := by rw [ew]; exact (IntSet.below hbm).trans (wrT_set (fun a ha => prSh_ic (HYP7.out.1.set (IntSet.below hbm)) (HYP7.out.2.set (IntSet.below hbm)) a ha) _)
  have ea0_8 : w8.cell? ⟨w.heap.size, 0, none⟩ = some (.slice aPa0 p.cells.length aPc0) := by
    rw [ew, wrT_other (fun hp => by have h1 := HRP.out _ hp; first | (simp at h1; omega) | (simp at h1; done)), hbm.cell (p := ⟨w.heap.size, 0, none⟩) (by (try simp); try omega)]; exact ea0_7
  have ea1_8 : w8.cell? ⟨w.heap.size, 1, none⟩ = some (.slice aPa1 p.bodies.length aPc1) := by
    rw [ew, wrT_other (fun hp => by have h1 := HRP.out _ hp; first | (simp at h1; omega) | (simp at h1; done)), hbm.cell (p := ⟨w.heap.size, 1, none⟩) (by (try simp); try omega)]; exact ea1_7
  have za_8 : w.heap.size < w8.heap.size := by have := hS.size; omega
  have eu0_8 : w8.cell? ⟨w3.heap.size, 0, none⟩ = some (.slice ua1 R.cells.length uc1) := by
    rw [ew, wrT_other (fun hp => by have h1 := HRP.out _ hp; first | (simp at h1; omega) | (simp at h1; done)), hbm.cell (p := ⟨w3.heap.size, 0, none⟩) (by (try simp); try omega)]; exact eu0_7
  have eu1_8 : w8.cell? ⟨w3.heap.size, 1, none⟩ = some (.slice ua2 R.tasks.length uc2) := by
    rw [ew, wrT_other (fun hp => by have h1 := HRP.out _ hp; first | (simp at h1; omega) | (simp at h1; done)), hbm.cell (p := ⟨w3.heap.size, 1, none⟩) (by (try simp); try omega)]; exact eu1_7
  have eu2_8 : w8.cell? ⟨w3.heap.size, 2, none⟩ = some (.int .i64 R.clock) := by
    rw [ew, wrT_other (fun hp => by have h1 := HRP.out _ hp; first | (simp at h1; omega) | (simp at h1; done)), hbm.cell (p := ⟨w3.heap.size, 2, none⟩) (by (try simp); try omega)]; exact eu2_7
  have eu3_8 : w8.cell? ⟨w3.heap.size, 3, none⟩ = some (.slice ua3 R.log.length uc3) := by
    rw [ew, wrT_other (fun hp => by have h1 := HRP.out _ hp; first | (simp at h1; omega) | (simp at h1; done)), hbm.cell (p := ⟨w3.heap.size, 3, none⟩) (by (try simp); try omega)]; exact eu3_7
  have zu_8 : w3.heap.size < w8.heap.size := by have := hS.size; omega
  have eg0_8 : w8.cell? ⟨w5.heap.size, 0, none⟩ = some (.slice ga1 R.cells.length gc1) := by
    rw [ew, wrT_other (fun hp => by have h1 := HRP.out _ hp; first | (simp at h1; omega) | (simp at h1; done)), hbm.cell (p := ⟨w5.heap.size, 0, none⟩) (by (try simp); try omega)]; exact eg0_7
  have eg1_8 : w8.cell? ⟨w5.heap.size, 1, none⟩ = some (.slice ga2 R.tasks.length gc2) := by
    rw [ew, wrT_other (fun hp => by have h1 := HRP.out _ hp; first | (simp at h1; omega) | (simp at h1; done)), hbm.cell (p := ⟨w5.heap.size, 1, none⟩) (by (try simp); try omega)]; exact eg1_7
  have eg2_8 : w8.cell? ⟨w5.heap.size, 2, none⟩ = some (.int .i64 R.clock) := by
    rw [ew, wrT_other (fun hp => by have h1 := HRP.out _ hp; first | (simp at h1; omega) | (simp at h1; done)), hbm.cell (p := ⟨w5.heap.size, 2, none⟩) (by (try simp); try omega)]; exact eg2_7
  have eg3_8 : w8.cell? ⟨w5.heap.size, 3, none⟩ = some (.slice ga3 R.log.length gc3) := by
    rw [ew, wrT_other (fun hp => by have h1 := HRP.out _ hp; first | (simp at h1; omega) | (simp at h1; done)), hbm.cell (p := ⟨w5.heap.size, 3, none⟩) (by (try simp); try omega)]; exact eg3_7
  have zg_8 : w5.heap.size < w8.heap.size := by have := hS.size; omega
  have HB8 : Hid (Below w.heap.size w w8) := by
    have h := wrT_below (below_then HB7.out HB7.out.size hbm) (A := mtP (.slice xPa0 p.cells.length xPc0) MP) (fun a ha => by have := (HRP.out a ha).1; omega) (1)
    rw [← ew] at h; exact h
  have HS8 : Hid (SyOn (fun b => b < w3.heap.size) w8 (.slice ua1 R.cells.length uc1) (.slice ua2 R.tasks.length uc2) (.slice ua3 R.log.length uc3) R) := by
    have h := SyOn.wr (SyOn.kept HS7.out (Kept.below hbm)) (A := mtP (.slice xPa0 p.cells.length xPc0) MP) (fun a ha => by have := (HRP.out a ha).1; omega) (1)
    rw [← ew] at h; exact h
  have HG8 : Hid (OwnS (w4.heap.size + 1) w8 (.slice ga1 R.cells.length gc1) (.slice ga2 R.tasks.length gc2) (.slice ga3 R.log.length gc3) R) := by
    have h := OwnS.wr (OwnS.below HG7.out hbm (Nat.le_refl _)) (A := mtP (.slice xPa0 p.cells.length xPc0) MP) (fun a ha => by have := (HRP.out a ha).2; omega) (1)
    rw [← ew] at h; exact h
  have HGS8 := (show Hid (RowSh 3 w8 _ ∧ TasSh w8 _ TV ∧ EnsSh w8 _ EV) from ⟨HGS7.out.1.set hS, HGS7.out.2.1.set hS, HGS7.out.2.2.set hS⟩)
  clear ew hbm hS ea0_7 ea1_7 eu0_7 eu1_7 eu2_7 eu3_7 eg0_7 eg1_7 eg2_7 eg3_7 za_7 zu_7 zg_7 HB7 HS7 HG7 HGS7 HYP7 ex0_7 ex1_7 zx_7
  have hkk : ¬ (1 + ((mtP (.slice xPa0 p.cells.length xPc0) MP).length : Int) < 0) := by omega
  go_wp2_with fail
  refine (eqSys_same' R _ _ _ _ _ _ _ (by exact SyAt.mono HG8.out.on.at (by repeat (first | with_reducible exact Below.refl _ _ | (with_reducible refine Below.setCell ?_ ?hs _; case hs => ((try simp); try omega)) | (with_reducible refine Below.alloc ?_ ?hs _; case hs => ((try simp); try omega)) | with_reducible refine Below.drew ?_ | with_reducible refine below_drewN ?_ _))) (by exact SyAt.mono HS8.out.at (by repeat (first | with_reducible exact Below.refl _ _ | (with_reducible refine Below.setCell ?_ ?hs _; case hs => ((try simp); try omega)) | (with_reducible refine Below.alloc ?_ ?hs _; case hs => ((try simp); try omega)) | with_reducible refine Below.drew ?_ | with_reducible refine below_drewN ?_ _)))).mono ?_
  rintro e w9 ⟨rfl, hb⟩
  have ea0_9 : w9.cell? ⟨w.heap.size, 0, none⟩ = some (.slice aPa0 p.cells.length aPc0) := by rw [hb.cell (p := ⟨w.heap.size, 0, none⟩) (by (try simp); try omega)]; exact ea0_8
  have ea1_9 : w9.cell? ⟨w.heap.size, 1, none⟩ = some (.slice aPa1 p.bodies.length aPc1) := by rw [hb.cell (p := ⟨w.heap.size, 1, none⟩) (by (try simp); try omega)]; exact ea1_8
  have za_9 : w.heap.size < w9.heap.size := by have := hb.size; (try simp at this); omega
  have eu0_9 : w9.cell? ⟨w3.heap.size, 0, none⟩ = some (.slice ua1 R.cells.length uc1) := by rw [hb.cell (p := ⟨w3.heap.size, 0, none⟩) (by (try simp); try omega)]; exact eu0_8
  have eu1_9 : w9.cell? ⟨w3.heap.size, 1, none⟩ = some (.slice ua2 R.tasks.length uc2) := by rw [hb.cell (p := ⟨w3.heap.size, 1, none⟩) (by (try simp); try omega)]; exact eu1_8
  have eu2_9 : w9.cell? ⟨w3.heap.size, 2, none⟩ = some (.int .i64 R.clock) := by rw [hb.cell (p := ⟨w3.heap.size, 2, none⟩) (by (try simp); try omega)]; exact eu2_8
  have eu3_9 : w9.cell? ⟨w3.heap.size, 3, none⟩ = some (.slice ua3 R.log.length uc3) := by rw [hb.cell (p := ⟨w3.heap.size, 3, none⟩) (by (try simp); try omega)]; exact eu3_8
  have zu_9 : w3.heap.size < w9.heap.size := by have := hb.size; (try simp at this); omega
  have eg0_9 : w9.cell? ⟨w5.heap.size, 0, none⟩ = some (.slice ga1 R.cells.length gc1) := by rw [hb.cell (p := ⟨w5.heap.size, 0, none⟩) (by (try simp); try omega)]; exact eg0_8
  have eg1_9 : w9.cell? ⟨w5.heap.size, 1, none⟩ = some (.slice ga2 R.tasks.length gc2) := by rw [hb.cell (p := ⟨w5.heap.size, 1, none⟩) (by (try simp); try omega)]; exact eg1_8
  have eg2_9 : w9.cell? ⟨w5.heap.size, 2, none⟩ = some (.int .i64 R.clock) := by rw [hb.cell (p := ⟨w5.heap.size, 2, none⟩) (by (try simp); try omega)]; exact eg2_8
  have eg3_9 : w9.cell? ⟨w5.heap.size, 3, none⟩ = some (.slice ga3 R.log.length gc3) := by rw [hb.cell (p := ⟨w5.heap.size, 3, none⟩) (by (try simp); try omega)]; exact eg3_8
  have zg_9 : w5.heap.size < w9.heap.size := by have := hb.size; (try simp at this); omega
  have HB9 : Hid (Below w.heap.size w w9) := below_then HB8.out HB8.out.size hb
  have HS9 := (show Hid (SyOn (fun b => b < w3.heap.size) w9 (.slice ua1 R.cells.length uc1) (.slice ua2 R.tasks.length uc2) (.slice ua3 R.log.length uc3) R) from SyOn.kept HS8.out (Kept.below hb))
  have HG9 := (show Hid (OwnS (w4.heap.size + 1) w9 (.slice ga1 R.cells.length gc1) (.slice ga2 R.tasks.length gc2) (.slice ga3 R.log.length gc3) R) from OwnS.below HG8.out hb (Nat.le_refl _))
  have HGS9 := (show Hid (RowSh 3 w9 _ ∧ TasSh w9 _ TV ∧ EnsSh w9 _ EV) from ⟨HGS8.out.1.set (IntSet.below hb), HGS8.out.2.1.set (IntSet.below hb), HGS8.out.2.2.set (IntSet.below hb)⟩)
  clear hb
  clear ea0_8 ea1_8 eu0_8 eu1_8 eu2_8 eu3_8 eg0_8 eg1_8 eg2_8 eg3_8 za_8 zu_8 zg_8
  clear HB8 HS8 HG8 HGS8
  go_wp2_with fail
  refine (markSys_tr _ _ _ _ _ TV EV _ HGS9.out.1 HGS9.out.2.1 HGS9.out.2.2 (by omega) (by omega)).mono ?_
  rintro e w10 ⟨rfl, wm, hbm, ew⟩
  have hIC : ∀ a, a ∈ mtSy (.slice ga1 R.cells.length gc1) (.slice ga2 R.tasks.length gc2) (.slice ga3 R.log.length gc3) TV EV → ICell wm a := fun a ha => sySh_ic (HGS9.out.1.set (IntSet.below hbm)) (HGS9.out.2.1.set (IntSet.below hbm)) (HGS9.out.2.2.set (IntSet.below hbm)) a ha
  have hS : IntSet w9 w10 := by rw [ew]; exact (IntSet.below hbm).trans (wrT_set hIC _)
  have ea0_10 : w10.cell? ⟨w.heap.size, 0, none⟩ = some (.slice aPa0 p.cells.length aPc0) := by
    rw [ew, wrT_other (fun hp => by have h1 := HTB.out _ hp; first | (simp at h1; omega) | (simp at h1; done)), hbm.cell (p := ⟨w.heap.size, 0, none⟩) (by (try simp); try omega)]; exact ea0_9
  have ea1_10 : w10.cell? ⟨w.heap.size, 1, none⟩ = some (.slice aPa1 p.bodies.length aPc1) := by
    rw [ew, wrT_other (fun hp => by have h1 := HTB.out _ hp; first | (simp at h1; omega) | (simp at h1; done)), hbm.cell (p := ⟨w.heap.size, 1, none⟩) (by (try simp); try omega)]; exact ea1_9
  have za_10 : w.heap.size < w10.heap.size := by have := hS.size; omega
  have eu0_10 : w10.cell? ⟨w3.heap.size, 0, none⟩ = some (.slice ua1 R.cells.length uc1) := by
    rw [ew, wrT_other (fun hp => by have h1 := HTB.out _ hp; first | (simp at h1; omega) | (simp at h1; done)), hbm.cell (p := ⟨w3.heap.size, 0, none⟩) (by (try simp); try omega)]; exact eu0_9
  have eu1_10 : w10.cell? ⟨w3.heap.size, 1, none⟩ = some (.slice ua2 R.tasks.length uc2) := by
    rw [ew, wrT_other (fun hp => by have h1 := HTB.out _ hp; first | (simp at h1; omega) | (simp at h1; done)), hbm.cell (p := ⟨w3.heap.size, 1, none⟩) (by (try simp); try omega)]; exact eu1_9
  have eu2_10 : w10.cell? ⟨w3.heap.size, 2, none⟩ = some (.int .i64 R.clock) := by
    rw [ew, wrT_other (fun hp => by have h1 := HTB.out _ hp; first | (simp at h1; omega) | (simp at h1; done)), hbm.cell (p := ⟨w3.heap.size, 2, none⟩) (by (try simp); try omega)]; exact eu2_9
  have eu3_10 : w10.cell? ⟨w3.heap.size, 3, none⟩ = some (.slice ua3 R.log.length uc3) := by
    rw [ew, wrT_other (fun hp => by have h1 := HTB.out _ hp; first | (simp at h1; omega) | (simp at h1; done)), hbm.cell (p := ⟨w3.heap.size, 3, none⟩) (by (try simp); try omega)]; exact eu3_9
  have zu_10 : w3.heap.size < w10.heap.size := by have := hS.size; omega
  have eg0_10 : w10.cell? ⟨w5.heap.size, 0, none⟩ = some (.slice ga1 R.cells.length gc1) := by
    rw [ew, wrT_other (fun hp => by have h1 := HTB.out _ hp; first | (simp at h1; omega) | (simp at h1; done)), hbm.cell (p := ⟨w5.heap.size, 0, none⟩) (by (try simp); try omega)]; exact eg0_9
  have eg1_10 : w10.cell? ⟨w5.heap.size, 1, none⟩ = some (.slice ga2 R.tasks.length gc2) := by
    rw [ew, wrT_other (fun hp => by have h1 := HTB.out _ hp; first | (simp at h1; omega) | (simp at h1; done)), hbm.cell (p := ⟨w5.heap.size, 1, none⟩) (by (try simp); try omega)]; exact eg1_9
  have eg2_10 : w10.cell? ⟨w5.heap.size, 2, none⟩ = some (.int .i64 R.clock) := by
    rw [ew, wrT_other (fun hp => by have h1 := HTB.out _ hp; first | (simp at h1; omega) | (simp at h1; done)), hbm.cell (p := ⟨w5.heap.size, 2, none⟩) (by (try simp); try omega)]; exact eg2_9
  have eg3_10 : w10.cell? ⟨w5.heap.size, 3, none⟩ = some (.slice ga3 R.log.length gc3) := by
    rw [ew, wrT_other (fun hp => by have h1 := HTB.out _ hp; first | (simp at h1; omega) | (simp at h1; done)), hbm.cell (p := ⟨w5.heap.size, 3, none⟩) (by (try simp); try omega)]; exact eg3_9
  have zg_10 : w5.heap.size < w10.heap.size := by have := hS.size; omega
  have HB10 : Hid (Below w.heap.size w w10) := by
    have h := wrT_below (below_then HB9.out HB9.out.size hbm) (A := mtSy (.slice ga1 R.cells.length gc1) (.slice ga2 R.tasks.length gc2) (.slice ga3 R.log.length gc3) TV EV) (fun a ha => by have := (HTB.out a ha).1; omega) (1)
    rw [← ew] at h; exact h
  have HS10 : Hid (SyOn (fun b => b < w3.heap.size) w10 (.slice ua1 R.cells.length uc1) (.slice ua2 R.tasks.length uc2) (.slice ua3 R.log.length uc3) R) := by
    have h := SyOn.wr (SyOn.kept HS9.out (Kept.below hbm)) (A := mtSy (.slice ga1 R.cells.length gc1) (.slice ga2 R.tasks.length gc2) (.slice ga3 R.log.length gc3) TV EV) (fun a ha => by have := (HTB.out a ha).1; omega) (1)
    rw [← ew] at h; exact h
  have HM10 : Hid (HeldT w10 (mtSy (.slice ga1 R.cells.length gc1) (.slice ga2 R.tasks.length gc2) (.slice ga3 R.log.length gc3) TV EV) 1) := by
    have h := wrT_held hIC HTN.out 1
    rw [← ew] at h; exact h
  have HGS10 := (show Hid (RowSh 3 w10 _ ∧ TasSh w10 _ TV ∧ EnsSh w10 _ EV) from ⟨HGS9.out.1.set hS, HGS9.out.2.1.set hS, HGS9.out.2.2.set hS⟩)
  clear hIC
  clear ew hbm hS ea0_9 ea1_9 eu0_9 eu1_9 eu2_9 eu3_9 eg0_9 eg1_9 eg2_9 eg3_9 za_9 zu_9 zg_9 HB9 HS9 HG9 HGS9
  have hkm : ¬ (1 + ((mtSy (.slice ga1 R.cells.length gc1) (.slice ga2 R.tasks.length gc2) (.slice ga3 R.log.length gc3) TV EV).length : Int) < 0) := by omega
  go_wp2_with fail
  refine (heldSys_tr _ _ _ _ _ TV EV _ HGS10.out.1 HGS10.out.2.1 HGS10.out.2.2 HM10.out (by omega) (by omega)).mono ?_
  rintro e w11 ⟨rfl, hb⟩
  have ea0_11 : w11.cell? ⟨w.heap.size, 0, none⟩ = some (.slice aPa0 p.cells.length aPc0) := by rw [hb.cell (p := ⟨w.heap.size, 0, none⟩) (by (try simp); try omega)]; exact ea0_10
  have ea1_11 : w11.cell? ⟨w.heap.size, 1, none⟩ = some (.slice aPa1 p.bodies.length aPc1) := by rw [hb.cell (p := ⟨w.heap.size, 1, none⟩) (by (try simp); try omega)]; exact ea1_10
  have za_11 : w.heap.size < w11.heap.size := by have := hb.size; (try simp at this); omega
  have eu0_11 : w11.cell? ⟨w3.heap.size, 0, none⟩ = some (.slice ua1 R.cells.length uc1) := by rw [hb.cell (p := ⟨w3.heap.size, 0, none⟩) (by (try simp); try omega)]; exact eu0_10
  have eu1_11 : w11.cell? ⟨w3.heap.size, 1, none⟩ = some (.slice ua2 R.tasks.length uc2) := by rw [hb.cell (p := ⟨w3.heap.size, 1, none⟩) (by (try simp); try omega)]; exact eu1_10
  have eu2_11 : w11.cell? ⟨w3.heap.size, 2, none⟩ = some (.int .i64 R.clock) := by rw [hb.cell (p := ⟨w3.heap.size, 2, none⟩) (by (try simp); try omega)]; exact eu2_10
  have eu3_11 : w11.cell? ⟨w3.heap.size, 3, none⟩ = some (.slice ua3 R.log.length uc3) := by rw [hb.cell (p := ⟨w3.heap.size, 3, none⟩) (by (try simp); try omega)]; exact eu3_10
  have zu_11 : w3.heap.size < w11.heap.size := by have := hb.size; (try simp at this); omega
  have eg0_11 : w11.cell? ⟨w5.heap.size, 0, none⟩ = some (.slice ga1 R.cells.length gc1) := by rw [hb.cell (p := ⟨w5.heap.size, 0, none⟩) (by (try simp); try omega)]; exact eg0_10
  have eg1_11 : w11.cell? ⟨w5.heap.size, 1, none⟩ = some (.slice ga2 R.tasks.length gc2) := by rw [hb.cell (p := ⟨w5.heap.size, 1, none⟩) (by (try simp); try omega)]; exact eg1_10
  have eg2_11 : w11.cell? ⟨w5.heap.size, 2, none⟩ = some (.int .i64 R.clock) := by rw [hb.cell (p := ⟨w5.heap.size, 2, none⟩) (by (try simp); try omega)]; exact eg2_10
  have eg3_11 : w11.cell? ⟨w5.heap.size, 3, none⟩ = some (.slice ga3 R.log.length gc3) := by rw [hb.cell (p := ⟨w5.heap.size, 3, none⟩) (by (try simp); try omega)]; exact eg3_10
  have zg_11 : w5.heap.size < w11.heap.size := by have := hb.size; (try simp at this); omega
  have HB11 : Hid (Below w.heap.size w w11) := below_then HB10.out HB10.out.size hb
  have HS11 := (show Hid (SyOn (fun b => b < w3.heap.size) w11 (.slice ua1 R.cells.length uc1) (.slice ua2 R.tasks.length uc2) (.slice ua3 R.log.length uc3) R) from SyOn.kept HS10.out (Kept.below hb))
  have HGS11 := (show Hid (RowSh 3 w11 _ ∧ TasSh w11 _ TV ∧ EnsSh w11 _ EV) from ⟨HGS10.out.1.set (IntSet.below hb), HGS10.out.2.1.set (IntSet.below hb), HGS10.out.2.2.set (IntSet.below hb)⟩)
  have HM11 := (show Hid (HeldT w11 (mtSy (.slice ga1 R.cells.length gc1) (.slice ga2 R.tasks.length gc2) (.slice ga3 R.log.length gc3) TV EV) 1) from HeldT.below HM10.out (fun a ha => sySh_lt HGS10.out.1 HGS10.out.2.1 HGS10.out.2.2 a ha) hb)
  clear hb
  clear ea0_10 ea1_10 eu0_10 eu1_10 eu2_10 eu3_10 eg0_10 eg1_10 eg2_10 eg3_10 za_10 zu_10 zg_10
  clear HB10 HS10 HGS10 HM10
  go_wp2_with fail
  refine (toProg_th' p _ _ _ (by exact PrAt.mono HP.out (by repeat (first | with_reducible exact HB11.out | (with_reducible refine Below.setCell ?_ ?hs _; case hs => ((try simp); try omega)) | (with_reducible refine Below.alloc ?_ ?hs _; case hs => ((try simp); try omega)) | with_reducible refine Below.drew ?_ | with_reducible refine below_drewN ?_ _))) HSMP.out).mono ?_
  rintro e w12 ⟨tPv0, tPv1, rfl, ho, hb, hz⟩
  obtain ⟨tPa0, tPc0, rfl, _⟩ := ho.1.shape
  obtain ⟨tPa1, tPc1, rfl, _⟩ := ho.2.shape
  have ea0_12 : w12.cell? ⟨w.heap.size, 0, none⟩ = some (.slice aPa0 p.cells.length aPc0) := by rw [hb.cell (p := ⟨w.heap.size, 0, none⟩) (by (try simp); try omega)]; exact ea0_11
  have ea1_12 : w12.cell? ⟨w.heap.size, 1, none⟩ = some (.slice aPa1 p.bodies.length aPc1) := by rw [hb.cell (p := ⟨w.heap.size, 1, none⟩) (by (try simp); try omega)]; exact ea1_11
  have za_12 : w.heap.size < w12.heap.size := by have := hb.size; (try simp at this); omega
  have eu0_12 : w12.cell? ⟨w3.heap.size, 0, none⟩ = some (.slice ua1 R.cells.length uc1) := by rw [hb.cell (p := ⟨w3.heap.size, 0, none⟩) (by (try simp); try omega)]; exact eu0_11
  have eu1_12 : w12.cell? ⟨w3.heap.size, 1, none⟩ = some (.slice ua2 R.tasks.length uc2) := by rw [hb.cell (p := ⟨w3.heap.size, 1, none⟩) (by (try simp); try omega)]; exact eu1_11
  have eu2_12 : w12.cell? ⟨w3.heap.size, 2, none⟩ = some (.int .i64 R.clock) := by rw [hb.cell (p := ⟨w3.heap.size, 2, none⟩) (by (try simp); try omega)]; exact eu2_11
  have eu3_12 : w12.cell? ⟨w3.heap.size, 3, none⟩ = some (.slice ua3 R.log.length uc3) := by rw [hb.cell (p := ⟨w3.heap.size, 3, none⟩) (by (try simp); try omega)]; exact eu3_11
  have zu_12 : w3.heap.size < w12.heap.size := by have := hb.size; (try simp at this); omega
  have eg0_12 : w12.cell? ⟨w5.heap.size, 0, none⟩ = some (.slice ga1 R.cells.length gc1) := by rw [hb.cell (p := ⟨w5.heap.size, 0, none⟩) (by (try simp); try omega)]; exact eg0_11
  have eg1_12 : w12.cell? ⟨w5.heap.size, 1, none⟩ = some (.slice ga2 R.tasks.length gc2) := by rw [hb.cell (p := ⟨w5.heap.size, 1, none⟩) (by (try simp); try omega)]; exact eg1_11
  have eg2_12 : w12.cell? ⟨w5.heap.size, 2, none⟩ = some (.int .i64 R.clock) := by rw [hb.cell (p := ⟨w5.heap.size, 2, none⟩) (by (try simp); try omega)]; exact eg2_11
  have eg3_12 : w12.cell? ⟨w5.heap.size, 3, none⟩ = some (.slice ga3 R.log.length gc3) := by rw [hb.cell (p := ⟨w5.heap.size, 3, none⟩) (by (try simp); try omega)]; exact eg3_11
  have zg_12 : w5.heap.size < w12.heap.size := by have := hb.size; (try simp at this); omega
  have HB12 : Hid (Below w.heap.size w w12) := below_then HB11.out HB11.out.size hb
  have HS12 := (show Hid (SyOn (fun b => b < w3.heap.size) w12 (.slice ua1 R.cells.length uc1) (.slice ua2 R.tasks.length uc2) (.slice ua3 R.log.length uc3) R) from SyOn.kept HS11.out (Kept.below hb))
  have HGS12 := (show Hid (RowSh 3 w12 _ ∧ TasSh w12 _ TV ∧ EnsSh w12 _ EV) from ⟨HGS11.out.1.set (IntSet.below hb), HGS11.out.2.1.set (IntSet.below hb), HGS11.out.2.2.set (IntSet.below hb)⟩)
  have HM12 := (show Hid (HeldT w12 (mtSy (.slice ga1 R.cells.length gc1) (.slice ga2 R.tasks.length gc2) (.slice ga3 R.log.length gc3) TV EV) 1) from HeldT.below HM11.out (fun a ha => sySh_lt HGS11.out.1 HGS11.out.2.1 HGS11.out.2.2 a ha) hb)
  have HXO := (show Hid (PrS (fun _ => True) w12 _ _ _) from PrS.wide (fun _ _ => trivial) (show PrS _ w12 _ _ _ from ho))
  clear ho hz hb
  clear ea0_11 ea1_11 eu0_11 eu1_11 eu2_11 eu3_11 eg0_11 eg1_11 eg2_11 eg3_11 za_11 zu_11 zg_11
  clear HB11 HS11 HGS11 HM11
  go_wp2_with fail
  refine (sysNew_eq HRR.out _ _ _ _ (by exact PrS.kept HXO.out (Kept.below (by repeat (first | with_reducible exact Below.refl _ _ | (with_reducible refine Below.setCell ?_ ?hs _; case hs => ((try simp); try omega)) | (with_reducible refine Below.alloc ?_ ?hs _; case hs => ((try simp); try omega)) | with_reducible refine Below.drew ?_ | with_reducible refine below_drewN ?_ _))))).mono ?_
  rintro e w13 ⟨ha1, hc1, ha2, hc2, ha3, hc3, rfl, hs, hb⟩
  have ea0_13 : w13.cell? ⟨w.heap.size, 0, none⟩ = some (.slice aPa0 p.cells.length aPc0) := by rw [hb.cell (p := ⟨w.heap.size, 0, none⟩) (by (try simp); try omega)]; exact ea0_12
  have ea1_13 : w13.cell? ⟨w.heap.size, 1, none⟩ = some (.slice aPa1 p.bodies.length aPc1) := by rw [hb.cell (p := ⟨w.heap.size, 1, none⟩) (by (try simp); try omega)]; exact ea1_12
  have za_13 : w.heap.size < w13.heap.size := by have := hb.size; (try simp at this); omega
  have eu0_13 : w13.cell? ⟨w3.heap.size, 0, none⟩ = some (.slice ua1 R.cells.length uc1) := by rw [hb.cell (p := ⟨w3.heap.size, 0, none⟩) (by (try simp); try omega)]; exact eu0_12
  have eu1_13 : w13.cell? ⟨w3.heap.size, 1, none⟩ = some (.slice ua2 R.tasks.length uc2) := by rw [hb.cell (p := ⟨w3.heap.size, 1, none⟩) (by (try simp); try omega)]; exact eu1_12
  have eu2_13 : w13.cell? ⟨w3.heap.size, 2, none⟩ = some (.int .i64 R.clock) := by rw [hb.cell (p := ⟨w3.heap.size, 2, none⟩) (by (try simp); try omega)]; exact eu2_12
  have eu3_13 : w13.cell? ⟨w3.heap.size, 3, none⟩ = some (.slice ua3 R.log.length uc3) := by rw [hb.cell (p := ⟨w3.heap.size, 3, none⟩) (by (try simp); try omega)]; exact eu3_12
  have zu_13 : w3.heap.size < w13.heap.size := by have := hb.size; (try simp at this); omega
  have eg0_13 : w13.cell? ⟨w5.heap.size, 0, none⟩ = some (.slice ga1 R.cells.length gc1) := by rw [hb.cell (p := ⟨w5.heap.size, 0, none⟩) (by (try simp); try omega)]; exact eg0_12
  have eg1_13 : w13.cell? ⟨w5.heap.size, 1, none⟩ = some (.slice ga2 R.tasks.length gc2) := by rw [hb.cell (p := ⟨w5.heap.size, 1, none⟩) (by (try simp); try omega)]; exact eg1_12
  have eg2_13 : w13.cell? ⟨w5.heap.size, 2, none⟩ = some (.int .i64 R.clock) := by rw [hb.cell (p := ⟨w5.heap.size, 2, none⟩) (by (try simp); try omega)]; exact eg2_12
  have eg3_13 : w13.cell? ⟨w5.heap.size, 3, none⟩ = some (.slice ga3 R.log.length gc3) := by rw [hb.cell (p := ⟨w5.heap.size, 3, none⟩) (by (try simp); try omega)]; exact eg3_12
  have zg_13 : w5.heap.size < w13.heap.size := by have := hb.size; (try simp at this); omega
  have HB13 : Hid (Below w.heap.size w w13) := below_then HB12.out HB12.out.size hb
  have HS13 := (show Hid (SyOn (fun b => b < w3.heap.size) w13 (.slice ua1 R.cells.length uc1) (.slice ua2 R.tasks.length uc2) (.slice ua3 R.log.length uc3) R) from SyOn.kept HS12.out (Kept.below hb))
  have HGS13 := (show Hid (RowSh 3 w13 _ ∧ TasSh w13 _ TV ∧ EnsSh w13 _ EV) from ⟨HGS12.out.1.set (IntSet.below hb), HGS12.out.2.1.set (IntSet.below hb), HGS12.out.2.2.set (IntSet.below hb)⟩)
  have HM13 := (show Hid (HeldT w13 (mtSy (.slice ga1 R.cells.length gc1) (.slice ga2 R.tasks.length gc2) (.slice ga3 R.log.length gc3) TV EV) 1) from HeldT.below HM12.out (fun a ha => sySh_lt HGS12.out.1 HGS12.out.2.1 HGS12.out.2.2 a ha) hb)
  have HH13 := (show Hid (OwnS _ w13 (.slice ha1 R.cells.length hc1) (.slice ha2 R.tasks.length hc2) (.slice ha3 R.log.length hc3) R) from hs)
  clear hs hb HXO
  clear ea0_12 ea1_12 eu0_12 eu1_12 eu2_12 eu3_12 eg0_12 eg1_12 eg2_12 eg3_12 za_12 zu_12 zg_12
  clear HB12 HS12 HGS12 HM12
  go_wp2_with fail
  refine (eqSys_same' R _ _ _ _ _ _ _ (by exact SyAt.mono HH13.out.on.at (by repeat (first | with_reducible exact Below.refl _ _ | (with_reducible refine Below.setCell ?_ ?hs _; case hs => ((try simp); try omega)) | (with_reducible refine Below.alloc ?_ ?hs _; case hs => ((try simp); try omega)) | with_reducible refine Below.drew ?_ | with_reducible refine below_drewN ?_ _))) (by exact SyAt.mono HS13.out.at (by repeat (first | with_reducible exact Below.refl _ _ | (with_reducible refine Below.setCell ?_ ?hs _; case hs => ((try simp); try omega)) | (with_reducible refine Below.alloc ?_ ?hs _; case hs => ((try simp); try omega)) | with_reducible refine Below.drew ?_ | with_reducible refine below_drewN ?_ _)))).mono ?_
  rintro e w14 ⟨rfl, hb⟩
  have hr : Below w13.heap.size w13 w14 := below_then (by repeat (first | with_reducible exact Below.refl _ _ | (with_reducible refine Below.setCell ?_ ?hs _; case hs => ((try simp); try omega)) | (with_reducible refine Below.alloc ?_ ?hs _; case hs => ((try simp); try omega)) | with_reducible refine Below.drew ?_ | with_reducible refine below_drewN ?_ _)) (by (try simp); try omega) hb
  have ea0_14 : w14.cell? ⟨w.heap.size, 0, none⟩ = some (.slice aPa0 p.cells.length aPc0) := by rw [hr.cell (p := ⟨w.heap.size, 0, none⟩) (by (try simp); try omega)]; exact ea0_13
  have ea1_14 : w14.cell? ⟨w.heap.size, 1, none⟩ = some (.slice aPa1 p.bodies.length aPc1) := by rw [hr.cell (p := ⟨w.heap.size, 1, none⟩) (by (try simp); try omega)]; exact ea1_13
  have za_14 : w.heap.size < w14.heap.size := by have := hr.size; (try simp at this); omega
  have eu0_14 : w14.cell? ⟨w3.heap.size, 0, none⟩ = some (.slice ua1 R.cells.length uc1) := by rw [hr.cell (p := ⟨w3.heap.size, 0, none⟩) (by (try simp); try omega)]; exact eu0_13
  have eu1_14 : w14.cell? ⟨w3.heap.size, 1, none⟩ = some (.slice ua2 R.tasks.length uc2) := by rw [hr.cell (p := ⟨w3.heap.size, 1, none⟩) (by (try simp); try omega)]; exact eu1_13
  have eu2_14 : w14.cell? ⟨w3.heap.size, 2, none⟩ = some (.int .i64 R.clock) := by rw [hr.cell (p := ⟨w3.heap.size, 2, none⟩) (by (try simp); try omega)]; exact eu2_13
  have eu3_14 : w14.cell? ⟨w3.heap.size, 3, none⟩ = some (.slice ua3 R.log.length uc3) := by rw [hr.cell (p := ⟨w3.heap.size, 3, none⟩) (by (try simp); try omega)]; exact eu3_13
  have zu_14 : w3.heap.size < w14.heap.size := by have := hr.size; (try simp at this); omega
  have eg0_14 : w14.cell? ⟨w5.heap.size, 0, none⟩ = some (.slice ga1 R.cells.length gc1) := by rw [hr.cell (p := ⟨w5.heap.size, 0, none⟩) (by (try simp); try omega)]; exact eg0_13
  have eg1_14 : w14.cell? ⟨w5.heap.size, 1, none⟩ = some (.slice ga2 R.tasks.length gc2) := by rw [hr.cell (p := ⟨w5.heap.size, 1, none⟩) (by (try simp); try omega)]; exact eg1_13
  have eg2_14 : w14.cell? ⟨w5.heap.size, 2, none⟩ = some (.int .i64 R.clock) := by rw [hr.cell (p := ⟨w5.heap.size, 2, none⟩) (by (try simp); try omega)]; exact eg2_13
  have eg3_14 : w14.cell? ⟨w5.heap.size, 3, none⟩ = some (.slice ga3 R.log.length gc3) := by rw [hr.cell (p := ⟨w5.heap.size, 3, none⟩) (by (try simp); try omega)]; exact eg3_13
  have zg_14 : w5.heap.size < w14.heap.size := by have := hr.size; (try simp at this); omega
  have eh0_14 : w14.cell? ⟨w13.heap.size, 0, none⟩ = some (.slice ha1 R.cells.length hc1) := by rw [hb.cell (p := ⟨w13.heap.size, 0, none⟩) (by (try simp); try omega)]; simp [go_sem]
  have eh1_14 : w14.cell? ⟨w13.heap.size, 1, none⟩ = some (.slice ha2 R.tasks.length hc2) := by rw [hb.cell (p := ⟨w13.heap.size, 1, none⟩) (by (try simp); try omega)]; simp [go_sem]
  have eh2_14 : w14.cell? ⟨w13.heap.size, 2, none⟩ = some (.int .i64 R.clock) := by rw [hb.cell (p := ⟨w13.heap.size, 2, none⟩) (by (try simp); try omega)]; simp [go_sem]
  have eh3_14 : w14.cell? ⟨w13.heap.size, 3, none⟩ = some (.slice ha3 R.log.length hc3) := by rw [hb.cell (p := ⟨w13.heap.size, 3, none⟩) (by (try simp); try omega)]; simp [go_sem]
  have zh_14 : w13.heap.size < w14.heap.size := by have := hb.size; (try simp at this); omega
  have HB14 : Hid (Below w.heap.size w w14) := below_then HB13.out HB13.out.size hr
  have HS14 := (show Hid (SyOn (fun b => b < w3.heap.size) w14 (.slice ua1 R.cells.length uc1) (.slice ua2 R.tasks.length uc2) (.slice ua3 R.log.length uc3) R) from SyOn.kept HS13.out (Kept.below hr))
  have HGS14 := (show Hid (RowSh 3 w14 _ ∧ TasSh w14 _ TV ∧ EnsSh w14 _ EV) from ⟨HGS13.out.1.set (IntSet.below hr), HGS13.out.2.1.set (IntSet.below hr), HGS13.out.2.2.set (IntSet.below hr)⟩)
  have HM14 := (show Hid (HeldT w14 (mtSy (.slice ga1 R.cells.length gc1) (.slice ga2 R.tasks.length gc2) (.slice ga3 R.log.length gc3) TV EV) 1) from HeldT.below HM13.out (fun a ha => sySh_lt HGS13.out.1 HGS13.out.2.1 HGS13.out.2.2 a ha) hr)
  clear hb
  clear ea0_13 ea1_13 eu0_13 eu1_13 eu2_13 eu3_13 eg0_13 eg1_13 eg2_13 eg3_13 za_13 zu_13 zg_13
  clear HB13 HS13 HGS13 HM13
  clear hr
  clear HH13
  go_wp2_with fail
  refine (heldSys_tr _ _ _ _ _ TV EV _ HGS14.out.1 HGS14.out.2.1 HGS14.out.2.2 HM14.out (by omega) (by omega)).mono ?_
  rintro e w15 ⟨rfl, hb⟩
  have ea0_15 : w15.cell? ⟨w.heap.size, 0, none⟩ = some (.slice aPa0 p.cells.length aPc0) := by rw [hb.cell (p := ⟨w.heap.size, 0, none⟩) (by (try simp); try omega)]; exact ea0_14
  have ea1_15 : w15.cell? ⟨w.heap.size, 1, none⟩ = some (.slice aPa1 p.bodies.length aPc1) := by rw [hb.cell (p := ⟨w.heap.size, 1, none⟩) (by (try simp); try omega)]; exact ea1_14
  have za_15 : w.heap.size < w15.heap.size := by have := hb.size; (try simp at this); omega
  have eu0_15 : w15.cell? ⟨w3.heap.size, 0, none⟩ = some (.slice ua1 R.cells.length uc1) := by rw [hb.cell (p := ⟨w3.heap.size, 0, none⟩) (by (try simp); try omega)]; exact eu0_14
  have eu1_15 : w15.cell? ⟨w3.heap.size, 1, none⟩ = some (.slice ua2 R.tasks.length uc2) := by rw [hb.cell (p := ⟨w3.heap.size, 1, none⟩) (by (try simp); try omega)]; exact eu1_14
  have eu2_15 : w15.cell? ⟨w3.heap.size, 2, none⟩ = some (.int .i64 R.clock) := by rw [hb.cell (p := ⟨w3.heap.size, 2, none⟩) (by (try simp); try omega)]; exact eu2_14
  have eu3_15 : w15.cell? ⟨w3.heap.size, 3, none⟩ = some (.slice ua3 R.log.length uc3) := by rw [hb.cell (p := ⟨w3.heap.size, 3, none⟩) (by (try simp); try omega)]; exact eu3_14
  have zu_15 : w3.heap.size < w15.heap.size := by have := hb.size; (try simp at this); omega
  have eg0_15 : w15.cell? ⟨w5.heap.size, 0, none⟩ = some (.slice ga1 R.cells.length gc1) := by rw [hb.cell (p := ⟨w5.heap.size, 0, none⟩) (by (try simp); try omega)]; exact eg0_14
  have eg1_15 : w15.cell? ⟨w5.heap.size, 1, none⟩ = some (.slice ga2 R.tasks.length gc2) := by rw [hb.cell (p := ⟨w5.heap.size, 1, none⟩) (by (try simp); try omega)]; exact eg1_14
  have eg2_15 : w15.cell? ⟨w5.heap.size, 2, none⟩ = some (.int .i64 R.clock) := by rw [hb.cell (p := ⟨w5.heap.size, 2, none⟩) (by (try simp); try omega)]; exact eg2_14
  have eg3_15 : w15.cell? ⟨w5.heap.size, 3, none⟩ = some (.slice ga3 R.log.length gc3) := by rw [hb.cell (p := ⟨w5.heap.size, 3, none⟩) (by (try simp); try omega)]; exact eg3_14
  have zg_15 : w5.heap.size < w15.heap.size := by have := hb.size; (try simp at this); omega
  have eh0_15 : w15.cell? ⟨w13.heap.size, 0, none⟩ = some (.slice ha1 R.cells.length hc1) := by rw [hb.cell (p := ⟨w13.heap.size, 0, none⟩) (by (try simp); try omega)]; exact eh0_14
  have eh1_15 : w15.cell? ⟨w13.heap.size, 1, none⟩ = some (.slice ha2 R.tasks.length hc2) := by rw [hb.cell (p := ⟨w13.heap.size, 1, none⟩) (by (try simp); try omega)]; exact eh1_14
  have eh2_15 : w15.cell? ⟨w13.heap.size, 2, none⟩ = some (.int .i64 R.clock) := by rw [hb.cell (p := ⟨w13.heap.size, 2, none⟩) (by (try simp); try omega)]; exact eh2_14
  have eh3_15 : w15.cell? ⟨w13.heap.size, 3, none⟩ = some (.slice ha3 R.log.length hc3) := by rw [hb.cell (p := ⟨w13.heap.size, 3, none⟩) (by (try simp); try omega)]; exact eh3_14
  have zh_15 : w13.heap.size < w15.heap.size := by have := hb.size; (try simp at this); omega
  have HB15 : Hid (Below w.heap.size w w15) := below_then HB14.out HB14.out.size hb
  have HS15 := (show Hid (SyOn (fun b => b < w3.heap.size) w15 (.slice ua1 R.cells.length uc1) (.slice ua2 R.tasks.length uc2) (.slice ua3 R.log.length uc3) R) from SyOn.kept HS14.out (Kept.below hb))
  have HGS15 := (show Hid (RowSh 3 w15 _ ∧ TasSh w15 _ TV ∧ EnsSh w15 _ EV) from ⟨HGS14.out.1.set (IntSet.below hb), HGS14.out.2.1.set (IntSet.below hb), HGS14.out.2.2.set (IntSet.below hb)⟩)
  have HM15 := (show Hid (HeldT w15 (mtSy (.slice ga1 R.cells.length gc1) (.slice ga2 R.tasks.length gc2) (.slice ga3 R.log.length gc3) TV EV) 1) from HeldT.below HM14.out (fun a ha => sySh_lt HGS14.out.1 HGS14.out.2.1 HGS14.out.2.2 a ha) hb)
  clear hb
  clear ea0_14 ea1_14 eu0_14 eu1_14 eu2_14 eu3_14 eg0_14 eg1_14 eg2_14 eg3_14 eh0_14 eh1_14 eh2_14 eh3_14 za_14 zu_14 zg_14 zh_14
  clear HB14 HS14 HGS14 HM14
  go_wp2_with fail
  go_ret
  exact ⟨rfl, HB15.out⟩
end Go.Proofs.Ytgbgjljflgbcaaa
