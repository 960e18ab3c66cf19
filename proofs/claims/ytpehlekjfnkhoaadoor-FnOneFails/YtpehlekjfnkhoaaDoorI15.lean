/-
  The law FnOneFails answers true at whatever bytes.
-/
import Derived.Test.YtpehlekjfnkhoaaDoorI9
import Derived.Test.YtpehlekjfnkhoaaDoorI11
import Derived.Test.YtpehlekjfnkhoaaDoorI12
import Derived.Test.YtpehlekjfnkhoaaDoorI14
import Derived.Test.YtpehlekjfnkhoaaDoorO1
namespace Go.Proofs.YtpehlekjfnkhoaaDoor
open Go.RowKit
set_option linter.unusedSimpArgs false
set_option linter.unusedVariables false
set_option maxRecDepth 20000

theorem IntsAt.ont {w : World} {v : Value} {xs : List Int} (h : IntsAt w v xs) : IntsOn (fun _ => True) w v xs := by
  obtain ⟨a, cap, e, hm, hc⟩ := h
  refine ⟨a, cap, e, hm, fun i hi => ?_⟩
  obtain ⟨b, off, e, h1, h2⟩ := hc i hi
  exact ⟨b, off, e, trivial, h1, h2⟩
theorem DeedsAt.ont {w : World} {v : Value} {xs : List De} (h : DeedsAt w v xs) : DeedsOn (fun _ => True) w v xs := by
  obtain ⟨a, cap, e, hm, hc⟩ := h
  refine ⟨a, cap, e, hm, fun i hi => ?_⟩
  obtain ⟨b, off, e, h1, h2⟩ := hc i hi
  exact ⟨b, off, e, trivial, h1, h2⟩
theorem ActsAt.ont {w : World} {v : Value} {xs : List Ac} (h : ActsAt w v xs) : ActsOn (fun _ => True) w v xs := by
  obtain ⟨a, cap, e, hm, hc⟩ := h
  refine ⟨a, cap, e, hm, fun i hi => ?_⟩
  obtain ⟨b, off, dv, kv, e, h1, c0, c1, c2, c3, hd, hk⟩ := hc i hi
  exact ⟨b, off, dv, kv, e, trivial, h1, c0, c1, c2, c3, hd.ont, hk.ont⟩
theorem row_heads {W : World} {B g5 m c5 : Nat} {N : List Value} (hr : W.ownsRow B 31 1 (.slice (some ⟨g5, 0, none⟩) m c5) m N) (h0 : 0 < N.length) :
    B ≤ g5 ∧ g5 < W.heap.size ∧ (∃ cur, W.heap[g5]? = some (.cells cur 31 (0, 0))) ∧ (∀ i, i < N.length → W.cell? ⟨g5, i, none⟩ = N[i]?) ∧ W.frozen? ⟨g5, 0, none⟩ = false := by
  have hc := fun i hi => own_cell hr i hi
  rcases hr.2 with ⟨h, _⟩ | ⟨g, cap, cur, e, hb, hg, h1, h2, h3, h4⟩
  · cases h
  · injection e with e1 _ _
    injection e1 with e2
    injection e2 with e3 _ _
    subst e3
    refine ⟨hb, (Array.getElem?_eq_some_iff.1 hg).1, ⟨cur, hg⟩, fun i hi => ?_, by simp [World.frozen?, hg]⟩
    obtain ⟨g', c', e', _, _, hcc⟩ := hc i hi
    injection e' with e1 _ _
    injection e1 with e2
    injection e2 with e3 _ _
    subst e3
    rcases hcc i with q | q
    · exact q
    · omega
theorem fail_bodies {V W W' : World} {B g5 c5 : Nat} {N : List Value} {bs : List (List Ac)} {x : Value} (hr : W.ownsRow B 31 1 (.slice (some ⟨g5, 0, none⟩) bs.length c5) bs.length N) (hN : N.length = bs.length) (h0 : 0 < bs.length) (h63 : bs.length ≤ 10)
    (hb : Below W.heap.size W W') (hin : ∀ i, (hi : i < N.length) → ActsAt V N[i] (nth [] bs i)) (hVW : Below V.heap.size V W) (hVB : V.heap.size ≤ B) (ha : ActsAt (W'.setCell ⟨g5, 0, none⟩ x) x (nth [] bs 0 ++ [failA])) :
    BodiesAt (W'.setCell ⟨g5, 0, none⟩ x) (.slice (some ⟨g5, 0, none⟩) bs.length c5) (bs.set 0 (nth [] bs 0 ++ [failA])) := by
  obtain ⟨k1, k2, ⟨cur, k3⟩, k4, k5⟩ := row_heads hr (by omega)
  have hlt : g5 < W'.heap.size := Nat.lt_of_lt_of_le k2 hb.size
  have hBV : Below V.heap.size V (W'.setCell ⟨g5, 0, none⟩ x) := (hVW.trans (hb.mono hVW.size)).setCell (by simp; omega) _
  refine ⟨_, c5, by rw [List.length_set], by rw [List.length_set]; omega, fun i hi => ?_⟩
  rw [List.length_set] at hi
  by_cases q : i = 0
  · subst q
    refine ⟨g5, 0, x, rfl, by simpa using hlt, ?_, ?_⟩
    · refine World.cell?_setCell_same W' ⟨g5, 0, none⟩ x (u := N[0]'(by omega)) ?_
      rw [hb.cell (p := ⟨g5, 0, none⟩) k2, k4 0 (by omega)]
      simp
    · have : nth [] (bs.set 0 (nth [] bs 0 ++ [failA])) 0 = nth [] bs 0 ++ [failA] := by
        rw [nth_eq [] _ 0 (by simpa using h0)]; simp
      rw [this]; exact ha
  · refine ⟨g5, 0, N[i]'(by omega), rfl, by simpa using hlt, ?_, ?_⟩
    · rw [Nat.zero_add, cell_set_other _ _ _ _ _ (by intro e; injection e with e1 e2; omega), hb.cell (p := ⟨g5, i, none⟩) k2, k4 i (by omega)]
      simp [hN, hi]
    · have : nth [] (bs.set 0 (nth [] bs 0 ++ [failA])) i = nth [] bs i := by
        rw [nth_eq [] _ i (by simpa using hi), nth_eq [] bs i hi]; simp [List.getElem_set, q, Ne.symm q]
      rw [this]
      exact (hin i (by omega)).mono hBV
theorem fail_acts {V W : World} {B g5 g10 c10 : Nat} {L : List (Ac × Value × Value)} {cur : Array Value} (hr : W.ownsRow B 34 4 (.slice (some ⟨g10, 0, none⟩) (L.length + 1) c10) (L.length + 1) (acCells L ++ [.int .i64 3, .slice none 0 0, .slice none 0 0, .int .i64 0])) (h5 : W.heap[g5]? = some (.cells cur 31 (0, 0)))
    (hin : ∀ x, x ∈ L → DeedsAt V x.2.1 x.1.ds ∧ IntsAt V x.2.2 x.1.ks) (hb : Below V.heap.size V (W.setCell ⟨g5, 0, none⟩ (.slice (some ⟨g10, 0, none⟩) (L.length + 1) c10))) :
    ActsAt (W.setCell ⟨g5, 0, none⟩ (.slice (some ⟨g10, 0, none⟩) (L.length + 1) c10)) (.slice (some ⟨g10, 0, none⟩) (L.length + 1) c10) (L.map (·.1) ++ [failA]) := by
  have h1 := own_tag hr (TagKept.set (o := 0) (x := .slice (some ⟨g10, 0, none⟩) (L.length + 1) c10) h5) (by decide)
  have h2 := rowActs_at (L := L ++ [(failA, .slice none 0 0, .slice none 0 0)]) (by rw [acCells_snoc, List.length_append]; exact h1) (fun x hx => by
    rcases List.mem_append.1 hx with q | q
    · exact ⟨(hin x q).1.mono hb, (hin x q).2.mono hb⟩
    · rcases List.mem_singleton.1 q with rfl
      exact ⟨⟨none, 0, rfl, by simp [failA], fun i hi => absurd hi (by simp [failA])⟩, ⟨none, 0, rfl, by simp [failA], fun i hi => absurd hi (by simp [failA])⟩⟩)
  rw [List.map_append] at h2
  exact h2

theorem lqInts_same (xs : List Int) (v v' : Value) (w : World) (h : IntsAt w v xs) (h' : IntsAt w v' xs) :
    Calls Tryd.prog 8 #[v, v'] w fun r w' => r = .returned (.bool true) ∧ Below w.heap.size w w' := by
  refine (lqInts_any xs xs v v' w h h').mono ?_
  rintro e w' ⟨rfl, hb⟩
  exact ⟨by simp, hb⟩

set_option maxHeartbeats 8000000 in
theorem fnOneFails_walk (a : Option Addr) (n cap : Nat) (aN aF : Addr) (w : World) (hE : ErrGl w aN aF) (h : Bytes w a n) (hc : n ≤ cap) (hn : cap ≤ 9223372036854775807) :
    Calls Tryd.prog 3 #[.slice a n cap] w fun e w' => e = .returned (.bool true) ∧ Below w.heap.size w w' := by
  by_cases hbig : 1048576 < n
  · have hb' : (1048576 : Int) < (n : Int) := by omega
    clear h hE
    go_enter Tryd.func3, Tryd.ntmps3
    go_wp2_with fail
    go_ret
    exact ⟨rfl, Below.refl _ _⟩
  have hb' : ¬ (1048576 : Int) < (n : Int) := by omega
  have HY := (show Hid (Bytes _ _ _) from h)
  have HE := (show Hid (ErrGl _ _ _) from hE)
  clear h hE
  go_enter Tryd.func3, Tryd.ntmps3
  go_wp2_with fail
  refine (drawOneRun_any a n cap w HY.out hc hn).mono ?_
  rintro e w1 ⟨pr, cv, bv, rfl, hI, hB, hb1⟩
  obtain ⟨ac, cc, rfl, _⟩ := hI.shape
  obtain ⟨ab, cb, rfl, _⟩ := hB.shape
  have HS : Hid (PBox (w1.alloc (.cells #[.slice ac pr.cells.length cc, .slice ab pr.bodies.length cb] 26)) w1.heap.size (.slice ac pr.cells.length cc) (.slice ab pr.bodies.length cb) ∧ IntsAt (w1.alloc (.cells #[.slice ac pr.cells.length cc, .slice ab pr.bodies.length cb] 26)) (.slice ac pr.cells.length cc) pr.cells ∧ BodiesAt (w1.alloc (.cells #[.slice ac pr.cells.length cc, .slice ab pr.bodies.length cb] 26)) (.slice ab pr.bodies.length cb) pr.bodies ∧ Below w.heap.size w (w1.alloc (.cells #[.slice ac pr.cells.length cc, .slice ab pr.bodies.length cb] 26))) :=
    ⟨heap_alloc_new w1 _, hI.mono ((Below.refl _ _).alloc (Nat.le_refl _) _), hB.mono ((Below.refl _ _).alloc (Nat.le_refl _) _), hb1.alloc hb1.size _⟩
  clear hI hB hb1 HY
  go_wp2_with fail
  generalize w1.alloc (.cells #[.slice ac pr.cells.length cc, .slice ab pr.bodies.length cb] 26) = V at HS ⊢
  generalize w1.heap.size = P at HS ⊢
  obtain ⟨hP, hI, hB, hL⟩ := HS.out
  have hPlt := hP.lt
  have HI := (show Hid (IntsAt _ _ _) from hI)
  have HB := (show Hid (BodiesAt _ _ _) from hB)
  have HL := (show Hid (Below _ _ _) from hL)
  have hsz := hL.size
  have HEV := (show Hid (ErrGl _ _ _) from HE.out.mono hL)
  have HPX := (show Hid (PBox _ _ _ _) from hP)
  clear HS hP hI hB hL HE
  obtain ⟨R, B1, B2, hR⟩ : ∃ R B1 B2, oneX pr = (R, B1, B2) := ⟨_, _, _, rfl⟩
  have HR := (show Hid (_ = _) from hR)
  clear hR
  refine (sOneRun_eq HR.out _ _ _ HI.out HB.out).mono ?_
  rintro e w2 ⟨a2, k2, rfl, ho2, hb2⟩
  have c20 : w2.cell? ⟨P, 0, none⟩ = some (.slice ac pr.cells.length cc) := (hb2.cell (p := ⟨P, 0, none⟩) hPlt).trans HPX.out.cells.1
  have c21 : w2.cell? ⟨P, 1, none⟩ = some (.slice ab pr.bodies.length cb) := (hb2.cell (p := ⟨P, 1, none⟩) hPlt).trans HPX.out.cells.2.1
  have H2 := (show Hid (Below _ _ _) from hb2)
  have HO2 : Hid (IntsAt w2 (.slice a2 R.length k2) R) := ho2.at
  clear hb2 ho2
  go_wp2_with fail
  refine (oneRun_eq HR.out _ _ aN aF _ (HI.out.mono H2.out) (HB.out.mono H2.out) (HEV.out.mono H2.out)).mono ?_
  rintro e w3 ⟨a3, k3, rfl, ho3, hb3⟩
  have H3 : Hid (Below V.heap.size V w3) := H2.out.trans (hb3.mono H2.out.size)
  have HO3 : Hid (IntsAt w3 (.slice a3 R.length k3) R) := ho3.at
  have HO23 : Hid (IntsAt w3 (.slice a2 R.length k2) R) := HO2.out.mono hb3
  have HP3 : Hid (PBox w3 P (.slice ac pr.cells.length cc) (.slice ab pr.bodies.length cb)) := HPX.out.heap (H3.out.block _ hPlt)
  have hs3 : V.heap.size ≤ w3.heap.size := H3.out.size
  clear hb3 ho3 c20 c21 H2 HO2
  cases B2
  · cases B1
    all_goals
      clear HPX HI HB HEV HP3
      go_wp2_with fail
      refine (lqInts_same R _ _ _ HO3.out HO23.out).mono ?_
      rintro e w4 ⟨rfl, hb4⟩
      have H4 : Hid (Below w.heap.size w w4) := (HL.out.trans (H3.out.mono hsz)).trans (hb4.mono (Nat.le_trans hsz hs3))
      have HO4 : Hid (IntsAt w4 (.slice a3 R.length k3) R) := HO3.out.mono hb4
      have HO24 : Hid (IntsAt w4 (.slice a2 R.length k2) R) := HO23.out.mono hb4
      have hs4 : w.heap.size ≤ w4.heap.size := H4.out.size
      clear hb4
      go_wp2_with fail
      refine (lqInts_same R _ _ _ HO4.out HO24.out).mono ?_
      rintro e w5 ⟨rfl, hb5⟩
      have H5 : Hid (Below w.heap.size w w5) := H4.out.trans (hb5.mono hs4)
      clear hb5
      go_wp2_with fail
      go_ret
      exact ⟨rfl, H5.out⟩
  · obtain ⟨hok, hrun⟩ := oneX_told (p := pr) (by rw [HR.out])
    have hR1 : (bodyD pr.bodies 4 0 pr.cells).2 = R := by
      by_cases q : (nth [] pr.bodies 0).length < 4
      · rw [← (oneX_fail hok q hrun).2.1, HR.out]
      · have := HR.out
        unfold oneX at this
        rw [if_pos hok] at this
        rcases hrun with z | z
        · rw [if_pos z] at this; exact (Prod.mk.inj this).1
        · rw [if_neg (by omega), if_pos z] at this; exact (Prod.mk.inj this).1
    have HX : Hid ((nth [] pr.bodies 0).length < 4 → oneX (failP pr) = (R, true, true)) := fun q => by rw [(oneX_fail hok q hrun).1, hR1]
    obtain ⟨hz1, hz2, hz3, hz4⟩ := ok_sizes hok
    have hb4 := hz4 0 (by omega)
    have HRUN := (show Hid (okB pr = true ∧ _) from ⟨hok, hrun⟩)
    clear hok hrun hR1 hz4 HR
    obtain ⟨N, b, off, cap', hNl, hbv, hbl, h1c, hsr, hin⟩ := bodies_src (HB.out.mono H3.out) (by omega)
    injection hbv with ev1 ev2 ev3
    subst ev1 ev3
    obtain ⟨L, aa, ca, hLm, hN0, hLl, hsrc, hinn⟩ := acts_src (hin 0 (by omega)).ont
    have hLlen : (nth [] pr.bodies 0).length = L.length := by rw [hLm]; simp
    have c3b : w3.cell? ⟨b, off, none⟩ = some (.slice aa L.length ca) := by
      have := hsr 0 (N[0]'(by omega)) (by simp)
      rw [Go.WideShapes.add_plain] at this
      rw [← hN0]; exact this
    have HNL := (show Hid (N.length = pr.bodies.length) from hNl)
    have HN0 : Hid (N[0]? = some (.slice aa L.length ca)) := by unfold Hid; rw [← hN0]; simp
    have H1C := (show Hid (∀ u, u ∈ N → u.oneCell' = true) from h1c)
    have HSR := (show Hid (∀ j u, N[j]? = some u → w3.cell? ((⟨b, off, none⟩ : Addr).add j) = some u) from hsr)
    have HIN := (show Hid (∀ i, (hi : i < N.length) → ActsAt w3 N[i] (nth [] pr.bodies i)) from hin)
    have HLM := (show Hid (nth [] pr.bodies 0 = L.map (·.1)) from hLm)
    have HSRC : Hid (L.length = 0 ∨ ∃ b off, aa = some ⟨b, off, none⟩ ∧ b < w3.heap.size ∧ ∀ j u, (acCells L)[j]? = some u → w3.cell? ((⟨b, off, none⟩ : Addr).add j) = some u) := by
      rcases hsrc with q | ⟨b, off, e, _, q1, q2⟩
      · exact .inl q
      · exact .inr ⟨b, off, e, q1, q2⟩
    have HINN : Hid (∀ x, x ∈ L → DeedsAt w3 x.2.1 x.1.ds ∧ IntsAt w3 x.2.2 x.1.ks) := fun x hx => ⟨(hinn x hx).1.at, (hinn x hx).2.at⟩
    have HACL : Hid ((acCells L).length = L.length * 4 ∧ ∀ u, u ∈ acCells L → u.oneCell' = true) := by
      constructor
      · exact acCells_len L
      · intro u hu
        obtain ⟨x, hx, hu⟩ := List.mem_flatMap.1 hu
        obtain ⟨d1, d2, hd, _⟩ := (hinn x hx).1.shape
        obtain ⟨k1, k2, hk, _⟩ := (hinn x hx).2.shape
        simp only [hd, hk, List.mem_cons, List.not_mem_nil, or_false] at hu
        rcases hu with rfl | rfl | rfl | rfl <;> rfl
    have hPl3 : P < w3.heap.size := HP3.out.lt
    have HC3B := (show Hid (_ = _) from c3b)
    clear hNl h1c hsr hin hLm hN0 hsrc hinn c3b hLl
    cases B1
    all_goals
      go_wp2_with fail
      refine (lqInts_same R _ _ _ HO3.out HO23.out).mono ?_
      rintro e w4 ⟨rfl, hb4'⟩
      have HB34 := (show Hid (Below w3.heap.size w3 w4) from hb4')
      have H4 : Hid (Below V.heap.size V w4) := H3.out.trans (hb4'.mono hs3)
      have HP4 : Hid (PBox w4 P (.slice ac pr.cells.length cc) (.slice (some ⟨b, off, none⟩) pr.bodies.length cb)) := HP3.out.heap (hb4'.block _ hPl3)
      have HS4 : Hid (∀ j u, N[j]? = some u → w4.cell? ((⟨b, off, none⟩ : Addr).add j) = some u) := fun j u hj => by
        have q := HSR.out j u hj
        rw [Go.WideShapes.add_plain] at q ⊢
        rw [hb4'.cell (p := ⟨b, _, none⟩) hbl]; exact q
      have hbl4 : b < w4.heap.size := Nat.lt_of_lt_of_le hbl hb4'.size
      clear hb4'
      go_wp2_with fail
      refine fail_reg8 w4 P ac pr.cells.length cc b off cb pr.bodies.length N HP4 HNL H1C HS4 hbl4 (by omega) (by omega) _ _ _ _ _ _ _ _ _ _ _ _ _ _ _ _ _ _ _ _ _ _ _ _ _ _ _ _ _ _ _ _ _ _ _ _ _ _ _ _ _ _ _ _ _ _ _ _ _ _ _ _ _ _ _ _ _ _ _ _ _ _ _ _ _ _ _ _ _ _ _ _ _ _ _ _ _ _ _ _ _ _ _ _ _ _ _ _ _ _ _ _ _ _ _ _ _ _ _ _ _ _ ?_
      intro v62 v63 v64 v65 v66 v67 v68 W G g5 c5 hG hbx hrow hbel
      obtain ⟨k1, k2, ⟨cur, k3'⟩, k4, k5⟩ := row_heads hrow (by have := HNL.out; omega)
      have HK3 := (show Hid (_ = _) from k3')
      have HRW := (show Hid (World.ownsRow _ _ _ _ _ _ _) from hrow)
      have HBW := (show Hid (Below _ _ _) from hbel)
      have HGX := (show Hid (PBox _ _ _ _) from hbx)
      have HPW : Hid (PBox W P (.slice ac pr.cells.length cc) (.slice (some ⟨b, off, none⟩) pr.bodies.length cb)) := HP4.out.heap (hbel.block _ (by have := HP4.out.lt; exact this))
      have HCB : Hid (W.cell? ⟨b, off, none⟩ = some (.slice aa L.length ca)) := (hbel.cell (p := ⟨b, off, none⟩) hbl4).trans ((HB34.out.cell (p := ⟨b, off, none⟩) hbl).trans HC3B.out)
      have cg5 : W.cell? ⟨g5, 0, none⟩ = some (.slice aa L.length ca) := (k4 0 (by have := HNL.out; omega)).trans HN0.out
      have HFZ := (show Hid (_ = false) from k5)
      have HWL : Hid (Below w3.heap.size w3 W) := HB34.out.trans (hbel.mono HB34.out.size)
      have hbW : b < W.heap.size := Nat.lt_of_lt_of_le hbl HWL.out.size
      obtain ⟨g0, g1, _, _⟩ := hbx.cells
      have hGlt := hbx.lt
      have hm0 : (0 : Int) < (pr.bodies.length : Int) := by omega
      clear hG hbx hrow hbel k3' k4 k5 HP4 HS4 H4 H1C HSR
      by_cases hl4 : 4 ≤ L.length
      · have hl4' : (L.length : Int) ≥ 4 := by omega
        clear hl4
        go_wp2_with fail
        go_ret
        exact ⟨rfl, HL.out.trans ((H3.out.trans (HWL.out.mono hs3)).mono hsz)⟩
      · have hl4' : ¬ (L.length : Int) ≥ 4 := by omega
        have HQ : Hid (oneX (failP pr) = (R, true, true)) := HX.out (by omega)
        have HR11 : Hid (R11 W P G b off g5 pr.bodies.length cb c5 L.length ca (.slice ac pr.cells.length cc) (.slice ac pr.cells.length cc) aa) := ⟨HPW.out, HGX.out, HCB.out, cg5, hbW, k2, HFZ.out⟩
        have HSW : Hid (L.length = 0 ∨ ∃ b off, aa = some ⟨b, off, none⟩ ∧ b < W.heap.size ∧ ∀ j u, (acCells L)[j]? = some u → W.cell? ((⟨b, off, none⟩ : Addr).add j) = some u) := by
          rcases HSRC.out with q | ⟨b', off', e, q1, q2⟩
          · exact .inl q
          · refine .inr ⟨b', off', e, Nat.lt_of_lt_of_le q1 HWL.out.size, fun j u hj => ?_⟩
            have h1 := q2 j u hj
            rw [Go.WideShapes.add_plain] at h1 ⊢
            rw [HWL.out.cell (p := ⟨b', _, none⟩) q1]; exact h1
        go_wp2_with fail
        refine fail_reg11 W P G b off g5 pr.bodies.length cb c5 ca _ _ aa L HR11 HACL HSW (by omega) (by omega) (by omega) _ _ _ _ _ _ _ _ _ _ _ _ _ _ _ _ _ _ _ _ _ _ _ _ _ _ _ _ _ _ _ _ _ _ _ _ _ _ _ _ _ _ _ _ _ _ _ _ _ _ _ _ _ _ _ _ _ _ _ _ _ _ _ _ _ _ _ _ _ _ _ _ _ _ _ _ _ _ _ _ _ _ _ _ _ _ _ _ _ _ _ _ _ _ _ _ _ _ _ _ _ ?_
        intro v75 v76 v77 v78 v79 v80 v81 v82 v83 v84 v85 v86 W2 g10 c10 hrow2 hbel2
        have h5W2 : W2.heap[g5]? = some (.cells cur 31 (0, 0)) := (hbel2.block _ k2).trans HK3.out
        have hbelS : Below w3.heap.size w3 (W2.setCell ⟨g5, 0, none⟩ (.slice (some ⟨g10, 0, none⟩) (L.length + 1) c10)) := (HWL.out.trans (hbel2.mono HWL.out.size)).setCell (by simp; have := HB34.out.size; omega) _
        have hact := fail_acts hrow2 h5W2 HINN.out hbelS
        rw [← HLM.out] at hact
        have hbod := fail_bodies HRW.out HNL.out (by omega) (by omega) hbel2 HIN.out HWL.out (Nat.le_trans HB34.out.size k1 |> fun _ => HB34.out.size) hact
        have HZ : Hid (BodiesAt (W2.setCell ⟨g5, 0, none⟩ (.slice (some ⟨g10, 0, none⟩) (L.length + 1) c10)) (.slice (some ⟨g5, 0, none⟩) pr.bodies.length c5) (failP pr).bodies ∧ Below w3.heap.size w3 (W2.setCell ⟨g5, 0, none⟩ (.slice (some ⟨g10, 0, none⟩) (L.length + 1) c10)) ∧ PBox (W2.setCell ⟨g5, 0, none⟩ (.slice (some ⟨g10, 0, none⟩) (L.length + 1) c10)) G (.slice ac pr.cells.length cc) (.slice (some ⟨g5, 0, none⟩) pr.bodies.length c5)) :=
          ⟨hbod, hbelS, (HGX.out.heap (hbel2.block _ hGlt)).tag (TagKept.set h5W2) (by decide)⟩
        clear hrow2 hbel2 h5W2 hbelS hact hbod HR11 HSW HRW HBW HGX HPW HCB cg5 HFZ g0 g1 HK3
        generalize W2.setCell ⟨g5, 0, none⟩ (.slice (some ⟨g10, 0, none⟩) (L.length + 1) c10) = W3 at HZ ⊢
        obtain ⟨g0, g1, _, _⟩ := HZ.out.2.2.cells
        have hsW3 := HZ.out.2.1.size
        have H3W : Hid (Below V.heap.size V W3) := H3.out.trans (HZ.out.2.1.mono hs3)
        go_wp2_with fail
        refine (oneRun_eq HQ.out _ _ aN aF _ (HI.out.mono H3W.out) HZ.out.1 (HEV.out.mono H3W.out)).mono ?_
        rintro e w6 ⟨a6, k6, rfl, ho6, hb6⟩
        have HO6 : Hid (IntsAt w6 (.slice a6 R.length k6) R) := ho6.at
        have HO36 : Hid (IntsAt w6 (.slice a3 R.length k3) R) := HO3.out.mono (HZ.out.2.1.trans (hb6.mono hsW3))
        have H6 : Hid (Below w.heap.size w w6) := HL.out.trans ((H3W.out.trans (hb6.mono H3W.out.size)).mono hsz)
        clear hb6 ho6 g0 g1
        go_wp2_with fail
        refine (lqInts_same R _ _ _ HO6.out HO36.out).mono ?_
        rintro e w7 ⟨rfl, hb7⟩
        have H7 : Hid (Below w.heap.size w w7) := H6.out.trans (hb7.mono H6.out.size)
        clear hb7
        go_wp2_with fail
        go_ret
        exact ⟨rfl, H7.out⟩

end Go.Proofs.YtpehlekjfnkhoaaDoor
