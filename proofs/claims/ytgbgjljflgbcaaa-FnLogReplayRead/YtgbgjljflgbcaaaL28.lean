/-
  FnLogReplayRead (by mkl28.py).
-/
import Derived.Test.YtgbgjljflgbcaaaL27
namespace Go.Proofs.Ytgbgjljflgbcaaa
open Go.RowKit
set_option linter.unusedSimpArgs false
set_option linter.unusedVariables false
set_option maxRecDepth 20000

theorem src_up {w V : World} {n : Nat} {a : Option Addr} {ys : List Value} (h : n = 0 ∨ ∃ b off, a = some ⟨b, off, none⟩ ∧ b < w.heap.size ∧ ∀ j u, ys[j]? = some u → w.cell? ⟨b, off + j, none⟩ = some u) (hb : Below w.heap.size w V) : n = 0 ∨ ∃ b off, a = some ⟨b, off, none⟩ ∧ b < V.heap.size ∧ ∀ j u, ys[j]? = some u → V.cell? ⟨b, off + j, none⟩ = some u := by
  rcases h with h | ⟨b, off, e, hl, hc⟩
  · exact .inl h
  · exact .inr ⟨b, off, e, Nat.lt_of_lt_of_le hl hb.size, fun j u hj => (hb.cell (p := ⟨b, _, none⟩) hl).trans (hc j u hj)⟩
theorem pus_one {w : World} {g : Nat} {c n : Int} (h : w.heap[g]? = some (.cells #[.int .i64 c, .int .i64 n] 52 (0, 0))) : PusAt w (.slice (some ⟨g, 0, none⟩) 1 1) [⟨c, n⟩] := by
  refine ⟨_, 1, rfl, ⟨by simp, by omega⟩, fun i hi => ?_⟩
  have e : i = 0 := by simp at hi; omega
  subst e
  refine ⟨g, 0, rfl, bx_lt h, ?_, ?_⟩ <;> (rw [cell_of_row w g _ _ _ (0, 0) h]; rfl)
set_option maxHeartbeats 8000000 in
theorem fnLogReplayRead_walk (a : Option Addr) (n cap : Nat) (w : World) (h : Bytes w a n) (hc : n ≤ cap) (hn : cap ≤ 9223372036854775807) :
    Calls Try.prog 7 #[.slice a n cap] w fun e w' => e = .returned (.bool true) ∧ Below w.heap.size w w' := by
  by_cases hbig : 1048576 < n
  · have hb' : (1048576 : Int) < (n : Int) := by omega
    clear h
    go_enter Try.func7, Try.ntmps7
    go_wp2_with fail
    go_ret
    exact ⟨rfl, Below.refl _ _⟩
  have hb' : ¬ (1048576 : Int) < (n : Int) := by omega
  have HY := (show Hid (Bytes _ _ _) from h)
  clear h
  go_enter Try.func7, Try.ntmps7
  go_wp2_with fail
  refine (drawLogReplay_any a n cap w HY.out hc hn).mono ?_
  rintro e w1 ⟨cs, L, cv, lv, rfl, hC, hL, hc1, hc3, h28, hb1⟩
  obtain ⟨ca, cc, rfl, _⟩ := hC.shape
  obtain ⟨la, lc, rfl, _⟩ := hL.shape
  have C1 := (show Hid (IntsAt _ _ _) from hC)
  have L1 := (show Hid (EnsAt _ _ _) from hL)
  have B1 := (show Hid (Below _ _ _) from hb1)
  have hcs : cs.length ≤ 1048576 := by omega
  clear hC hL hb1 HY
  go_wp2_with fail
  cases hro : rpO cs L with
  | none =>
    have HRO := (show Hid (_ = _) from hro)
    clear hro
    refine (sLogReplay_no HRO.out _ _ w1 C1.out L1.out hcs).mono ?_
    rintro e w2 ⟨v2, rfl, hv, hb⟩
    have B2 : Hid (Below w.heap.size w w2) := B1.out.trans (hb.mono B1.out.size)
    have C2 : Hid (IntsAt w2 (.slice ca cs.length cc) cs) := C1.out.mono hb
    have L2 : Hid (EnsAt w2 (.slice la L.length lc) L) := L1.out.mono hb
    have W2 : Hid (IntsAt w2 v2 []) := OwnInt.at hv
    clear hb B1 C1 L1
    clear hv
    go_wp2_with fail
    refine (logReplay_no HRO.out _ _ w2 C2.out L2.out hcs).mono ?_
    rintro e w3 ⟨v3, rfl, hv, hb⟩
    have B3 : Hid (Below w.heap.size w w3) := B2.out.trans (hb.mono B2.out.size)
    have C3 : Hid (IntsAt w3 (.slice ca cs.length cc) cs) := C2.out.mono hb
    have L3 : Hid (EnsAt w3 (.slice la L.length lc) L) := L2.out.mono hb
    have W3 : Hid (IntsAt w3 v2 []) := W2.out.mono hb
    clear hb B2 C2 L2 W2
    have X3 : Hid (IntsAt w3 _ []) := OwnInt.at hv
    clear hv
    go_wp2_with fail
    refine (lqI_same [] _ _ w3 X3.out W3.out).mono ?_
    rintro e w4 ⟨rfl, hb⟩
    have B4 : Hid (Below w.heap.size w w4) := B3.out.trans (hb.mono B3.out.size)
    have C4 : Hid (IntsAt w4 (.slice ca cs.length cc) cs) := C3.out.mono hb
    have L4 : Hid (EnsAt w4 (.slice la L.length lc) L) := L3.out.mono hb
    have W4 : Hid (IntsAt w4 v2 []) := W3.out.mono hb
    have X4 : Hid (IntsAt w4 _ []) := X3.out.mono hb
    clear hb B3 C3 L3 W3 X3
    go_wp2_with fail
    refine (lqI_same [] _ _ w4 X4.out W4.out).mono ?_
    rintro e w5 ⟨rfl, hb⟩
    have B5 : Hid (Below w.heap.size w w5) := B4.out.trans (hb.mono B4.out.size)
    have C5 : Hid (IntsAt w5 (.slice ca cs.length cc) cs) := C4.out.mono hb
    have L5 : Hid (EnsAt w5 (.slice la L.length lc) L) := L4.out.mono hb
    have W5 : Hid (IntsAt w5 v2 []) := W4.out.mono hb
    have X5 : Hid (IntsAt w5 _ []) := X4.out.mono hb
    clear hb B4 C4 L4 W4 X4
    go_wp2_with fail
    go_ret
    exact ⟨rfl, B5.out⟩
  | some r =>
    have hrl : r.length = cs.length := rpO_len hro
    have hc0 : ((cs.length : Int) == 0) = false := beq_eq_false_iff_ne.2 (by omega)
    have hi0 : (0 : Int) < (cs.length : Int) := by omega
    have hi1 : 0 < cs.length := by omega
    have hi2 : ¬ cs = [] := fun e => by rw [e] at hi1; simp at hi1
    have HRO := (show Hid (_ = _) from hro)
    clear hro
    refine (sLogReplay_yes HRO.out _ _ w1 C1.out L1.out hcs).mono ?_
    rintro e w2 ⟨v2, rfl, hv, hb⟩
    have B2 : Hid (Below w.heap.size w w2) := B1.out.trans (hb.mono B1.out.size)
    have C2 : Hid (IntsAt w2 (.slice ca cs.length cc) cs) := C1.out.mono hb
    have L2 : Hid (EnsAt w2 (.slice la L.length lc) L) := L1.out.mono hb
    have W2 : Hid (IntsAt w2 v2 r) := OwnInt.at hv
    clear hb B1 C1 L1
    clear hv
    go_wp2_with fail
    refine (logReplay_yes HRO.out _ _ w2 C2.out L2.out hcs).mono ?_
    rintro e w3 ⟨v3, rfl, hv, hb⟩
    have B3 : Hid (Below w.heap.size w w3) := B2.out.trans (hb.mono B2.out.size)
    have C3 : Hid (IntsAt w3 (.slice ca cs.length cc) cs) := C2.out.mono hb
    have L3 : Hid (EnsAt w3 (.slice la L.length lc) L) := L2.out.mono hb
    have W3 : Hid (IntsAt w3 v2 r) := W2.out.mono hb
    clear hb B2 C2 L2 W2
    obtain ⟨xa, xc, ex, _⟩ := own_shape hv
    rw [hrl] at ex
    subst ex
    have X3 : Hid (IntsAt w3 _ r) := OwnInt.at hv
    clear hv
    go_wp2_with fail
    refine (lqI_same r _ _ w3 X3.out W3.out).mono ?_
    rintro e w4 ⟨rfl, hb⟩
    have B4 : Hid (Below w.heap.size w w4) := B3.out.trans (hb.mono B3.out.size)
    have C4 : Hid (IntsAt w4 (.slice ca cs.length cc) cs) := C3.out.mono hb
    have L4 : Hid (EnsAt w4 (.slice la L.length lc) L) := L3.out.mono hb
    have W4 : Hid (IntsAt w4 v2 r) := W3.out.mono hb
    have X4 : Hid (IntsAt w4 _ r) := X3.out.mono hb
    clear hb B3 C3 L3 W3 X3
    go_wp2_with fail
    have hx := X4.out
    obtain ⟨_, _, ex, _, hxc⟩ := hx
    rw [hrl] at ex
    injection ex with ex1 ex2 ex3
    subst ex1 ex3
    obtain ⟨b, off, rfl, hbl, c0⟩ := hxc 0 (by omega)
    rw [Nat.add_zero] at c0
    clear hxc ex2 hc0 hrl
    have HV : Hid (∃ V, V = ((w4.alloc (.cells #[.int .i64 0, .int .i64 (nth 0 r 0)] 52)).alloc (.cells #[.int .i64 0, .int .i64 42] 52)).alloc (.cells #[.int .i64 0, .int .i64 0, .int .i64 0, .slice (some ⟨w4.heap.size, 0, none⟩) 1 1, .slice (some ⟨w4.heap.size + 1, 0, none⟩) 1 1, .int .i64 0] 55) ∧ V.heap[w4.heap.size]? = some (.cells #[.int .i64 0, .int .i64 (nth 0 r 0)] 52 (0, 0)) ∧ V.heap[w4.heap.size + 1]? = some (.cells #[.int .i64 0, .int .i64 42] 52 (0, 0)) ∧ V.heap[w4.heap.size + 2]? = some (.cells #[.int .i64 0, .int .i64 0, .int .i64 0, .slice (some ⟨w4.heap.size, 0, none⟩) 1 1, .slice (some ⟨w4.heap.size + 1, 0, none⟩) 1 1, .int .i64 0] 55 (0, 0)) ∧ V.heap.size = w4.heap.size + 3 ∧ Below w4.heap.size w4 V) := by
      refine ⟨_, rfl, ?_, ?_, ?_, by simp, (((Below.refl _ _).alloc (Nat.le_refl _) _).alloc (by simp) _).alloc (by simp; omega) _⟩
      · rw [Below.heap_alloc _ _ _ (by simp; omega), Below.heap_alloc _ _ _ (by simp)]; exact heap_alloc_new w4 _
      · rw [Below.heap_alloc _ _ _ (by simp)]; simpa using heap_alloc_new (w4.alloc (.cells #[.int .i64 0, .int .i64 (nth 0 r 0)] 52)) (.cells #[.int .i64 0, .int .i64 42] 52)
      · simpa using heap_alloc_new ((w4.alloc (.cells #[.int .i64 0, .int .i64 (nth 0 r 0)] 52)).alloc (.cells #[.int .i64 0, .int .i64 42] 52)) (.cells #[.int .i64 0, .int .i64 0, .int .i64 0, .slice (some ⟨w4.heap.size, 0, none⟩) 1 1, .slice (some ⟨w4.heap.size + 1, 0, none⟩) 1 1, .int .i64 0] 55)
    go_wp2_with fail
    go_simp
    go_wp2_with fail
    obtain ⟨V, hV, hV1, hV2, hV3, hVs, hVb⟩ := HV.out
    rw [← hV]
    clear hV HV
    have H1 := (show Hid (_ = _) from hV1)
    have H2 := (show Hid (_ = _) from hV2)
    have H3 := (show Hid (_ = _) from hV3)
    have HB := (show Hid (Below _ _ _) from hVb)
    clear hV1 hV2 hV3 hVb
    obtain ⟨LL, hLL1, hLL2, hLL3⟩ := ens_src L4.out
    have hLLl : LL.length = L.length := by rw [← hLL1]; simp
    have HLE := (show Hid (LL.map (·.1) = L) from hLL1)
    have HSRW := (show Hid (L.length = 0 ∨ _) from hLL3)
    have HSR := (show Hid (L.length = 0 ∨ _) from src_up hLL3 HB.out)
    have HLL : Hid ((LL.flatMap enC).length = L.length * 6 ∧ ∀ u, u ∈ LL.flatMap enC → u.oneCell' = true) := ⟨by rw [flat_len 6 enC enC_len, hLLl], fun u hu => by
      obtain ⟨x, hx, hu⟩ := List.mem_flatMap.1 hu
      obtain ⟨h1, h2⟩ := hLL2 x hx
      obtain ⟨_, _, e3, _⟩ := h1.shape
      obtain ⟨_, _, e4, _⟩ := h2.shape
      simp [enC] at hu
      rcases hu with rfl | rfl | rfl | rfl | rfl | rfl
      · rfl
      · rfl
      · rfl
      · rw [e3]; rfl
      · rw [e4]; rfl
      · rfl⟩
    have HLP : Hid (∀ (W : World), Below w4.heap.size w4 W → ∃ L2 : List EE, L2.map (·.1) = L ∧ True) := fun W _ => ⟨LL, HLE.out, trivial⟩
    clear HLP
    have HPPW := (show Hid (∀ x, x ∈ LL → PusAt w4 x.2.d x.1.reads ∧ PusAt w4 x.2.u x.1.puts) from hLL2)
    have HPP : Hid (∀ x, x ∈ LL → PusAt V x.2.d x.1.reads ∧ PusAt V x.2.u x.1.puts) := fun x hx => ⟨(hLL2 x hx).1.mono HB.out, (hLL2 x hx).2.mono HB.out⟩
    have hLn : L.length ≤ 1048576 := by omega
    have hsV := hVs
    clear hLL1 hLL2 hLL3
    have HCA : Hid (∀ (n : Int) (o : Option (List Int)), rpO cs (L ++ [enR n]) = o → ∀ (V' W : World) (v : Value), (∀ x, x ∈ LL → PusAt V' x.2.d x.1.reads ∧ PusAt V' x.2.u x.1.puts) → IntsAt V' (.slice ca cs.length cc) cs → V'.heap[w4.heap.size]? = some (.cells #[.int .i64 0, .int .i64 n] 52 (0, 0)) → V'.heap[w4.heap.size + 1]? = some (.cells #[.int .i64 0, .int .i64 42] 52 (0, 0)) → Below V'.heap.size V' W → W.ownsRow V'.heap.size 55 6 v (L.length + 1) (LL.flatMap enC ++ [.int .i64 0, .int .i64 0, .int .i64 0, .slice (some ⟨w4.heap.size, 0, none⟩) 1 1, .slice (some ⟨w4.heap.size + 1, 0, none⟩) 1 1, .int .i64 0]) →
        IntsAt W (.slice ca cs.length cc) cs ∧ EnsAt W v (L ++ [enR n])) := fun n o _ V' W v hpp hci g1 g2 hb ho => by
      refine ⟨hci.mono hb, ?_⟩
      have h1 := ens_of_row (L := LL ++ [((enR n, EV.mk (.slice (some ⟨w4.heap.size, 0, none⟩) 1 1) (.slice (some ⟨w4.heap.size + 1, 0, none⟩) 1 1)) : EE)]) (w := W) (v := v) (B := V'.heap.size) (by
        rw [List.length_append, hLLl, List.flatMap_append]
        simpa [enC, enR] using ho) (fun x hx => by
        rcases List.mem_append.1 hx with hx | hx
        · exact ⟨(hpp x hx).1.mono hb, (hpp x hx).2.mono hb⟩
        · rw [List.mem_singleton.1 hx]
          have k1 := (hb.block _ (bx_lt g1)).trans g1
          have k2 := (hb.block _ (bx_lt g2)).trans g2
          exact ⟨pus_one k1, pus_one k2⟩)
      rw [List.map_append, HLE.out] at h1
      exact h1
    refine rr_reg9 V (w4.heap.size + 2) L.length lc la (.slice ca cs.length cc) (.slice (some ⟨w4.heap.size, 0, none⟩) 1 1) (.slice (some ⟨w4.heap.size + 1, 0, none⟩) 1 1) (LL.flatMap enC) true (r.set 0 42) H3 rfl rfl HSR HLL hLn (fun W v hb ho => ?c1) _ _ _ _ _ _ _ _ _ _ _ _ _ _ _ _ _ _ _ _ _ _ _ _ _ _ _ _ _ _ _ _ _ _ _ _ _ _ _ _ _ _ _ _ _ _ _ _ _ _ _ _ _ _ _ _ _ _ _ _ _ _ _ _ _ _ _ _ _ _ _ _ _ _ _ _ _ _ _ _ _ _ _ _ _ _ _ _ _ _ _ _ _ _ _ _ _ _ _ _ _ _ _ _ _ _ _ _ ?_
    case c1 =>
      obtain ⟨q1, q2⟩ := HCA.out (nth 0 r 0) _ rfl V W v HPP.out (C4.out.mono HB.out) H1.out H2.out hb ho
      exact logReplay_yes (rp_yes HRO.out (by have := rpO_len HRO.out; omega)) _ _ W q1 q2 hcs
    intro v68 v69 v70 v71 v72 v73 v74 v75 v76 v77 v78 y W1 hy hb1
    have HY1 : Hid (OwnInt V.heap.size W1 y (r.set 0 42)) := hy
    have HW1 : Hid (Below w4.heap.size w4 W1) := HB.out.trans (hb1.mono (by omega))
    have hs1 := hb1.size
    have g1 := (hb1.block _ (bx_lt H1.out)).trans H1.out
    have g2 := (hb1.block _ (bx_lt H2.out)).trans H2.out
    have g3 := (hb1.block _ (bx_lt H3.out)).trans H3.out
    have G1 := (show Hid (_ = _) from g1)
    have G2 := (show Hid (_ = _) from g2)
    have G3 := (show Hid (_ = _) from g3)
    have x0 := (HW1.out.cell (p := ⟨b, off, none⟩) hbl).trans c0
    have hbl1 : b < W1.heap.size := by omega
    obtain ⟨ya, yc, ey, _⟩ := own_shape HY1.out
    rw [List.length_set, rpO_len HRO.out] at ey
    subst ey
    have HS10 := (show Hid (_ ∧ _ ∧ _) from ⟨G3.out, G1.out, x0⟩)
    have HV2 : Hid (∃ V2, V2 = W1.drew.setCell ⟨w4.heap.size, 1, none⟩ (.int .i64 ((IntKind.i64.wrap (nth 0 r 0 + 1)).tmod 100)) ∧ V2.heap[w4.heap.size]? = some (.cells #[.int .i64 0, .int .i64 ((IntKind.i64.wrap (nth 0 r 0 + 1)).tmod 100)] 52 (0, 0)) ∧ V2.heap[w4.heap.size + 1]? = some (.cells #[.int .i64 0, .int .i64 42] 52 (0, 0)) ∧ V2.heap[w4.heap.size + 2]? = some (.cells #[.int .i64 0, .int .i64 0, .int .i64 0, .slice (some ⟨w4.heap.size, 0, none⟩) 1 1, .slice (some ⟨w4.heap.size + 1, 0, none⟩) 1 1, .int .i64 0] 55 (0, 0)) ∧ Below w4.heap.size w4 V2 ∧ OwnInt V.heap.size V2 (.slice ya cs.length yc) (r.set 0 42) ∧ V2.heap.size = W1.heap.size) := by
      refine ⟨_, rfl, ?_, ?_, ?_, HW1.out.drew.setCell (Nat.le_refl _) _, row_set (World.ownsRow.drew HY1.out) (by omega), by simp⟩
      · rw [heap_setCell_same W1.drew w4.heap.size 1 _ _ _ G1.out]; rfl
      · exact (heap_set_ne _ _ _ _ (by show w4.heap.size + 1 ≠ w4.heap.size; omega)).trans G2.out
      · exact (heap_set_ne _ _ _ _ (by show w4.heap.size + 2 ≠ w4.heap.size; omega)).trans G3.out
    clear hy hb1 g1 g2 g3 H1 H2 H3 HPP c0 G1 G2 G3 HY1 x0 HSR
    go_wp2_with fail
    refine rr_reg10 W1 w4.heap.size b off cs.length xc _ (nth 0 r 0) HS10 hi1 _ _ _ _ _ _ _ _ _ _ _ _ _ _ _ _ _ _ _ _ _ _ _ _ _ _ _ _ _ _ _ _ _ _ _ _ _ _ _ _ _ _ _ _ _ _ _ _ _ _ _ _ _ _ _ _ _ _ _ _ _ _ _ _ _ _ _ _ _ _ _ _ _ _ _ _ _ _ _ _ _ _ _ _ _ _ _ _ _ _ _ _ _ _ _ _ _ _ _ _ _ _ _ _ _ _ _ _ _ ?_
    intro v79 v80 v81 v82 v83 v84 v85 v86 v87
    clear HS10
    obtain ⟨V2, hV, q1, q2, q3, q4, q5, q6⟩ := HV2.out
    rw [← hV]
    clear hV HV2
    have Q1 := (show Hid (_ = _) from q1)
    have Q2 := (show Hid (_ = _) from q2)
    have Q3 := (show Hid (_ = _) from q3)
    have QB := (show Hid (Below _ _ _) from q4)
    have QY := (show Hid (OwnInt _ _ _ _) from q5)
    have HSR2 := (show Hid (L.length = 0 ∨ _) from src_up HSRW.out QB.out)
    have HPP2 : Hid (∀ x, x ∈ LL → PusAt V2 x.2.d x.1.reads ∧ PusAt V2 x.2.u x.1.puts) := fun x hx => ⟨(HPPW.out x hx).1.mono QB.out, (HPPW.out x hx).2.mono QB.out⟩
    clear q1 q2 q3 q4 q5
    go_wp2_with fail
    refine rr_reg11 V2 (w4.heap.size + 2) L.length lc la (.slice ca cs.length cc) (.slice (some ⟨w4.heap.size, 0, none⟩) 1 1) (.slice (some ⟨w4.heap.size + 1, 0, none⟩) 1 1) (LL.flatMap enC) false [] Q3 rfl rfl HSR2 HLL hLn (fun W v hb ho => ?c2) _ _ _ _ _ _ _ _ _ _ _ _ _ _ _ _ _ _ _ _ _ _ _ _ _ _ _ _ _ _ _ _ _ _ _ _ _ _ _ _ _ _ _ _ _ _ _ _ _ _ _ _ _ _ _ _ _ _ _ _ _ _ _ _ _ _ _ _ _ _ _ _ _ _ _ _ _ _ _ _ _ _ _ _ _ _ _ _ _ _ _ _ _ _ _ _ _ _ _ _ _ _ _ _ _ _ _ _ ?_
    case c2 =>
      obtain ⟨r1, r2⟩ := HCA.out _ _ rfl V2 W v HPP2.out (C4.out.mono QB.out) Q1.out Q2.out hb ho
      exact logReplay_no (rp_no HRO.out _ (other_num _)) _ _ W r1 r2 hcs
    intro v88 v89 v90 v91 v92 v93 v94 v95 v96 v97 v98 y2 W2 hy2 hb2
    have HZ : Hid (IntsAt W2 (.slice ya cs.length yc) (r.set 0 42)) := OwnInt.at (own_below QY.out hb2 (Nat.le_refl _))
    have HF : Hid (Below w.heap.size w W2) := B4.out.trans ((QB.out.trans (hb2.mono (QB.out.size))).mono B4.out.size)
    obtain ⟨_, _, ez, _, hzc⟩ := HZ.out
    rw [List.length_set, rpO_len HRO.out] at ez
    injection ez with ez1 ez2 ez3
    subst ez1 ez3
    obtain ⟨bz, offz, rfl, hbz, z0⟩ := hzc 0 (by rw [List.length_set, rpO_len HRO.out]; exact hi1)
    rw [Nat.add_zero, nth_set' 0 r 0 0 42 (by rw [rpO_len HRO.out]; exact hi1), if_pos rfl] at z0
    clear hzc ez2 hy2 hb2 Q1 Q2 Q3 HSR2 HPP2 HCA HPPW HSRW HLL
    go_wp2_with fail
    (try go_simp)
    (try go_wp2_with fail)
    go_ret
    exact ⟨rfl, HF.out⟩

end Go.Proofs.Ytgbgjljflgbcaaa
