import Derived.Test.YtgbgjljflgbcaaaBase27
import Derived.Test.YtgbgjljflgbcaaaBase42
import Derived.Test.YtgbgjljflgbcaaaBase43
namespace Go.Proofs.Ytgbgjljflgbcaaa
open Go.RowKit
set_option linter.unusedSimpArgs false
set_option linter.unusedVariables false
set_option maxRecDepth 20000
def ReD (w : World) (e : Ending) (w' : World) : Prop :=
  ∃ (cs : List Int) (L : List En) (cv lv : Value), e = .returned (.tuple #[cv, lv]) ∧ IntsAt w' cv cs ∧ EnsAt w' lv L ∧ 1 ≤ cs.length ∧ cs.length ≤ 3 ∧ L.length ≤ 28 ∧ Below w.heap.size w w'
set_option maxHeartbeats 4000000 in
theorem drawLogReplay_any (a : Option Addr) (n cap : Nat) (w : World) (h : Bytes w a n) (hc : n ≤ cap) (hn : cap ≤ 9223372036854775807) :
    Calls Try.prog 21 #[.slice a n cap] w (ReD w) := by
  have HY := (show Hid (Bytes _ _ _) from h)
  clear h
  go_enter Try.func21, Try.ntmps21
  go_wp2_with fail
  refine (l6Open_any a n cap _ HY.out hc hn).mono ?_
  rintro e w0 ⟨rfl, hR0, hB0⟩
  have hs0 : w.heap.size + 1 ≤ w0.heap.size := hR0.le
  have HB0 := (show Hid (Below _ _ _) from hB0)
  clear hB0 HY
  go_wp2_with fail
  refine (l71Log_any (w.heap.size + 1) w.heap.size 0 w0 hR0 (by omega)).mono ?_
  rintro e w1 ⟨pr, L, cv, bv, lv, p', rfl, hP, hL, h28, hok, hc1, hp1, hp2, hR1, hF1⟩
  have hs1 := hF1.size
  obtain ⟨ac, cc, rfl, _⟩ := hP.1.shape
  obtain ⟨ab, cb, rfl, _⟩ := hP.2.shape
  obtain ⟨la, lc, rfl, _⟩ := hL.shape
  have hc3 : pr.cells.length ≤ 3 := (ok_sizes hok).1
  have hl28 := h28.1
  have HSM := (show Hid (SmsEn _) from h28.sms)
  have HV : Hid (∃ V, V = (w1.alloc (.cells #[.slice ac pr.cells.length cc, .slice ab pr.bodies.length cb] 26)) ∧ PBox V w1.heap.size (.slice ac pr.cells.length cc) (.slice ab pr.bodies.length cb) ∧ IntsOn (fun b => w0.heap.size ≤ b) V (.slice ac pr.cells.length cc) pr.cells ∧ EnsOn (fun b => w0.heap.size ≤ b) V (.slice la L.length lc) L ∧ RdAt (w.heap.size + 1) V w.heap.size p' ∧ Below w.heap.size w V ∧ w1.heap.size < V.heap.size) :=
    ⟨_, rfl, heap_alloc_new w1 _, hP.1.kept (Kept.below ((Below.refl _ _).alloc (Nat.le_refl _) _)), hL.kept (Kept.below ((Below.refl _ _).alloc (Nat.le_refl _) _)), hR1.below ((Below.refl _ _).alloc hR1.le _), (HB0.out.trans ((hF1.mono (B' := w.heap.size) (by omega)).below (by omega))).alloc (by omega) _, by simp⟩
  clear hP hL hok hR1 hF1 hR0 HB0 h28
  go_wp2_with fail
  obtain ⟨V, hV, hVG, hVC, hVL, hVR, hVB, hVl⟩ := HV.out
  rw [← hV]
  clear hV HV
  have HVG := (show Hid (PBox _ _ _ _) from hVG)
  have HVC := (show Hid (IntsOn _ _ _ _) from hVC)
  have HVL := (show Hid (EnsOn _ _ _ _) from hVL)
  have HVB := (show Hid (Below _ _ _) from hVB)
  clear hVG hVC hVL hVB
  go_wp2_with fail
  refine (pick_any (w.heap.size + 1) w.heap.size p' 3 _ hVR (by omega) (by omega) (by omega)).mono ?_
  rintro e w5 ⟨q5, rfl, q50, q51, hR5, hF5⟩
  have hs5 := hF5.size
  have HG5 : Hid (PBox w5 w1.heap.size (.slice ac pr.cells.length cc) (.slice ab pr.bodies.length cb)) := HVG.out.heap (hF5.block _ HVG.out.lt (by omega))
  have hK5 : Kept (fun b => w0.heap.size ≤ b) V w5 := ⟨hF5.size, fun b o hb hlt => hF5.cell hlt (by have hb : w0.heap.size ≤ b := hb; omega)⟩
  have HC5 : Hid (IntsAt w5 (.slice ac pr.cells.length cc) pr.cells) := (HVC.out.kept hK5).at
  have HL5 : Hid (EnsAt w5 (.slice la L.length lc) L) := (HVL.out.kept hK5).at
  have HB5 : Hid (Below w.heap.size w w5) := HVB.out.trans ((hF5.mono (B' := w.heap.size) (by omega)).below (by omega))
  clear hR5 hF5 hK5 HVG HVC HVL HVB hVR
  obtain ⟨k0, k1, _, _⟩ := HG5.out.cells
  have hGl := HG5.out.lt
  by_cases hq : q5 = 0
  · subst hq
    go_wp2_with fail
    refine bodyPost_ret (v := .tuple #[.slice ac pr.cells.length cc, .slice la L.length lc]) (by simp [results, Try.results21, go_sem]) rfl ?_
    exact ⟨_, _, _, _, rfl, HC5.out, HL5.out, hc1, hc3, hl28, HB5.out⟩
  · have hqb : (q5 == 0) = false := by simp [hq]
    go_wp2_with fail
    go_region_with (go_at_call 57; refine (sLogOrder_any _ L _ (HL5.out.mono (Below.refl _ _).drew) HSM.out).mono ?_; rintro e w6 ⟨v6, rfl, hv6, hb6⟩; have k06 : w6.cell? ⟨w1.heap.size, 0, none⟩ = some (.slice ac pr.cells.length cc) := (hb6.cell (p := ⟨w1.heap.size, 0, none⟩) hGl).trans k0; have hG6 : w1.heap.size < w6.heap.size := Nat.lt_of_lt_of_le hGl hb6.size)
    all_goals
      have HB6 : Hid (Below w5.heap.size w5 w6) := below_then (by repeat (first | with_reducible exact Below.refl _ _ | (with_reducible refine Below.setCell ?_ ?hs _; case hs => ((try simp); try omega)) | (with_reducible refine Below.alloc ?_ ?hs _; case hs => ((try simp); try omega)) | with_reducible refine Below.drew ?_ | with_reducible refine below_drewN ?_ _)) (by (try simp); try omega) hb6
      have hE6 := hv6.at
      obtain ⟨xa, xc, e6, _⟩ := hE6.shape
      rw [ordL_len] at e6
      subst e6
      have HE6 := (show Hid (EnsAt _ _ _) from hE6)
      have hol : (ordL L).length ≤ 28 := by rw [ordL_len]; exact hl28
      clear hv6 hb6 hE6
      (try go_wp2_with fail)
      refine bodyPost_ret (v := .tuple #[.slice ac pr.cells.length cc, .slice xa L.length xc]) (by simp [results, Try.results21, go_sem]) rfl ?_
      exact ⟨pr.cells, ordL L, _, _, rfl, HC5.out.mono (by repeat (first | with_reducible exact HB6.out | (with_reducible refine Below.setCell ?_ ?hs _; case hs => ((try simp); try omega)) | (with_reducible refine Below.alloc ?_ ?hs _; case hs => ((try simp); try omega)) | with_reducible refine Below.drew ?_ | with_reducible refine below_drewN ?_ _)), HE6.out.mono (by repeat (first | with_reducible exact Below.refl _ _ | (with_reducible refine Below.setCell ?_ ?hs _; case hs => ((try simp); try omega)) | (with_reducible refine Below.alloc ?_ ?hs _; case hs => ((try simp); try omega)) | with_reducible refine Below.drew ?_ | with_reducible refine below_drewN ?_ _)), hc1, hc3, hol, HB5.out.trans (Below.mono (by repeat (first | with_reducible exact HB6.out | (with_reducible refine Below.setCell ?_ ?hs _; case hs => ((try simp); try omega)) | (with_reducible refine Below.alloc ?_ ?hs _; case hs => ((try simp); try omega)) | with_reducible refine Below.drew ?_ | with_reducible refine below_drewN ?_ _)) HB5.out.size)⟩
theorem logReplay_no {cs : List Int} {es : List En} (hr : rpO cs es = none) (cv ev : Value) (w : World) (h : IntsAt w cv cs) (he : EnsAt w ev es) (hn : cs.length ≤ 1048576) :
    Calls Try.prog 23 #[cv, ev] w fun r w' => ∃ v', r = .returned (.tuple #[v', .bool false]) ∧ OwnInt w.heap.size w' v' [] ∧ Below w.heap.size w w' := by
  have := logReplay_any cs es cv ev w h he hn
  rwa [hr] at this
theorem logReplay_yes {cs c : List Int} {es : List En} (hr : rpO cs es = some c) (cv ev : Value) (w : World) (h : IntsAt w cv cs) (he : EnsAt w ev es) (hn : cs.length ≤ 1048576) :
    Calls Try.prog 23 #[cv, ev] w fun r w' => ∃ v', r = .returned (.tuple #[v', .bool true]) ∧ OwnInt w.heap.size w' v' c ∧ Below w.heap.size w w' := by
  have := logReplay_any cs es cv ev w h he hn
  rwa [hr] at this
theorem sLogReplay_no {cs : List Int} {es : List En} (hr : rpO cs es = none) (cv ev : Value) (w : World) (h : IntsAt w cv cs) (he : EnsAt w ev es) (hn : cs.length ≤ 1048576) :
    Calls Try.prog 22 #[cv, ev] w fun r w' => ∃ v', r = .returned (.tuple #[v', .bool false]) ∧ OwnInt w.heap.size w' v' [] ∧ Below w.heap.size w w' := by
  have := sLogReplay_any cs es cv ev w h he hn
  rwa [hr] at this
theorem sLogReplay_yes {cs c : List Int} {es : List En} (hr : rpO cs es = some c) (cv ev : Value) (w : World) (h : IntsAt w cv cs) (he : EnsAt w ev es) (hn : cs.length ≤ 1048576) :
    Calls Try.prog 22 #[cv, ev] w fun r w' => ∃ v', r = .returned (.tuple #[v', .bool true]) ∧ OwnInt w.heap.size w' v' c ∧ Below w.heap.size w w' := by
  have := sLogReplay_any cs es cv ev w h he hn
  rwa [hr] at this
theorem lqI_same (xs : List Int) (v v' : Value) (w : World) (h : IntsAt w v xs) (h' : IntsAt w v' xs) :
    Calls Try.prog 14 #[v, v'] w fun r w' => r = .returned (.bool true) ∧ Below w.heap.size w w' := by
  have := lqInts_any xs xs v v' w h h'
  rwa [show decide (xs = xs) = true from by simp] at this
theorem rpO_nil (cs : List Int) : rpO cs [] = some cs := rfl
theorem ens_nil (w : World) : EnsAt w (.slice none 0 0) [] := ⟨none, 0, rfl, ⟨Nat.le_refl _, by omega⟩, fun i hi => absurd hi (Nat.not_lt_zero _)⟩
theorem rpO_cut (cs : List Int) (es : List En) (k : Nat) : rpO cs es = (rpO cs (es.take k)).bind fun c => rpO c (es.drop k) := by
  have h : rpO cs es = (es.drop k).foldl rp1 (rpO cs (es.take k)) := by
    conv => lhs; rw [← List.take_append_drop k es]
    unfold rpO
    rw [List.foldl_append]
  rw [h]
  cases rpO cs (es.take k) with
  | none => exact rp1_none _
  | some c => rfl
theorem EnsAt.takeC {w : World} {a : Option Addr} {n cap c : Nat} {xs : List En} (h : EnsAt w (.slice a n cap) xs) (hc : c ≤ xs.length) : EnsAt w (.slice a c cap) (xs.take c) := by
  obtain ⟨a', cap', e, hm, hc'⟩ := h
  injection e with e1 e2 e3
  subst e1 e3
  have hl : (xs.take c).length = c := by simp; omega
  refine ⟨a, cap, by rw [hl], by omega, fun i hi => ?_⟩
  rw [hl] at hi
  have e : nth En.z (xs.take c) i = nth En.z xs i := by rw [nth_eq _ _ i (by rw [hl]; exact hi), nth_eq _ _ i (by omega)]; simp
  rw [e]
  exact hc' i (by omega)
theorem EnsAt.dropC {w : World} {b off n cap c cap' : Nat} {xs : List En} (h : EnsAt w (.slice (some ⟨b, off, none⟩) n cap) xs) (hc : c ≤ xs.length) (hcap : xs.length - c ≤ cap' ∧ cap' ≤ 9223372036854775807) : EnsAt w (.slice (some ⟨b, off + c * 6, none⟩) (xs.length - c) cap') (xs.drop c) := by
  obtain ⟨a', cap2, e, hm, hc'⟩ := h
  injection e with e1 e2 e3
  subst e1
  have hl : (xs.drop c).length = xs.length - c := by simp
  refine ⟨_, cap', by rw [hl], by rw [hl]; exact hcap, fun i hi => ?_⟩
  rw [hl] at hi
  obtain ⟨b1, off1, v3, v4, eb, hbl, c0, c1, c2, c3, c4, c5, h3, h4⟩ := hc' (c + i) (by omega)
  injection eb with eb
  injection eb with eb1 eb2
  subst eb1 eb2
  have e : nth En.z (xs.drop c) i = nth En.z xs (c + i) := by rw [nth_eq _ _ i (by rw [hl]; exact hi), nth_eq _ _ (c + i) (by omega)]; simp
  rw [e]
  have ea : off + (c + i) * 6 = off + c * 6 + i * 6 := by omega
  rw [ea] at c0 c1 c2 c3 c4 c5
  exact ⟨b, off + c * 6, v3, v4, rfl, hbl, c0, c1, c2, c3, c4, c5, h3, h4⟩
theorem EnsAt.zero {w : World} (a : Option Addr) (cap : Nat) (hcap : cap ≤ 9223372036854775807) : EnsAt w (.slice a 0 cap) [] := ⟨a, cap, rfl, ⟨Nat.zero_le _, hcap⟩, fun i hi => absurd hi (Nat.not_lt_zero _)⟩
theorem EnsAt.block {w : World} {a : Option Addr} {n cap : Nat} {xs : List En} (h : EnsAt w (.slice a n cap) xs) (h0 : 0 < xs.length) : ∃ b off, a = some ⟨b, off, none⟩ := by
  obtain ⟨a', cap', e, _, hc⟩ := h
  injection e with e1
  subst e1
  obtain ⟨b, off, _, _, e, _⟩ := hc 0 h0
  exact ⟨b, off, e⟩
end Go.Proofs.Ytgbgjljflgbcaaa
