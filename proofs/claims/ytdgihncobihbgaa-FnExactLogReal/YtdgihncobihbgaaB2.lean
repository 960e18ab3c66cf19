/-
  The walk of FnExactLogReal.
-/
import Derived.Test.YtdgihncobihbgaaB1
import Derived.Test.YtdgihncobihbgaaY1c
import Derived.Test.YtdgihncobihbgaaY2
import Derived.Test.YtdgihncobihbgaaY3
namespace Go.Proofs.Ytdgihncobihbgaa
open Go.RowKit
set_option linter.unusedSimpArgs false
set_option linter.unusedVariables false
set_option maxRecDepth 20000

set_option maxHeartbeats 4000000 in
theorem exactLogReal_walk (xs : List En) (v : Value) (w : World) (h : EnsAt w v xs) :
    Calls Try.prog 6 #[v] w fun r w' => r = .returned (.bool true) ∧ Below w.heap.size w w' := by
  obtain ⟨a, c, rfl, hm⟩ := h.shape
  have H := (show Hid (EnsAt _ _ _) from h)
  clear h
  go_enter Try.func6, Try.ntmps6
  go_wp2_with fail
  refine (szEntryS_th _ xs 1048576 _ H.out (by omega) (by omega)).mono ?_
  rintro e w1 ⟨q, rfl, q1, q2, q3, hb1⟩
  have HB1 := (show Hid (Below _ _ _) from hb1)
  clear hb1
  by_cases hneg : q < 0
  · clear q3
    go_wp2_with fail
    go_ret
    exact ⟨rfl, HB1.out⟩
  have hsm := q3 (by omega)
  have HSM := (show Hid (SmsEn _) from hsm)
  have hlen : xs.length ≤ 1048576 := hsm.1
  clear q3 hsm
  go_wp2_with fail
  refine (toEntryS_th _ xs _ (H.out.mono HB1.out) HSM.out).mono ?_
  rintro e w2 ⟨v2, rfl, h2, hb2, hz2⟩
  obtain ⟨a2, k2, rfl, _⟩ := h2.shape
  have H2 := (show Hid (EnsAt _ _ _) from h2.at)
  have HB2 : Hid (Below w.heap.size w w2) := below_then HB1.out HB1.out.size hb2
  clear h2 hb2 hz2 HB1
  go_wp2_with fail
  refine (sLogReal_any _ xs _ H2.out hlen).mono ?_
  rintro e w3 ⟨⟨sb, rfl, hsb⟩, hb3⟩
  have HB3 : Hid (Below w.heap.size w w3) := below_then HB2.out HB2.out.size hb3
  have HSB := (show Hid (sb = true ↔ LrP xs) from hsb)
  clear hb3 HB2 H2 hsb
  go_wp2_with fail
  refine (toEntryS_th _ xs _ (H.out.mono HB3.out) HSM.out).mono ?_
  rintro e w4 ⟨v4, rfl, h4, hb4, hz4⟩
  obtain ⟨a4, k4, rfl, _⟩ := h4.shape
  have HX4 := (show Hid (EnsAt _ _ _) from h4.at)
  have HB4 : Hid (Below w.heap.size w w4) := below_then HB3.out HB3.out.size hb4
  clear h4 hb4 hz4 HB3
  go_wp2_with fail
  refine (logReal_any _ xs _ HX4.out hlen).mono ?_
  rintro e w5 ⟨⟨gb, rfl, hgb⟩, hb5⟩
  have hbb : gb = sb := eq_of_iff hgb HSB.out
  subst hbb
  have HX5 := (show Hid (EnsAt _ _ _) from HX4.out.mono hb5)
  have HB5 : Hid (Below w.heap.size w w5) := below_then HB4.out HB4.out.size hb5
  have hbe : (gb == gb) = true := by simp
  clear hb5 HX4 HB4 HSB hgb
  go_wp2_with fail
  refine (toEntryS_th _ xs _ (H.out.mono HB5.out) HSM.out).mono ?_
  rintro e w6 ⟨v6, rfl, h6, hb6, hz6⟩
  obtain ⟨a6, k6, rfl, _⟩ := h6.shape
  have H6 := (show Hid (EnsAt _ _ _) from h6.at)
  have HX6 := (show Hid (EnsAt _ _ _) from HX5.out.mono hb6)
  have HB6 : Hid (Below w.heap.size w w6) := below_then HB5.out HB5.out.size hb6
  clear h6 hb6 hz6 HX5 HB5
  go_wp2_with fail
  refine (eqEntryS_same _ _ xs _ HX6.out H6.out).mono ?_
  rintro e w7 ⟨rfl, hb7⟩
  have HB7 : Hid (Below w.heap.size w w7) := below_then HB6.out HB6.out.size hb7
  clear hb7 HX6 H6 HB6
  go_wp2_with fail
  go_ret
  exact ⟨rfl, HB7.out⟩

end Go.Proofs.Ytdgihncobihbgaa
