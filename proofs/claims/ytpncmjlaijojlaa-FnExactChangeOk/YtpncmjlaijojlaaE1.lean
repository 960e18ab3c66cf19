import Derived.Test.YtpncmjlaijojlaaX5
import Derived.Test.YtpncmjlaijojlaaC1
namespace Go.Proofs.Ytpncmjlaijojlaa
open Go.RowKit
set_option linter.unusedSimpArgs false
set_option linter.unusedVariables false

set_option maxHeartbeats 1000000 in
theorem exactChangeOk_walk (ds : List De) (n : Int) (dv : Value) (w : World) (hd : DeedsAt w dv ds) (hn : n ≤ 9223372036854775807) :
    Calls Try.prog 9 #[dv, .int .i64 n] w fun r w' => r = .returned (.bool true) ∧ Below w.heap.size w w' := by
  obtain ⟨ad, cd, rfl, hmd⟩ := hd.shape
  have HD := (show Hid (DeedsAt _ _ _) from hd)
  clear hd
  go_enter Try.func9, Try.ntmps9
  go_wp2_with fail
  refine (szDeedS_any _ _ _ 1048576 _ hmd (by omega) (by omega)).mono ?_
  rintro e w1 ⟨q, rfl, q1, q2, q3, hw⟩
  have hw := hw.symm
  subst hw
  by_cases hneg : q < 0
  · go_wp2_with fail
    go_ret
    exact ⟨rfl, Below.refl _ _⟩
  have hsm := q3 (by omega)
  clear q3
  go_wp2_with fail
  refine (toDeedS_any _ ds _ HD.out hsm).mono ?_
  rintro e w2 ⟨v2, rfl, h2, hb2⟩
  obtain ⟨a2, k2, rfl, _⟩ := h2.shape
  have H2 : Hid (DeedsAt w2 _ ds) := h2.at
  have HB2 := (show Hid (Below _ _ _) from hb2)
  clear h2 hb2
  go_wp2_with fail
  refine (sChangeOk_any _ ds n _ H2.out hn).mono ?_
  rintro e w3 ⟨rfl, hb3⟩
  have HB3 : Hid (Below w.heap.size w w3) := below_then HB2.out HB2.out.size hb3
  clear hb3 HB2 H2
  generalize hok : chB ds n = ok
  have HOK := (show Hid _ from hok)
  clear hok
  go_wp2_with fail
  refine (toDeedS_any _ ds _ (HD.out.mono HB3.out) hsm).mono ?_
  rintro e w4 ⟨v4, rfl, h4, hb4⟩
  obtain ⟨a4, k4, rfl, _⟩ := h4.shape
  have H4 : Hid (DeedsAt w4 _ ds) := h4.at
  have HB4 : Hid (Below w.heap.size w w4) := below_then HB3.out HB3.out.size hb4
  clear h4 hb4 HB3
  go_wp2_with fail
  refine (changeOk_any _ ds n _ H4.out).mono ?_
  rintro e w5 ⟨rfl, hb5⟩
  rw [HOK.out]
  have H5 : Hid (DeedsAt w5 _ ds) := H4.out.mono hb5
  have HB5 : Hid (Below w.heap.size w w5) := below_then HB4.out HB4.out.size hb5
  clear hb5 HB4 H4
  go_wp2_with fail
  refine (toDeedS_any _ ds _ (HD.out.mono HB5.out) hsm).mono ?_
  rintro e w6 ⟨v6, rfl, h6, hb6⟩
  obtain ⟨a6, k6, rfl, _⟩ := h6.shape
  have H6 : Hid (DeedsAt w6 _ ds) := h6.at
  have H6' : Hid (DeedsAt w6 _ ds) := H5.out.mono hb6
  have HB6 : Hid (Below w.heap.size w w6) := below_then HB5.out HB5.out.size hb6
  clear h6 hb6 HB5 H5
  go_wp2_with fail
  refine (eqDeedS_same _ _ ds _ H6'.out H6.out).mono ?_
  rintro e w7 ⟨rfl, hb7⟩
  have HB7 : Hid (Below w.heap.size w w7) := below_then HB6.out HB6.out.size hb7
  clear hb7
  go_wp2_with fail
  go_ret
  exact ⟨rfl, HB7.out⟩

end Go.Proofs.Ytpncmjlaijojlaa
