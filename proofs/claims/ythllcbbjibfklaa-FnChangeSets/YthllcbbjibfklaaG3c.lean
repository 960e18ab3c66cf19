/- Drawn changes are in form. -/
import Derived.Test.YthllcbbjibfklaaD3c
import Derived.Test.YthllcbbjibfklaaG3
namespace Go.Proofs.Ythllcbbjibfklaa
open Go.RowKit
set_option linter.unusedSimpArgs false
set_option linter.unusedVariables false

set_option maxHeartbeats 2000000 in
theorem drawChangeReads_ok (a : Option Addr) (n cap : Nat) (w : World) (h : Bytes w a n) (hc : n ≤ cap) (hn : cap ≤ 9223372036854775807) :
    Calls Try.prog 16 #[.slice a n cap] w fun e w' => ∃ (ad : Option Addr) (k : Nat) (ds : List De), e = .returned (.slice ad ds.length k) ∧ OwnDe w.heap.size w' (.slice ad ds.length k) ds ∧ (∀ x, x ∈ ds → deB x 3 = true) ∧ ds.length ≤ 10 ∧ Below w.heap.size w w' := by
  obtain ⟨i0, hi, hz0, hz1, hz2⟩ := info_parts Try.info_deed
  have HBy := (show Hid (Bytes _ _ _) from h)
  clear h
  go_enter Try.func16, Try.ntmps16
  go_wp2_with fail
  refine (l6Open_any a n cap _ HBy.out hc hn).mono ?_
  rintro e w1 ⟨rfl, hR1, hb1⟩
  have HF1 : Hid (Fr w.heap.size w.heap.size w w1) := Fr.of_below hb1
  clear hb1 HBy
  go_wp2_with fail
  refine (l71Deeds_ok (w.heap.size + 1) w.heap.size _ 3 _ hR1 (by omega) (by omega) (by omega)).mono ?_
  rintro e w3 ⟨dv, ds, p3, rfl, hd3, hA3, hl3, hp3, hp3', hR3, hF3⟩
  have hB1 := hR1.le
  have HF3 : Hid (Fr w.heap.size w.heap.size w w3) := HF1.out.trans (hF3.mono HF1.out.size)
  have HD3 : Hid (OwnDe (w.heap.size + 1) w3 dv ds) := own_base hd3 hB1
  clear hF3 hR1 HF1 hd3
  have HA3 := (show Hid (∀ x, x ∈ ds → deB x 3 = true) from hA3)
  clear hA3
  obtain ⟨ad, cd, rfl, _⟩ := own_shape HD3.out
  go_wp2_with fail
  refine (l71Deeds_ok (w.heap.size + 1) w.heap.size p3 3 _ hR3 (by omega) (by omega) (by omega)).mono ?_
  rintro e w4 ⟨ev, es, p4, rfl, he4, hA4, hl4, hp4, hp4', hR4, hF4⟩
  have HF4 : Hid (Fr w.heap.size w.heap.size w w4) := HF3.out.trans (hF4.mono HF3.out.size)
  have HD4 : Hid (OwnDe (w.heap.size + 1) w4 (.slice ad ds.length cd) ds) := own_fr HD3.out hF4 (by omega)
  have hle4 := hR4.le
  have HE4 := (show Hid (OwnDe _ _ _ _) from he4)
  clear hF4 hR3 HF3 HD3 he4 hR4
  have HA4 : Hid (∀ x, x ∈ ds ++ es → deB x 3 = true) := fun x hx => (List.mem_append.1 hx).elim (HA3.out x) (hA4 x)
  clear hA4 HA3
  obtain ⟨ae, ce, rfl, _⟩ := own_shape HE4.out
  go_wp2_with (at_builtin; refine wpList_append_src rfl _ _ 24 rfl (w.heap.size + 1) 35 i0 (.agg #[.int .i64 0, .int .i64 0, .int .i64 0]) 3 24 Try.underlying24 hi hz0 hz1 hz2 rfl (by decide) _ _ _ rfl HD4.out _ _ _ (deCells es) rfl HE4.out.1 ?b1 (de_oneG es) ?b3 ?b4 ?b5 ?_)
  case b1 => exact own_srcG HE4.out
  case b3 => unfold maxLen; omega
  case b4 => omega
  case b5 => exact hle4
  intro v' w8 hown' hgrow
  have HD8 : Hid (OwnDe (w.heap.size + 1) w8 v' (ds ++ es)) := by
    unfold Hid OwnDe
    rw [show deCells (ds ++ es) = deCells ds ++ deCells es by simp [deCells], List.length_append]; exact hown'
  have hge : ∀ g, (Value.slice ad ds.length cd).ownBlock = some g → w.heap.size + 1 ≤ g := fun g hg => (HD4.out.lt g hg).1
  have HF8 : Hid (Fr w.heap.size w.heap.size w w8) := HF4.out.grown hgrow HF4.out.size (fun g hg => by have := hge g hg; omega)
  clear hown' hgrow HD4 HF4 hge HE4
  obtain ⟨av, kv, rfl, _⟩ := own_shape HD8.out
  go_wp2_with fail
  go_ret
  exact ⟨av, kv, ds ++ es, rfl, own_base HD8.out (by omega), HA4.out, by simp; omega, HF8.out.below (Nat.le_refl _)⟩

set_option maxHeartbeats 400000 in
theorem drawChangeWrites_ok (a : Option Addr) (n cap : Nat) (w : World) (h : Bytes w a n) (hc : n ≤ cap) (hn : cap ≤ 9223372036854775807) :
    Calls Try.prog 20 #[.slice a n cap] w fun e w' => ∃ (ad : Option Addr) (k : Nat) (ds : List De), e = .returned (.slice ad ds.length k) ∧ OwnDe w.heap.size w' (.slice ad ds.length k) ds ∧ (∀ x, x ∈ ds → deB x 3 = true) ∧ ds.length ≤ 10 ∧ Below w.heap.size w w' := by
  have HBy := (show Hid (Bytes _ _ _) from h)
  clear h
  go_enter Try.func20, Try.ntmps20
  go_wp2_with fail
  refine (drawChangeReads_ok a n cap _ HBy.out hc hn).mono ?_
  rintro e w1 ⟨ad, k, ds, rfl, ho, hal, hl, hb⟩
  have HAL := (show Hid (∀ x, x ∈ ds → deB x 3 = true) from hal)
  clear hal
  have HO := (show Hid (OwnDe _ _ _ _) from ho)
  have HB := (show Hid (Below _ _ _) from hb)
  clear ho hb
  go_wp2_with fail
  go_ret
  exact ⟨ad, k, ds, rfl, HO.out, HAL.out, hl, HB.out⟩


end Go.Proofs.Ythllcbbjibfklaa
