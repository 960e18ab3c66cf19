import Derived.Test.YtnbgonmdjgapnaaBase13
import Derived.Test.YtnbgonmdjgapnaaBase14
namespace Go.Proofs.Ytnbgonmdjgapnaa
open Go.RowKit
set_option linter.unusedSimpArgs false
set_option linter.unusedVariables false
set_option maxRecDepth 20000
theorem cells_at (W : World) (M : List Value) (t : TypeId) (H : Nat) (hH : W.heap.size = H) : ∀ j u, M[j]? = some u → (W.alloc (.cells M.toArray t)).cell? ((⟨H, 0, none⟩ : Addr).add j) = some u := fun j u hu => by
  subst hH
  rw [Go.WideShapes.add_plain, Nat.zero_add]
  simpa using hu
theorem own_blw {C : Nat} {w w' : World} {B : Nat} {e : TypeId} {size : Nat} {v : Value} {n : Nat} {xs : List Value} (h : w.ownsRow B e size v n xs) (hb : Below C w w') (hC : w.heap.size ≤ C) : w'.ownsRow B e size v n xs :=
  row_heap h fun g hg => hb.block g (Nat.lt_of_lt_of_le (h.lt g hg).2 hC)
set_option maxHeartbeats 8000000 in
theorem l11Add_any (v : Value) (xs : List Pu) (x : Pu) (w : World) (h : PusAt w v xs) (hn : xs.length ≤ 1048576) :
    Calls Try.prog 205 #[v, .agg #[.int .i64 x.c, .int .i64 x.n]] w fun r w' => ∃ a c, r = .returned (.slice a (addP xs x).length c) ∧ w'.ownsRow w.heap.size 53 2 (.slice a (addP xs x).length c) (addP xs x).length ((addP xs x).flatMap puC) ∧ Below w.heap.size w w' := by
  obtain ⟨i0, hi, hz0, hz1, hz2⟩ := info_parts (P := Try.prog) (e := 53) (z := .agg #[.int .i64 0, .int .i64 0]) (size := 2) (bytes := 16) (by kernel_rfl)
  obtain ⟨a, cap, rfl, hm, hc⟩ := h
  go_enter Try.func205, Try.ntmps205
  go_wp2_with fail
  go_loopw [5, 6, 7] (fun o d q w' => ∃ (k : Nat) (ys : List Pu) (dn : Bool), k ≤ xs.length ∧ q = .int .i64 k ∧ d = .bool dn ∧ (xs.take k).foldl (addSt x) ([], false) = (ys, dn) ∧ ys.length ≤ 2 * k ∧ w'.ownsRow (w.heap.size + 1) 53 2 o ys.length (ys.flatMap puC) ∧ Below (w.heap.size + 1) (w.alloc (.cells #[.int .i64 x.c, .int .i64 x.n] 53)) w') (fun _ _ q _ => xs.length - (intOf q).toNat)
  case atStart => exact ⟨0, [], false, Nat.zero_le _, rfl, rfl, rfl, by simp, by have := own_new (w.alloc (.cells #[.int .i64 x.c, .int .i64 x.n] 53)) 53 2 (by omega); simpa using this, (Below.refl _ _).alloc (by simp) _⟩
  case round =>
    obtain ⟨k, ys, dn, hk, rfl, rfl, hxs, hyl, hown, hb⟩ := hrel
    have HX := (show Hid (_ = _) from hxs)
    have HO := (show Hid (World.ownsRow _ _ _ _ _ _ _) from hown)
    have HB := (show Hid (Below _ _ _) from hb)
    obtain ⟨oa, oc, rfl, _⟩ := own_shape hown
    clear hxs hown hb
    by_cases hlt : k < xs.length
    · have hlt' : (k : Int) < (xs.length : Int) := by omega
      obtain ⟨b, off, rfl, hbw, c0, c1⟩ := hc k hlt
      clear hc
      obtain ⟨q0wr, q1wr⟩ : wr.cell? ⟨w.heap.size, 0, none⟩ = some (.int .i64 x.c) ∧ wr.cell? ⟨w.heap.size, 1, none⟩ = some (.int .i64 x.n) := by
        rw [HB.out.cell (p := ⟨w.heap.size, 0, none⟩) (by simp), HB.out.cell (p := ⟨w.heap.size, 1, none⟩) (by simp)]
        simp
      have zzwr : w.heap.size < wr.heap.size := by have := HB.out.size; simp at this; omega
      have c0wr : wr.cell? ⟨b, off + k * 2, none⟩ = some (.int .i64 (nth Pu.z xs k).c) := by rw [HB.out.cell (p := ⟨b, off + k * 2, none⟩) (by show b < w.heap.size + 1; omega)]; simpa [go_sem, hbw] using c0
      have c1wr : wr.cell? ⟨b, off + k * 2 + 1, none⟩ = some (.int .i64 (nth Pu.z xs k).n) := by rw [HB.out.cell (p := ⟨b, off + k * 2 + 1, none⟩) (by show b < w.heap.size + 1; omega)]; simpa [go_sem, hbw] using c1
      have zbwr : b < wr.heap.size := by omega
      have HE : Hid (xs[k] = nth Pu.z xs k) := (nth_eq Pu.z xs k hlt).symm
      by_cases qe : (nth Pu.z xs k).c = x.c
      · have qe1 : ((nth Pu.z xs k).c != x.c) = false := by simp [qe]
        have qg1 : decide ((nth Pu.z xs k).c ≥ x.c) = true := by simp; omega
        cases dn
        · have HT : Hid ([xs[k]].foldl (addSt x) (ys, false) = (ys ++ [x], true)) := by
            unfold Hid; rw [HE.out]; simp [addSt, qe]
          clear HE qe
          go_wp2_with fail
          go_quiet (fail)
          go_wp2_with (at_builtin; refine wpList_append_own _ rfl _ _ 54 rfl (w.heap.size + 1) 53 i0 (.agg #[.int .i64 0, .int .i64 0]) 2 16 Try.underlying54 hi hz0 hz1 hz2 rfl (by decide) _ _ _ rfl (own_blw HO.out (by repeat (first | with_reducible exact Below.refl _ _ | (with_reducible refine Below.setCell ?_ ?hs _; case hs => ((try simp); try omega)) | (with_reducible refine Below.alloc ?_ ?hs _; case hs => ((try simp); try omega)) | with_reducible refine Below.drew ?_ | with_reducible refine below_drewN ?_ _)) (Nat.le_refl _)) ⟨wr.heap.size, 0, none⟩ 1 1 [.int .i64 x.c, .int .i64 x.n] rfl rfl (cells_at _ [.int .i64 x.c, .int .i64 x.n] _ _ (by first | rfl | simp | simp [go_sem])) (fun u hu => by simp at hu; rcases hu with rfl | rfl <;> rfl) (by unfold maxLen; omega) (by omega) (by (try simp); omega) ?_)
          intro v4 w4 hown' hgrow _
          have HO4 : Hid (World.ownsRow w4 (w.heap.size + 1) 53 2 v4 (ys ++ [x]).length ((ys ++ [x]).flatMap puC)) := by
            unfold Hid
            rw [List.length_append, List.flatMap_append]
            (try rw [hl4])
            first | exact hown' | (simpa [puC] using hown')
          have HB4 : Hid (Below (w.heap.size + 1) (w.alloc (.cells #[.int .i64 x.c, .int .i64 x.n] 53)) w4) := Below.grown (by repeat (first | with_reducible exact HB.out | (with_reducible refine Below.setCell ?_ ?hs _; case hs => ((try simp); try omega)) | (with_reducible refine Below.alloc ?_ ?hs _; case hs => ((try simp); try omega)) | with_reducible refine Below.drew ?_ | with_reducible refine below_drewN ?_ _)) hgrow (by (try simp); omega) (fun b hb => (HO.out.lt b hb).1)
          clear hown' hgrow
          obtain ⟨va4, vc4, e4, _⟩ := own_shape HO4.out
          have hl4 : (ys ++ [x]).length = ys.length + 1 := by simp
          rw [hl4] at e4
          subst e4
          have HO4s : Hid (World.ownsRow w4 (w.heap.size + 1) 53 2 (.slice va4 (ys.length + 1) vc4) (ys.length + 1) ((ys ++ [x]).flatMap puC)) := by have := HO4.out; rw [hl4] at this; exact this
          obtain ⟨q0w4, q1w4⟩ : w4.cell? ⟨w.heap.size, 0, none⟩ = some (.int .i64 x.c) ∧ w4.cell? ⟨w.heap.size, 1, none⟩ = some (.int .i64 x.n) := by
            rw [HB4.out.cell (p := ⟨w.heap.size, 0, none⟩) (by simp), HB4.out.cell (p := ⟨w.heap.size, 1, none⟩) (by simp)]
            simp
          have zzw4 : w.heap.size < w4.heap.size := by have := HB4.out.size; simp at this; omega
          have c0w4 : w4.cell? ⟨b, off + k * 2, none⟩ = some (.int .i64 (nth Pu.z xs k).c) := by rw [HB4.out.cell (p := ⟨b, off + k * 2, none⟩) (by show b < w.heap.size + 1; omega)]; simpa [go_sem, hbw] using c0
          have c1w4 : w4.cell? ⟨b, off + k * 2 + 1, none⟩ = some (.int .i64 (nth Pu.z xs k).n) := by rw [HB4.out.cell (p := ⟨b, off + k * 2 + 1, none⟩) (by show b < w.heap.size + 1; omega)]; simpa [go_sem, hbw] using c1
          have zbw4 : b < w4.heap.size := by omega
          go_wp2_with fail
          (try go_quiet (fail))
          go_wp2_with fail
          go_roundw
          case rel => exact ⟨k + 1, ys ++ [x], true, by omega, by go_num, rfl, by rw [List.take_succ_eq_append_getElem hlt, List.foldl_append, HX.out]; exact HT.out, (by (try simp); omega), own_blw HO4.out (by repeat (first | with_reducible exact Below.refl _ _ | (with_reducible refine Below.setCell ?_ ?hs _; case hs => ((try simp); try omega)) | (with_reducible refine Below.alloc ?_ ?hs _; case hs => ((try simp); try omega)) | with_reducible refine Below.drew ?_ | with_reducible refine below_drewN ?_ _)) (Nat.le_refl _), (by repeat (first | with_reducible exact HB4.out | (with_reducible refine Below.setCell ?_ ?hs _; case hs => ((try simp); try omega)) | (with_reducible refine Below.alloc ?_ ?hs _; case hs => ((try simp); try omega)) | with_reducible refine Below.drew ?_ | with_reducible refine below_drewN ?_ _))⟩
          case measure => simp [intOf]; omega
        · have HT : Hid ([xs[k]].foldl (addSt x) (ys, true) = (ys, true)) := by
            unfold Hid; rw [HE.out]; simp [addSt, qe]
          clear HE qe
          go_wp2_with fail
          go_quiet (fail)
          go_wp2_with fail
          (try go_quiet (fail))
          go_wp2_with fail
          go_roundw
          case rel => exact ⟨k + 1, ys, true, by omega, by go_num, rfl, by rw [List.take_succ_eq_append_getElem hlt, List.foldl_append, HX.out]; exact HT.out, (by (try simp); omega), own_blw HO.out (by repeat (first | with_reducible exact Below.refl _ _ | (with_reducible refine Below.setCell ?_ ?hs _; case hs => ((try simp); try omega)) | (with_reducible refine Below.alloc ?_ ?hs _; case hs => ((try simp); try omega)) | with_reducible refine Below.drew ?_ | with_reducible refine below_drewN ?_ _)) (Nat.le_refl _), (by repeat (first | with_reducible exact HB.out | (with_reducible refine Below.setCell ?_ ?hs _; case hs => ((try simp); try omega)) | (with_reducible refine Below.alloc ?_ ?hs _; case hs => ((try simp); try omega)) | with_reducible refine Below.drew ?_ | with_reducible refine below_drewN ?_ _))⟩
          case measure => simp [intOf]; omega
      · have qe1 : ((nth Pu.z xs k).c != x.c) = true := by simp [qe]
        cases dn
        · by_cases qg : x.c ≤ (nth Pu.z xs k).c
          · have qg1 : decide ((nth Pu.z xs k).c ≥ x.c) = true := by simp [qg]
            have HT : Hid ([xs[k]].foldl (addSt x) (ys, false) = ((ys ++ [x]) ++ [nth Pu.z xs k], true)) := by
              unfold Hid; rw [HE.out]; simp [addSt, qe, qg]
            clear HE qe qg
            go_wp2_with fail
            go_quiet (fail)
            go_wp2_with (at_builtin; refine wpList_append_own _ rfl _ _ 54 rfl (w.heap.size + 1) 53 i0 (.agg #[.int .i64 0, .int .i64 0]) 2 16 Try.underlying54 hi hz0 hz1 hz2 rfl (by decide) _ _ _ rfl (own_blw HO.out (by repeat (first | with_reducible exact Below.refl _ _ | (with_reducible refine Below.setCell ?_ ?hs _; case hs => ((try simp); try omega)) | (with_reducible refine Below.alloc ?_ ?hs _; case hs => ((try simp); try omega)) | with_reducible refine Below.drew ?_ | with_reducible refine below_drewN ?_ _)) (Nat.le_refl _)) ⟨wr.heap.size, 0, none⟩ 1 1 [.int .i64 x.c, .int .i64 x.n] rfl rfl (cells_at _ [.int .i64 x.c, .int .i64 x.n] _ _ (by first | rfl | simp | simp [go_sem])) (fun u hu => by simp at hu; rcases hu with rfl | rfl <;> rfl) (by unfold maxLen; omega) (by omega) (by (try simp); omega) ?_)
            intro v4 w4 hown' hgrow _
            have HO4 : Hid (World.ownsRow w4 (w.heap.size + 1) 53 2 v4 (ys ++ [x]).length ((ys ++ [x]).flatMap puC)) := by
              unfold Hid
              rw [List.length_append, List.flatMap_append]
              (try rw [hl4])
              first | exact hown' | (simpa [puC] using hown')
            have HB4 : Hid (Below (w.heap.size + 1) (w.alloc (.cells #[.int .i64 x.c, .int .i64 x.n] 53)) w4) := Below.grown (by repeat (first | with_reducible exact HB.out | (with_reducible refine Below.setCell ?_ ?hs _; case hs => ((try simp); try omega)) | (with_reducible refine Below.alloc ?_ ?hs _; case hs => ((try simp); try omega)) | with_reducible refine Below.drew ?_ | with_reducible refine below_drewN ?_ _)) hgrow (by (try simp); omega) (fun b hb => (HO.out.lt b hb).1)
            clear hown' hgrow
            obtain ⟨va4, vc4, e4, _⟩ := own_shape HO4.out
            have hl4 : (ys ++ [x]).length = ys.length + 1 := by simp
            rw [hl4] at e4
            subst e4
            have HO4s : Hid (World.ownsRow w4 (w.heap.size + 1) 53 2 (.slice va4 (ys.length + 1) vc4) (ys.length + 1) ((ys ++ [x]).flatMap puC)) := by have := HO4.out; rw [hl4] at this; exact this
            obtain ⟨q0w4, q1w4⟩ : w4.cell? ⟨w.heap.size, 0, none⟩ = some (.int .i64 x.c) ∧ w4.cell? ⟨w.heap.size, 1, none⟩ = some (.int .i64 x.n) := by
              rw [HB4.out.cell (p := ⟨w.heap.size, 0, none⟩) (by simp), HB4.out.cell (p := ⟨w.heap.size, 1, none⟩) (by simp)]
              simp
            have zzw4 : w.heap.size < w4.heap.size := by have := HB4.out.size; simp at this; omega
            have c0w4 : w4.cell? ⟨b, off + k * 2, none⟩ = some (.int .i64 (nth Pu.z xs k).c) := by rw [HB4.out.cell (p := ⟨b, off + k * 2, none⟩) (by show b < w.heap.size + 1; omega)]; simpa [go_sem, hbw] using c0
            have c1w4 : w4.cell? ⟨b, off + k * 2 + 1, none⟩ = some (.int .i64 (nth Pu.z xs k).n) := by rw [HB4.out.cell (p := ⟨b, off + k * 2 + 1, none⟩) (by show b < w.heap.size + 1; omega)]; simpa [go_sem, hbw] using c1
            have zbw4 : b < w4.heap.size := by omega
            go_wp2_with fail
            (try go_quiet (fail))
            go_wp2_with (at_builtin; refine wpList_append_own _ rfl _ _ 54 rfl (w.heap.size + 1) 53 i0 (.agg #[.int .i64 0, .int .i64 0]) 2 16 Try.underlying54 hi hz0 hz1 hz2 rfl (by decide) _ _ _ rfl (own_blw HO4s.out (by repeat (first | with_reducible exact Below.refl _ _ | (with_reducible refine Below.setCell ?_ ?hs _; case hs => ((try simp); try omega)) | (with_reducible refine Below.alloc ?_ ?hs _; case hs => ((try simp); try omega)) | with_reducible refine Below.drew ?_ | with_reducible refine below_drewN ?_ _)) (Nat.le_refl _)) ⟨w4.heap.size, 0, none⟩ 1 1 [.int .i64 (nth Pu.z xs k).c, .int .i64 (nth Pu.z xs k).n] rfl rfl (cells_at _ [.int .i64 (nth Pu.z xs k).c, .int .i64 (nth Pu.z xs k).n] _ _ (by first | rfl | simp | simp [go_sem])) (fun u hu => by simp at hu; rcases hu with rfl | rfl <;> rfl) (by unfold maxLen; omega) (by omega) (by (try simp); omega) ?_)
            intro v5 w5 hown' hgrow _
            have HO5 : Hid (World.ownsRow w5 (w.heap.size + 1) 53 2 v5 ((ys ++ [x]) ++ [nth Pu.z xs k]).length (((ys ++ [x]) ++ [nth Pu.z xs k]).flatMap puC)) := by
              unfold Hid
              rw [List.length_append, List.flatMap_append]
              (try rw [hl4])
              first | exact hown' | (simpa [puC] using hown')
            have HB5 : Hid (Below (w.heap.size + 1) (w.alloc (.cells #[.int .i64 x.c, .int .i64 x.n] 53)) w5) := Below.grown (by repeat (first | with_reducible exact HB4.out | (with_reducible refine Below.setCell ?_ ?hs _; case hs => ((try simp); try omega)) | (with_reducible refine Below.alloc ?_ ?hs _; case hs => ((try simp); try omega)) | with_reducible refine Below.drew ?_ | with_reducible refine below_drewN ?_ _)) hgrow (by (try simp); omega) (fun b hb => (HO4s.out.lt b hb).1)
            clear hown' hgrow
            obtain ⟨va5, vc5, rfl, _⟩ := own_shape HO5.out
            go_wp2_with fail
            go_roundw
            case rel => exact ⟨k + 1, (ys ++ [x]) ++ [nth Pu.z xs k], true, by omega, by go_num, rfl, by rw [List.take_succ_eq_append_getElem hlt, List.foldl_append, HX.out]; exact HT.out, (by (try simp); omega), own_blw HO5.out (by repeat (first | with_reducible exact Below.refl _ _ | (with_reducible refine Below.setCell ?_ ?hs _; case hs => ((try simp); try omega)) | (with_reducible refine Below.alloc ?_ ?hs _; case hs => ((try simp); try omega)) | with_reducible refine Below.drew ?_ | with_reducible refine below_drewN ?_ _)) (Nat.le_refl _), (by repeat (first | with_reducible exact HB5.out | (with_reducible refine Below.setCell ?_ ?hs _; case hs => ((try simp); try omega)) | (with_reducible refine Below.alloc ?_ ?hs _; case hs => ((try simp); try omega)) | with_reducible refine Below.drew ?_ | with_reducible refine below_drewN ?_ _))⟩
            case measure => simp [intOf]; omega
          · have qg1 : decide ((nth Pu.z xs k).c ≥ x.c) = false := by simp; omega
            have HT : Hid ([xs[k]].foldl (addSt x) (ys, false) = ((ys) ++ [nth Pu.z xs k], false)) := by
              unfold Hid; rw [HE.out]; simp [addSt, qe, qg]
            clear HE qe qg
            go_wp2_with fail
            go_quiet (fail)
            go_wp2_with fail
            (try go_quiet (fail))
            go_wp2_with (at_builtin; refine wpList_append_own _ rfl _ _ 54 rfl (w.heap.size + 1) 53 i0 (.agg #[.int .i64 0, .int .i64 0]) 2 16 Try.underlying54 hi hz0 hz1 hz2 rfl (by decide) _ _ _ rfl (own_blw HO.out (by repeat (first | with_reducible exact Below.refl _ _ | (with_reducible refine Below.setCell ?_ ?hs _; case hs => ((try simp); try omega)) | (with_reducible refine Below.alloc ?_ ?hs _; case hs => ((try simp); try omega)) | with_reducible refine Below.drew ?_ | with_reducible refine below_drewN ?_ _)) (Nat.le_refl _)) ⟨wr.heap.size, 0, none⟩ 1 1 [.int .i64 (nth Pu.z xs k).c, .int .i64 (nth Pu.z xs k).n] rfl rfl (cells_at _ [.int .i64 (nth Pu.z xs k).c, .int .i64 (nth Pu.z xs k).n] _ _ (by first | rfl | simp | simp [go_sem])) (fun u hu => by simp at hu; rcases hu with rfl | rfl <;> rfl) (by unfold maxLen; omega) (by omega) (by (try simp); omega) ?_)
            intro v5 w5 hown' hgrow _
            have HO5 : Hid (World.ownsRow w5 (w.heap.size + 1) 53 2 v5 ((ys) ++ [nth Pu.z xs k]).length (((ys) ++ [nth Pu.z xs k]).flatMap puC)) := by
              unfold Hid
              rw [List.length_append, List.flatMap_append]
              (try rw [hl4])
              first | exact hown' | (simpa [puC] using hown')
            have HB5 : Hid (Below (w.heap.size + 1) (w.alloc (.cells #[.int .i64 x.c, .int .i64 x.n] 53)) w5) := Below.grown (by repeat (first | with_reducible exact HB.out | (with_reducible refine Below.setCell ?_ ?hs _; case hs => ((try simp); try omega)) | (with_reducible refine Below.alloc ?_ ?hs _; case hs => ((try simp); try omega)) | with_reducible refine Below.drew ?_ | with_reducible refine below_drewN ?_ _)) hgrow (by (try simp); omega) (fun b hb => (HO.out.lt b hb).1)
            clear hown' hgrow
            obtain ⟨va5, vc5, rfl, _⟩ := own_shape HO5.out
            go_wp2_with fail
            go_roundw
            case rel => exact ⟨k + 1, (ys) ++ [nth Pu.z xs k], false, by omega, by go_num, rfl, by rw [List.take_succ_eq_append_getElem hlt, List.foldl_append, HX.out]; exact HT.out, (by (try simp); omega), own_blw HO5.out (by repeat (first | with_reducible exact Below.refl _ _ | (with_reducible refine Below.setCell ?_ ?hs _; case hs => ((try simp); try omega)) | (with_reducible refine Below.alloc ?_ ?hs _; case hs => ((try simp); try omega)) | with_reducible refine Below.drew ?_ | with_reducible refine below_drewN ?_ _)) (Nat.le_refl _), (by repeat (first | with_reducible exact HB5.out | (with_reducible refine Below.setCell ?_ ?hs _; case hs => ((try simp); try omega)) | (with_reducible refine Below.alloc ?_ ?hs _; case hs => ((try simp); try omega)) | with_reducible refine Below.drew ?_ | with_reducible refine below_drewN ?_ _))⟩
            case measure => simp [intOf]; omega
        · have HT : Hid ([xs[k]].foldl (addSt x) (ys, true) = ((ys) ++ [nth Pu.z xs k], true)) := by
            unfold Hid; rw [HE.out]; simp [addSt, qe]
          clear HE qe
          go_wp2_with fail
          go_quiet (fail)
          go_wp2_with fail
          (try go_quiet (fail))
          go_wp2_with (at_builtin; refine wpList_append_own _ rfl _ _ 54 rfl (w.heap.size + 1) 53 i0 (.agg #[.int .i64 0, .int .i64 0]) 2 16 Try.underlying54 hi hz0 hz1 hz2 rfl (by decide) _ _ _ rfl (own_blw HO.out (by repeat (first | with_reducible exact Below.refl _ _ | (with_reducible refine Below.setCell ?_ ?hs _; case hs => ((try simp); try omega)) | (with_reducible refine Below.alloc ?_ ?hs _; case hs => ((try simp); try omega)) | with_reducible refine Below.drew ?_ | with_reducible refine below_drewN ?_ _)) (Nat.le_refl _)) ⟨wr.heap.size, 0, none⟩ 1 1 [.int .i64 (nth Pu.z xs k).c, .int .i64 (nth Pu.z xs k).n] rfl rfl (cells_at _ [.int .i64 (nth Pu.z xs k).c, .int .i64 (nth Pu.z xs k).n] _ _ (by first | rfl | simp | simp [go_sem])) (fun u hu => by simp at hu; rcases hu with rfl | rfl <;> rfl) (by unfold maxLen; omega) (by omega) (by (try simp); omega) ?_)
          intro v5 w5 hown' hgrow _
          have HO5 : Hid (World.ownsRow w5 (w.heap.size + 1) 53 2 v5 ((ys) ++ [nth Pu.z xs k]).length (((ys) ++ [nth Pu.z xs k]).flatMap puC)) := by
            unfold Hid
            rw [List.length_append, List.flatMap_append]
            (try rw [hl4])
            first | exact hown' | (simpa [puC] using hown')
          have HB5 : Hid (Below (w.heap.size + 1) (w.alloc (.cells #[.int .i64 x.c, .int .i64 x.n] 53)) w5) := Below.grown (by repeat (first | with_reducible exact HB.out | (with_reducible refine Below.setCell ?_ ?hs _; case hs => ((try simp); try omega)) | (with_reducible refine Below.alloc ?_ ?hs _; case hs => ((try simp); try omega)) | with_reducible refine Below.drew ?_ | with_reducible refine below_drewN ?_ _)) hgrow (by (try simp); omega) (fun b hb => (HO.out.lt b hb).1)
          clear hown' hgrow
          obtain ⟨va5, vc5, rfl, _⟩ := own_shape HO5.out
          go_wp2_with fail
          go_roundw
          case rel => exact ⟨k + 1, (ys) ++ [nth Pu.z xs k], true, by omega, by go_num, rfl, by rw [List.take_succ_eq_append_getElem hlt, List.foldl_append, HX.out]; exact HT.out, (by (try simp); omega), own_blw HO5.out (by repeat (first | with_reducible exact Below.refl _ _ | (with_reducible refine Below.setCell ?_ ?hs _; case hs => ((try simp); try omega)) | (with_reducible refine Below.alloc ?_ ?hs _; case hs => ((try simp); try omega)) | with_reducible refine Below.drew ?_ | with_reducible refine below_drewN ?_ _)) (Nat.le_refl _), (by repeat (first | with_reducible exact HB5.out | (with_reducible refine Below.setCell ?_ ?hs _; case hs => ((try simp); try omega)) | (with_reducible refine Below.alloc ?_ ?hs _; case hs => ((try simp); try omega)) | with_reducible refine Below.drew ?_ | with_reducible refine below_drewN ?_ _))⟩
          case measure => simp [intOf]; omega
    · have hk' : ¬ (k : Int) < (xs.length : Int) := by omega
      have hke : k = xs.length := by omega
      subst hke
      have hx2 := HX.out
      rw [List.take_length] at hx2
      obtain ⟨q0, q1⟩ : wr.cell? ⟨w.heap.size, 0, none⟩ = some (.int .i64 x.c) ∧ wr.cell? ⟨w.heap.size, 1, none⟩ = some (.int .i64 x.n) := by
        rw [HB.out.cell (p := ⟨w.heap.size, 0, none⟩) (by simp), HB.out.cell (p := ⟨w.heap.size, 1, none⟩) (by simp)]
        simp
      have zz : w.heap.size < wr.heap.size := by have := HB.out.size; simp at this; omega
      have HBW : Hid (Below w.heap.size w wr) := ((Below.refl _ _).alloc (Nat.le_refl _) _).trans (HB.out.mono (by omega))
      cases dn
      · have HA : Hid (addP xs x = ys ++ [x]) := by unfold Hid addP; rw [hx2]; rfl
        clear hx2 hc
        go_wp2_with (at_builtin; refine wpList_append_own _ rfl _ _ 54 rfl (w.heap.size + 1) 53 i0 (.agg #[.int .i64 0, .int .i64 0]) 2 16 Try.underlying54 hi hz0 hz1 hz2 rfl (by decide) _ _ _ rfl (own_blw HO.out (by repeat (first | with_reducible exact Below.refl _ _ | (with_reducible refine Below.setCell ?_ ?hs _; case hs => ((try simp); try omega)) | (with_reducible refine Below.alloc ?_ ?hs _; case hs => ((try simp); try omega)) | with_reducible refine Below.drew ?_ | with_reducible refine below_drewN ?_ _)) (Nat.le_refl _)) ⟨wr.heap.size, 0, none⟩ 1 1 [.int .i64 x.c, .int .i64 x.n] rfl rfl (cells_at _ [.int .i64 x.c, .int .i64 x.n] _ _ (by first | rfl | simp | simp [go_sem])) (fun u hu => by simp at hu; rcases hu with rfl | rfl <;> rfl) (by unfold maxLen; omega) (by omega) (by (try simp); omega) ?_)
        intro v4 w4 hown' hgrow _
        have HO4 : Hid (World.ownsRow w4 (w.heap.size + 1) 53 2 v4 (ys ++ [x]).length ((ys ++ [x]).flatMap puC)) := by
          unfold Hid
          rw [List.length_append, List.flatMap_append]
          (try rw [hl4])
          first | exact hown' | (simpa [puC] using hown')
        have HB4 : Hid (Below (w.heap.size + 1) (w.alloc (.cells #[.int .i64 x.c, .int .i64 x.n] 53)) w4) := Below.grown (by repeat (first | with_reducible exact HB.out | (with_reducible refine Below.setCell ?_ ?hs _; case hs => ((try simp); try omega)) | (with_reducible refine Below.alloc ?_ ?hs _; case hs => ((try simp); try omega)) | with_reducible refine Below.drew ?_ | with_reducible refine below_drewN ?_ _)) hgrow (by (try simp); omega) (fun b hb => (HO.out.lt b hb).1)
        clear hown' hgrow
        obtain ⟨va4, vc4, rfl, _⟩ := own_shape HO4.out
        have HB5 : Hid (Below w.heap.size w w4) := ((Below.refl _ _).alloc (Nat.le_refl _) _).trans (HB4.out.mono (by omega))
        go_wp2_with fail
        go_ret
        rw [HA.out]
        exact ⟨_, _, rfl, own_base HO4.out (by omega), HB5.out⟩
      · have HA : Hid (addP xs x = ys) := by unfold Hid addP; rw [hx2]; rfl
        clear hx2 hc
        go_wp2_with fail
        go_ret
        rw [HA.out]
        exact ⟨_, _, rfl, own_base HO.out (by omega), HBW.out⟩
end Go.Proofs.Ytnbgonmdjgapnaa

namespace Go.Proofs.Ytnbgonmdjgapnaa
open Go.RowKit
set_option linter.unusedSimpArgs false
set_option linter.unusedVariables false
set_option maxRecDepth 20000
theorem SW.celA {X B : Nat} {w : World} {pc pb : Value} {p : Pr} {s : Sy} (h : SW X B w pc pb p s) {g n cap c : Nat} (hXg : X ≠ g) (hg : w.cell? ⟨X, 2, none⟩ = some (.slice (some ⟨g, 0, none⟩) n cap)) (hcl : c < s.cells.length) (a b d : Int) :
    SW X B (((w.setCell ⟨g, c * 3, none⟩ (.int .i64 a)).setCell ⟨g, c * 3 + 1, none⟩ (.int .i64 b)).setCell ⟨g, c * 3 + 2, none⟩ (.int .i64 d)) pc pb p { s with cells := s.cells.set c ⟨a, b, d⟩ } := by
  have h1 := h.cel hg hcl (j := 0) (by omega) (.int .i64 a) { nth Ce.z s.cells c with num := a } rfl
  have g1 : (w.setCell ⟨g, c * 3 + 0, none⟩ (.int .i64 a)).cell? ⟨X, 2, none⟩ = some (.slice (some ⟨g, 0, none⟩) n cap) := by rw [cell_set_blk _ _ _ _ _ _ hXg]; exact hg
  have h2 := h1.cel g1 (c := c) (by simpa using hcl) (j := 1) (by omega) (.int .i64 b) { nth Ce.z s.cells c with num := a, time := b } (by show _ = (ceC (nth Ce.z (s.cells.set c _) c)).set 1 _; rw [nth_set' _ _ _ _ _ hcl, if_pos rfl]; rfl)
  have g2 : ((w.setCell ⟨g, c * 3 + 0, none⟩ (.int .i64 a)).setCell ⟨g, c * 3 + 1, none⟩ (.int .i64 b)).cell? ⟨X, 2, none⟩ = some (.slice (some ⟨g, 0, none⟩) n cap) := by rw [cell_set_blk _ _ _ _ _ _ hXg]; exact g1
  have h3 := h2.cel g2 (c := c) (by simpa using hcl) (j := 2) (by omega) (.int .i64 d) ⟨a, b, d⟩ (by show _ = (ceC (nth Ce.z ((s.cells.set c _).set c _) c)).set 2 _; rw [nth_set' _ _ _ _ _ (by simpa using hcl), if_pos rfl]; rfl)
  have e : ((s.cells.set c { nth Ce.z s.cells c with num := a }).set c { nth Ce.z s.cells c with num := a, time := b }).set c ⟨a, b, d⟩ = s.cells.set c ⟨a, b, d⟩ := by simp
  have h4 : SW X B _ pc pb p { s with cells := ((s.cells.set c { nth Ce.z s.cells c with num := a }).set c { nth Ce.z s.cells c with num := a, time := b }).set c ⟨a, b, d⟩ } := h3
  rw [e] at h4
  exact h4
set_option maxHeartbeats 8000000 in
theorem write_any (X B : Nat) (pc pb : Value) (p : Pr) (s : Sy) (i : Nat) (w : World) (h : SW X B w pc pb p s) (hi : i < s.tasks.length) (hnp : Np p s) (hst : (tkN s i).stage = 5) (hn : s.cells.length ≤ 1048576) (hln : s.log.length ≤ 1048576) :
    Calls Try.prog 198 #[.pointer (some ⟨X, 0, none⟩), .int .i64 (i : Int)] w fun r w' => r = .returned (.tuple #[]) ∧ SW X B w' pc pb p (writeS s i) ∧ FrS (SX X B) w w' := by
  have hT := hnp.t i hi
  obtain ⟨_, hat0, hat1⟩ := hT.five hst
  have hold : (tkN s i).old.length = 3 := (rgB_iff.1 hT.old).1
  have hrl : (tkN s i).reads.length ≤ 1048576 := by have := puB_len hT.reads; have := hnp.cs; omega
  have hul : (tkN s i).puts.length ≤ 1048576 := by have := puB_len hT.puts; have := hnp.cs; omega
  have hpu := hT.puts
  have hcs := hnp.cs
  have hpc : 0 ≤ (tkN s i).pc ∧ (tkN s i).pc ≤ 100 := hT.pc100 hnp.ok
  obtain ⟨k, hk⟩ : ∃ k : Nat, (tkN s i).at_ = (k : Int) := ⟨(tkN s i).at_.toNat, by omega⟩
  clear hT hnp
  obtain ⟨f, cv, g, cap, lv, T, L, V, h1, h2, h3, h4, h5, h6, h7, h8, h9⟩ := h.tk hi
  obtain ⟨a3, c3, a8, c8, a9, c9, a10, c10, rfl⟩ := h7.ti.shapes
  obtain ⟨t0, t1, t2, t3, t4, t5, t6, t7, t8, t9, t10, t11, t12⟩ := h7.cells
  simp only at t3 t8 t9 t10
  have tz := h7.fz
  have hi' : (i : Int) < (s.tasks.length : Int) := by omega
  have hX := h.lt
  have hB := h.le
  have hgB := h7.ge
  have hgl := h7.lt
  have hXl : X < w.heap.size := by omega
  have hXg : X ≠ g := by omega
  have HTI := (show Hid (TIn _ _ _ _ _) from h7.ti)
  have HK := (show Hid (f g = .t ∧ ∀ b, cv.ownBlock = some b → f b = .c) from ⟨h7.key, h1.c.2⟩)
  have HS := (show Hid (SW _ _ _ _ _ _ _) from h)
  clear h1 h2 h3 h7 h8 h9 h
  rw [hk] at t6
  have hkl : k < (tkN s i).puts.length := by omega
  obtain ⟨b10, e10, b10B, b10l, u0, u1⟩ := pR_nth HTI.out.u hkl
  subst e10
  have hc := puB_nth hpu hkl
  have hpn : putN (tkN s i) = nth Pu.z (tkN s i).puts k := by unfold putN; rw [hk, Int.toNat_natCast]
  obtain ⟨cn, hcn⟩ : ∃ cn : Nat, (nth Pu.z (tkN s i).puts k).c = (cn : Int) := ⟨(nth Pu.z (tkN s i).puts k).c.toNat, by omega⟩
  have hcl : cn < s.cells.length := by omega
  have hcl' : (cn : Int) < (s.cells.length : Int) := by omega
  have hkl2 : (k : Int) < ((tkN s i).puts.length : Int) := by omega
  have hce : ceN s (cn : Int) = nth Ce.z s.cells cn := by unfold ceN; rw [Int.toNat_natCast]
  have hwr : IntKind.i64.wrap ((k : Int) + 1) = (k : Int) + 1 := by rw [IntKind.wrap_i64]; omega
  rw [hcn] at u0
  have HOLD := (show Hid (_ = _) from hold)
  clear hold hst
  obtain ⟨gc, kc, x2, gcB, gcl, cc, cz⟩ := HS.out.cs hcl
  obtain ⟨d0, d1, d2⟩ := cc cn hcl
  have hgcg : gc ≠ g := by
    have x2' := x2
    rw [h4] at x2'
    injection x2' with e
    intro q
    have h1 := HK.out.2 gc (by rw [e]; rfl)
    rw [q, HK.out.1] at h1
    cases h1
  have hXgc : X ≠ gc := by omega
  clear cc h4
  have hXg' : g ≠ gc := fun e => hgcg e.symm
  have W1 : write1 s i = setTk { s with cells := s.cells.set cn ⟨(nth Pu.z (tkN s i).puts k).n, (tkN s i).when_, -1⟩ } i { tkN s i with at_ := (k : Int) + 1 } := by
    unfold write1; rw [hpn, hcn, Int.toNat_natCast, hk]
  have A0 := HS.out.celA hXgc x2 hcl (nth Pu.z (tkN s i).puts k).n (tkN s i).when_ (-1)
  have G0 : (((w.setCell ⟨gc, cn * 3, none⟩ (.int .i64 (nth Pu.z (tkN s i).puts k).n)).setCell ⟨gc, cn * 3 + 1, none⟩ (.int .i64 (tkN s i).when_)).setCell ⟨gc, cn * 3 + 2, none⟩ (.int .i64 (-1))).cell? ⟨X, 3, none⟩ = some (.slice (some ⟨g, 0, none⟩) s.tasks.length cap) := by rw [cell_set_blk _ _ _ _ _ _ hXgc, cell_set_blk _ _ _ _ _ _ hXgc, cell_set_blk _ _ _ _ _ _ hXgc]; exact h5
  have A1H : Hid (SW X B (((((((w.setCell ⟨gc, cn * 3, none⟩ (.int .i64 (nth Pu.z (tkN s i).puts k).n)).setCell ⟨gc, cn * 3 + 1, none⟩ (.int .i64 (tkN s i).when_)).setCell ⟨gc, cn * 3 + 2, none⟩ (.int .i64 (-1))).setCell ⟨g, i * 13 + 6, none⟩ (.int .i64 ((k : Int) + 1))).alloc (.cells #[.int .i64 (tkN s i).body, .int .i64 (tkN s i).pc, .int .i64 (tkN s i).up, .slice a3 (tkN s i).regs.length c3, .int .i64 (tkN s i).way, .int .i64 (tkN s i).stage, .int .i64 (k : Int), .int .i64 (tkN s i).since, .slice a8 (tkN s i).old.length c8, .slice a9 (tkN s i).reads.length c9, .slice (some ⟨b10, 0, none⟩) (tkN s i).puts.length c10, .int .i64 (tkN s i).when_, .int .i64 (tkN s i).from_] 64)).alloc (.cells #[.int .i64 (cn : Int), .int .i64 (nth Pu.z (tkN s i).puts k).n] 53)).drewN 2) pc pb p (write1 s i)) := by
    unfold Hid
    rw [W1]
    exact ((((A0.scs [(6, (k : Int) + 1)] rfl G0 hi).alloc _).alloc _).drew).drew
  have FH : Hid (FrS (SX X B) w (((((((w.setCell ⟨gc, cn * 3, none⟩ (.int .i64 (nth Pu.z (tkN s i).puts k).n)).setCell ⟨gc, cn * 3 + 1, none⟩ (.int .i64 (tkN s i).when_)).setCell ⟨gc, cn * 3 + 2, none⟩ (.int .i64 (-1))).setCell ⟨g, i * 13 + 6, none⟩ (.int .i64 ((k : Int) + 1))).alloc (.cells #[.int .i64 (tkN s i).body, .int .i64 (tkN s i).pc, .int .i64 (tkN s i).up, .slice a3 (tkN s i).regs.length c3, .int .i64 (tkN s i).way, .int .i64 (tkN s i).stage, .int .i64 (k : Int), .int .i64 (tkN s i).since, .slice a8 (tkN s i).old.length c8, .slice a9 (tkN s i).reads.length c9, .slice (some ⟨b10, 0, none⟩) (tkN s i).puts.length c10, .int .i64 (tkN s i).when_, .int .i64 (tkN s i).from_] 64)).alloc (.cells #[.int .i64 (cn : Int), .int .i64 (nth Pu.z (tkN s i).puts k).n] 53)).drewN 2)) := ((((((((FrS.refl _ _).setCell (Or.inr gcB) _).setCell (Or.inr gcB) _).setCell (Or.inr gcB) _).setCell (Or.inr hgB) _).alloc _).alloc _).drew).drew
  have ET : tkN (write1 s i) i = { tkN s i with at_ := (k : Int) + 1 } := by rw [W1]; exact tkN_same (s := { s with cells := _ }) hi
  have HE : Hid ((0 ≤ (tkN (write1 s i) i).pc ∧ (tkN (write1 s i) i).pc ≤ 100) ∧ (tkN (write1 s i) i).reads.length ≤ 1048576 ∧ (tkN (write1 s i) i).puts.length ≤ 1048576 ∧ (write1 s i).log.length ≤ 1048576 ∧ i < (write1 s i).tasks.length) := by
    unfold Hid
    rw [ET]
    exact ⟨hpc, hrl, hul, by rw [W1]; exact hln, by rw [W1, setTk_len]; exact hi⟩
  have HWS : Hid (writeS s i = if (k : Int) + 1 = (tkN s i).puts.length then endS (write1 s i) i (tkN s i).when_ else write1 s i) := by unfold Hid writeS; rw [hk]
  clear hat0 hat1 hpu hcs hc hcn hpn hce hk A0 G0 W1 ET hln hpc hrl hul
  by_cases qe : (k : Int) + 1 = (tkN s i).puts.length
  · have qe' : ((k : Int) + 1 == ((tkN s i).puts.length : Int)) = true := by simp [qe]
    have HG2 : Hid (writeS s i = endS (write1 s i) i (tkN s i).when_) := by unfold Hid; rw [HWS.out, if_pos qe]
    have QE := (show Hid (_ = _) from qe)
    clear qe HWS
    go_enter Try.func198, Try.ntmps198
    go_wp2_with fail
    go_region
    all_goals
      go_wp2_with fail
      go_region
      all_goals
        go_wp2_with fail
        refine (end_any X B pc pb p _ i (tkN s i).when_ _ A1H.out HE.out.2.2.2.2 HE.out.1 HE.out.2.1 HE.out.2.2.1 HE.out.2.2.2.1).mono ?_
        rintro e w2 ⟨rfl, hs2, hf2⟩
        have HS2 := (show Hid (SW _ _ _ _ _ _ _) from hs2)
        have HF2 : Hid (FrS (SX X B) w w2) := FH.out.trans hf2
        clear hs2 hf2
        go_wp2_with fail
        go_end0
        exact ⟨rfl, by rw [HG2.out]; exact HS2.out, HF2.out⟩
  · have qe' : ((k : Int) + 1 == ((tkN s i).puts.length : Int)) = false := by simp [qe]
    have HG2 : Hid (writeS s i = write1 s i) := by unfold Hid; rw [HWS.out, if_neg qe]
    clear qe HWS
    go_enter Try.func198, Try.ntmps198
    go_wp2_with fail
    go_region
    all_goals
      go_wp2_with fail
      go_region
      all_goals
        go_wp2_with fail
        go_end0
        exact ⟨rfl, by rw [HG2.out]; exact A1H.out, FH.out⟩
end Go.Proofs.Ytnbgonmdjgapnaa
