/-
  Parts of a change are changes.
-/
import Derived.Test.YtpncmjlaijojlaaH2
namespace Go.Proofs.Ytpncmjlaijojlaa
open Go.RowKit
set_option linter.unusedSimpArgs false
set_option linter.unusedVariables false
set_option maxRecDepth 20000

theorem own_srcD {w : World} {B : Nat} {e : TypeId} {size : Nat} {a : Option Addr} {n cap : Nat} {xs : List Value} (h : w.ownsRow B e size (.slice a n cap) n xs) : n = 0 ∨ ∃ ad, a = some ad ∧ ∀ j u, xs[j]? = some u → w.cell? (ad.add j) = some u := by
  rcases h.2 with ⟨e1, h0⟩ | ⟨g, cap', cur, e1, _⟩
  · exact .inl h0
  · injection e1 with e2
    subst e2
    exact .inr ⟨_, rfl, World.ownsRow.cells h rfl⟩
theorem de_oneD (ds : List De) : ∀ u ∈ deCells ds, u.oneCell' = true := fun u hu => by
  unfold deCells at hu
  obtain ⟨d, _, h⟩ := List.mem_flatMap.1 hu
  simp at h
  rcases h with rfl | rfl | rfl <;> rfl
theorem chB_sub {ds es : List De} {n : Int} (h : chB ds n = true) (hl : es.length ≤ ds.length) (hs : ∀ d, d ∈ es → d ∈ ds) : chB es n = true := by
  unfold chB at h ⊢
  simp only [Bool.and_eq_true] at h ⊢
  obtain ⟨h1, h2⟩ := h
  have := dsB_all h2
  refine ⟨h1, ?_⟩
  unfold dsB
  simp only [Bool.and_eq_true, decide_eq_true_eq, List.all_eq_true]
  exact ⟨by omega, fun d hd => this.2 d (hs d hd)⟩
theorem chB_range {ds : List De} {n : Int} (h : chB ds n = true) : 0 ≤ n ∧ n ≤ 3 := by
  unfold chB at h
  simp only [Bool.and_eq_true, plB_iff] at h
  omega
theorem plB_up {a n : Int} (h : plB a n = true) : plB a (n + 1) = true := by rw [plB_iff] at h ⊢; omega
theorem deB_up {d : De} {n : Int} (h : deB d n = true) : deB d (n + 1) = true := by
  unfold deB at h ⊢
  split
  · rename_i e; rw [if_pos e] at h; simp only [Bool.and_eq_true] at h ⊢; exact ⟨h.1, plB_up h.2⟩
  · rename_i e; rw [if_neg e] at h
    split
    · rename_i e; rw [if_pos e] at h; simp only [Bool.and_eq_true] at h ⊢; exact ⟨plB_up h.1, h.2⟩
    · rename_i e; rw [if_neg e] at h; exact h
theorem chB_up {ds : List De} {n : Int} (h : chB ds n = true) (h3 : n ≠ 3) : chB ds (n + 1) = true := by
  have hr := chB_range h
  unfold chB at h ⊢
  simp only [Bool.and_eq_true] at h ⊢
  have := dsB_all h.2
  refine ⟨by rw [plB_iff]; omega, ?_⟩
  unfold dsB
  simp only [Bool.and_eq_true, decide_eq_true_eq, List.all_eq_true]
  exact ⟨this.1, fun d hd => deB_up (this.2 d hd)⟩

set_option maxHeartbeats 2000000 in
theorem drawChangeOk_any (a : Option Addr) (n cap : Nat) (w : World) (h : Bytes w a n) (hc : n ≤ cap) (hn : cap ≤ 9223372036854775807) :
    Calls Try.prog 10 #[.slice a n cap] w fun e w' => ∃ (ad : Option Addr) (k : Nat) (ds : List De) (q : Int), e = .returned (.tuple #[.slice ad ds.length k, .int .i64 q]) ∧ OwnDe w.heap.size w' (.slice ad ds.length k) ds ∧ ds.length ≤ 10 ∧ 0 ≤ q ∧ q ≤ 4 ∧ Below w.heap.size w w' := by
  obtain ⟨i0, hi, hz0, hz1, hz2⟩ := info_parts Try.info_deed
  have HBy := (show Hid (Bytes _ _ _) from h)
  clear h
  go_enter Try.func10, Try.ntmps10
  go_wp2_with fail
  refine (l6Open_any a n cap _ HBy.out hc hn).mono ?_
  rintro e w1 ⟨rfl, hR1, hb1⟩
  have HF1 : Hid (Fr w.heap.size w.heap.size w w1) := Fr.of_below hb1
  clear hb1 HBy
  go_wp2_with fail
  refine (pick_any (w.heap.size + 1) w.heap.size 0 _ _ hR1 (by omega) (by omega) (by omega)).mono ?_
  rintro e w2 ⟨m, rfl, a0, a1, hR2, hF2⟩
  have HF2 : Hid (Fr w.heap.size w.heap.size w w2) := HF1.out.trans (hF2.mono HF1.out.size)
  clear hF2 hR1 HF1
  go_wp2_with fail
  refine (l71Deeds_any (w.heap.size + 1) w.heap.size _ m _ hR2 (by omega) (by omega) (by omega)).mono ?_
  rintro e w3 ⟨dv, ds, p3, rfl, hd3, hl3, hp3, hp3', hR3, hF3⟩
  have hB2 := hR2.le
  have HF3 : Hid (Fr w.heap.size w.heap.size w w3) := HF2.out.trans (hF3.mono HF2.out.size)
  have HD3 : Hid (OwnDe (w.heap.size + 1) w3 dv ds) := own_base hd3 hB2
  clear hF3 hR2 HF2 hd3
  obtain ⟨ad, cd, rfl, _⟩ := own_shape HD3.out
  go_wp2_with fail
  refine (pick_any (w.heap.size + 1) w.heap.size p3 _ _ hR3 (by omega) (by omega) (by omega)).mono ?_
  rintro e w4 ⟨q4, rfl, b0, b1, hR4, hF4⟩
  have HF4 : Hid (Fr w.heap.size w.heap.size w w4) := HF3.out.trans (hF4.mono HF3.out.size)
  have HD4 : Hid (OwnDe (w.heap.size + 1) w4 (.slice ad ds.length cd) ds) := own_fr HD3.out hF4 (by omega)
  clear hF4 hR3 HF3 HD3
  by_cases hq : q4 = 0
  · subst hq
    go_wp2_with fail
    refine (pick_any (w.heap.size + 1) w.heap.size (p3 + 1) _ _ hR4 (by omega) (by omega) (by omega)).mono ?_
    rintro e w5 ⟨q5, rfl, c0, c1, hR5, hF5⟩
    have HF5 : Hid (Fr w.heap.size w.heap.size w w5) := HF4.out.trans (hF5.mono HF4.out.size)
    have HD5 : Hid (OwnDe (w.heap.size + 1) w5 (.slice ad ds.length cd) ds) := own_fr HD4.out hF5 (by omega)
    clear hF5 hR4 HF4 HD4
    go_wp2_with fail
    refine (pick_any (w.heap.size + 1) w.heap.size (p3 + 1 + 1) _ _ hR5 (by omega) (by omega) (by omega)).mono ?_
    rintro e w6 ⟨q6, rfl, d0, d1, hR6, hF6⟩
    have HF6 : Hid (Fr w.heap.size w.heap.size w w6) := HF5.out.trans (hF6.mono HF5.out.size)
    have HD6 : Hid (OwnDe (w.heap.size + 1) w6 (.slice ad ds.length cd) ds) := own_fr HD5.out hF6 (by omega)
    clear hF6 hR5 HF5 HD5
    go_wp2_with fail
    refine (pick_any (w.heap.size + 1) w.heap.size (p3 + 1 + 1 + 1) _ _ hR6 (by omega) (by omega) (by omega)).mono ?_
    rintro e w7 ⟨q7, rfl, e0, e1, hR7, hF7⟩
    have HF7 : Hid (Fr w.heap.size w.heap.size w w7) := HF6.out.trans (hF7.mono HF6.out.size)
    have HD7 : Hid (OwnDe (w.heap.size + 1) w7 (.slice ad ds.length cd) ds) := own_fr HD6.out hF7 (by omega)
    have HR7 := (show Hid (RdAt _ _ _ _) from hR7)
    clear hF7 hR6 HF6 HD6 hR7
    go_wp2_with (at_builtin; refine wpList_append_own _ rfl _ _ 23 rfl (w.heap.size + 1) 35 i0 (.agg #[.int .i64 0, .int .i64 0, .int .i64 0]) 3 24 Try.underlying23 hi hz0 hz1 hz2 rfl (by decide) _ _ _ rfl (World.ownsRow.alloc HD7.out _) ⟨w7.heap.size, 0, none⟩ 1 1 [.int .i64 q5, .int .i64 (q6 - 1), .int .i64 (q7 - 1)] rfl rfl ?a1 ?a2 ?a3 ?a4 ?a5 ?_)
    case a1 =>
      intro j u hj
      match j, hj with
      | 0, hj => simp at hj; subst hj; simp [Addr.add]
      | 1, hj => simp at hj; subst hj; simp [Addr.add]
      | 2, hj => simp at hj; subst hj; simp [Addr.add]
    case a2 => intro u hu; simp at hu; rcases hu with rfl | rfl | rfl <;> rfl
    case a3 => unfold maxLen; omega
    case a4 => omega
    case a5 => have := HR7.out.le; simp; omega
    intro v' w8 hown' hgrow _
    have HD8 : Hid (OwnDe (w.heap.size + 1) w8 v' (ds ++ [⟨q5, q6 - 1, q7 - 1⟩])) := by
      unfold Hid OwnDe; rw [deCells_snoc, List.length_append]; exact hown'
    have hge : ∀ g, (Value.slice ad ds.length cd).ownBlock = some g → w.heap.size + 1 ≤ g := fun g hg => (HD7.out.lt g hg).1
    have HF8 : Hid (Fr w.heap.size w.heap.size w w8) := (HF7.out.alloc HF7.out.size _).grown hgrow (by have := HF7.out.size; simp; omega) (fun g hg => by have := hge g hg; omega)
    have hR8 : RdAt (w.heap.size + 1) w8 w.heap.size (p3 + 1 + 1 + 1 + 1) := HR7.out.below (((Below.refl _ _).alloc HR7.out.le _).grown hgrow (by have := HR7.out.le; simp; omega) hge)
    clear hown' hgrow HD7 HF7 HR7 hge
    obtain ⟨av, kv, ev, _⟩ := own_shape HD8.out
    have ev' : v' = .slice av (ds.length + 1) kv := by simpa using ev
    clear ev
    subst ev'
    go_wp2_with fail
    refine (pick_any (w.heap.size + 1) w.heap.size (p3 + 1 + 1 + 1 + 1) _ _ hR8 (by omega) (by omega) (by omega)).mono ?_
    rintro e w9 ⟨q9, rfl, f0, f1, hR9, hF9⟩
    have HF9 : Hid (Fr w.heap.size w.heap.size w w9) := HF8.out.trans (hF9.mono HF8.out.size)
    have HD9 : Hid (OwnDe w.heap.size w9 (.slice av (ds ++ [(⟨q5, q6 - 1, q7 - 1⟩ : De)]).length kv) (ds ++ [⟨q5, q6 - 1, q7 - 1⟩])) := by
      have := own_base (own_fr HD8.out hF9 (by omega)) (show w.heap.size ≤ w.heap.size + 1 by omega)
      rw [List.length_append]; exact this
    clear hF9 hR8 HF8 HD8 hR9
    go_wp2_with fail
    exact bodyPost_ret (v := .tuple #[.slice av (ds.length + 1) kv, .int .i64 (m + q9 / 8)]) (by simp [results, Try.results10, go_sem]) rfl ⟨av, kv, ds ++ [⟨q5, q6 - 1, q7 - 1⟩], _, by rw [List.length_append]; rfl, HD9.out, by simp; omega, by omega, by omega, HF9.out.below (Nat.le_refl _)⟩
  have gq : (q4 == 0) = false := by simp [hq]
  by_cases hq1 : q4 = 1
  · subst hq1
    have HR4 := (show Hid (RdAt _ _ _ _) from hR4)
    clear hR4
    go_wp2_with (at_builtin; refine wpList_append_src rfl _ _ 23 rfl (w.heap.size + 1) 35 i0 (.agg #[.int .i64 0, .int .i64 0, .int .i64 0]) 3 24 Try.underlying23 hi hz0 hz1 hz2 rfl (by decide) _ _ _ rfl HD4.out _ _ _ (deCells ds) rfl HD4.out.1 ?b1 (de_oneD ds) ?b3 ?b4 ?b5 ?_)
    case b1 => exact own_srcD HD4.out
    case b3 => unfold maxLen; omega
    case b4 => omega
    case b5 => exact HR4.out.le
    intro v' w8 hown' hgrow
    have HD8 : Hid (OwnDe (w.heap.size + 1) w8 v' (ds ++ ds)) := by
      unfold Hid OwnDe
      rw [show deCells (ds ++ ds) = deCells ds ++ deCells ds by simp [deCells], List.length_append]; exact hown'
    have hge : ∀ g, (Value.slice ad ds.length cd).ownBlock = some g → w.heap.size + 1 ≤ g := fun g hg => (HD4.out.lt g hg).1
    have HF8 : Hid (Fr w.heap.size w.heap.size w w8) := HF4.out.grown hgrow HF4.out.size (fun g hg => by have := hge g hg; omega)
    have hR8 : RdAt (w.heap.size + 1) w8 w.heap.size (p3 + 1) := HR4.out.below ((Below.refl _ _).grown hgrow HR4.out.le hge)
    clear hown' hgrow HD4 HF4 HR4 hge
    obtain ⟨av, kv, ev, _⟩ := own_shape HD8.out
    have ev' : v' = .slice av (ds.length + ds.length) kv := by simpa using ev
    clear ev
    subst ev'
    go_wp2_with fail
    refine (pick_any (w.heap.size + 1) w.heap.size (p3 + 1) _ _ hR8 (by omega) (by omega) (by omega)).mono ?_
    rintro e w9 ⟨q9, rfl, f0, f1, hR9, hF9⟩
    have HF9 : Hid (Fr w.heap.size w.heap.size w w9) := HF8.out.trans (hF9.mono HF8.out.size)
    have HD9 : Hid (OwnDe w.heap.size w9 (.slice av (ds ++ ds).length kv) (ds ++ ds)) := by
      have := own_base (own_fr HD8.out hF9 (by omega)) (show w.heap.size ≤ w.heap.size + 1 by omega)
      rw [List.length_append]; exact this
    clear hF9 hR8 HF8 HD8 hR9
    go_wp2_with fail
    exact bodyPost_ret (v := .tuple #[.slice av (ds.length + ds.length) kv, .int .i64 (m + q9 / 8)]) (by simp [results, Try.results10, go_sem]) rfl ⟨av, kv, ds ++ ds, _, by rw [List.length_append], HD9.out, by simp; omega, by omega, by omega, HF9.out.below (Nat.le_refl _)⟩
  have gq1 : (q4 == 1) = false := by simp [hq1]
  go_wp2_with fail
  refine (pick_any (w.heap.size + 1) w.heap.size (p3 + 1) _ _ hR4 (by omega) (by omega) (by omega)).mono ?_
  rintro e w9 ⟨q9, rfl, f0, f1, hR9, hF9⟩
  have HF9 : Hid (Fr w.heap.size w.heap.size w w9) := HF4.out.trans (hF9.mono HF4.out.size)
  have HD9 : Hid (OwnDe w.heap.size w9 (.slice ad ds.length cd) ds) := own_base (own_fr HD4.out hF9 (by omega)) (by omega)
  clear hF9 hR4 HF4 HD4 hR9
  go_wp2_with fail
  exact bodyPost_ret (v := .tuple #[.slice ad ds.length cd, .int .i64 (m + q9 / 8)]) (by simp [results, Try.results10, go_sem]) rfl ⟨ad, cd, ds, _, rfl, HD9.out, by omega, by omega, by omega, HF9.out.below (Nat.le_refl _)⟩

end Go.Proofs.Ytpncmjlaijojlaa
