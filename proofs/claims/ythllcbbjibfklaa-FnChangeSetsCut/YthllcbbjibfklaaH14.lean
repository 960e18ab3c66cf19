/-
  The walk of FnChangeSetsCut.
-/
import Derived.Test.YthllcbbjibfklaaH9
namespace Go.Proofs.Ythllcbbjibfklaa
open Go.RowKit
set_option linter.unusedSimpArgs false
set_option linter.unusedVariables false
set_option maxRecDepth 20000

theorem chW_mem (ds : List De) (n : Int) : n ∈ chW ds ↔ (∃ d, d ∈ ds ∧ d.k = 2 ∧ d.a = n) ∧ 0 ≤ n ∧ n ≤ 2 := by
  unfold chW; rw [mem_srt, raw_two]
theorem cutW1 (ds : List De) (q : Nat) : (chW (ds.take q)).all (hasB (chW ds)) = true := by
  rw [List.all_eq_true]
  intro n hn
  unfold hasB
  rw [decide_eq_true_eq]
  obtain ⟨⟨d, hd, h⟩, hp⟩ := (chW_mem _ _).1 hn
  exact (chW_mem _ _).2 ⟨⟨d, List.mem_of_mem_take hd, h⟩, hp⟩
theorem cutW2 (ds : List De) (q : Nat) : (chW (ds.drop q)).all (hasB (chW ds)) = true := by
  rw [List.all_eq_true]
  intro n hn
  unfold hasB
  rw [decide_eq_true_eq]
  obtain ⟨⟨d, hd, h⟩, hp⟩ := (chW_mem _ _).1 hn
  exact (chW_mem _ _).2 ⟨⟨d, List.mem_of_mem_drop hd, h⟩, hp⟩
theorem cutW3 (ds : List De) (q : Nat) : (chW ds).all (hasB (chW (ds.take q) ++ chW (ds.drop q))) = true := by
  rw [List.all_eq_true]
  intro n hn
  unfold hasB
  rw [decide_eq_true_eq, List.mem_append]
  obtain ⟨⟨d, hd, h⟩, hp⟩ := (chW_mem _ _).1 hn
  rw [← List.take_append_drop q ds] at hd
  rcases List.mem_append.1 hd with h1 | h1
  · exact .inl ((chW_mem _ _).2 ⟨⟨d, h1, h⟩, hp⟩)
  · exact .inr ((chW_mem _ _).2 ⟨⟨d, h1, h⟩, hp⟩)
theorem cutR (ds : List De) (q : Nat) : (chR (ds.take q)).all (hasB (chR ds)) = true := by
  rw [List.all_eq_true]
  intro n hn
  unfold hasB chR at *
  rw [decide_eq_true_eq]
  rw [mem_srt] at hn ⊢
  refine ⟨?_, hn.2⟩
  have e : raw ds = (ds.drop q).foldl touch (raw (ds.take q)) := by
    rw [← raw_append, List.take_append_drop]
  rw [e]
  exact fold_fst_mono _ _ _ hn.1
theorem lqWithin_is {xs ys : List Int} (hb : xs.all (hasB ys) = true) (v v' : Value) (w : World) (h : IntsAt w v xs) (h' : IntsAt w v' ys) :
    Calls Try.prog 21 #[v, v'] w fun r w' => r = .returned (.bool true) ∧ w' = w := by
  have := lqWithin_any v v' xs ys w h h'
  rw [hb] at this
  exact this

theorem wpList_append_srcG {P : Program} {w : World} {ops : Array Oper} {rest : List Oper} {o : Oper} {a : Act} {Q : Exit → Act → World → Prop} (hgd : Region.wanted o (yielded ops a.tmps) = true) (s x : Operand) (t : TypeId)
    (ho : o.op = .call { callee := .builtin .append, args := #[s, x], argTypes := #[t, t] })
    (base : Nat) (e : TypeId) (i : TypeInfo) (z : Value) (size bytes : Nat) (ht : P.underlying t = some (.slice e)) (hi : P.info? e = some i) (hz : i.zero = some z)
    (hsize : i.size = size) (hby : i.bytes = bytes) (hzs : z.cells.size = size) (hsz : 0 < size)
    (v : Value) (n : Nat) (xs : List Value) (hs : a.eval s = v) (hown : w.ownsRow base e size v n xs)
    (ao : Option Addr) (m c : Nat) (news : List Value) (hx : a.eval x = .slice ao m c) (hl : news.length = m * size) (hsrc : m = 0 ∨ ∃ ad, ao = some ad ∧ ∀ j u, news[j]? = some u → w.cell? (ad.add j) = some u) (h1 : ∀ u ∈ news, u.oneCell' = true)
    (h63 : n + m ≤ maxLen) (hbytes : (n + m) * bytes ≤ 140737488355328) (hbase : base ≤ w.heap.size)
    (h : ∀ v' w', w'.ownsRow base e size v' (n + m) (xs ++ news) → w.grownBy w' v.ownBlock → wpList P ops Q rest (a.put o.dst v') w') : wpList P ops Q (o :: rest) a w := by
  refine wpList_step fun K hK => ?_
  simp only [hgd, if_true]
  by_cases hm : m = 0
  · subst hm
    have hnil : news = [] := by cases news with | nil => rfl | cons y ys => simp at hl
    subst hnil
    obtain ⟨b, cap, hv, hcap, _⟩ := own_shape hown
    have hr := run_append_nothing (P := P) w t t o.type e i ht hi b n cap hcap (.slice ao 0 c) (by
      cases ao with
      | none => exact Src.ofNil w ht c
      | some ad => exact Src.ofSlice w ht ad 0 c [] (by simp) (by simp) (by simp))
    unfold Oper.wp execOp
    simp only [ho, resolve, invoke, builtin, Sem.run_bind, Sem.run_pure, Result.andThen_ok, List.map_toArray, List.map_cons, List.map_nil, hs, hx, hv, hr]
    exact hK _ _ (h _ w (by rw [List.append_nil, Nat.add_zero, ← hv]; exact hown) (World.grownBy.refl _ _))
  · obtain ⟨ad, rfl, hnews⟩ : ∃ ad, ao = some ad ∧ ∀ j u, news[j]? = some u → w.cell? (ad.add j) = some u := by
      rcases hsrc with h0 | h0
      · exact absurd h0 hm
      · exact h0
    exact wp_append_own w s x t ho base e i z size bytes ht hi hz hsize hby hzs hsz v n xs hs hown ad m c news hx hl hnews h1 h63 hbytes hbase (fun v' w' a1 a2 _ => hK _ _ (h v' w' a1 a2))
theorem DeedsAt.recapC {w : World} {a : Option Addr} {n cap : Nat} {ds : List De} (h : DeedsAt w (.slice a n cap) ds) (cap' : Nat) : DeedsAt w (.slice a n cap') ds := by
  obtain ⟨a', c', e, hm, hc⟩ := h
  injection e with e1 e2 e3
  subst e1 e2
  exact ⟨a, cap', rfl, hm, hc⟩
theorem changeWrites_is {ds : List De} {L : List Int} (hL : chW ds = L) (v : Value) (w : World) (h : DeedsAt w v ds) :
    Calls Try.prog 13 #[v] w fun e w' => ∃ a k, e = .returned (.slice a L.length k) ∧ IntsAt w' (.slice a L.length k) L ∧ Below w.heap.size w w' := by
  have := changeWrites_any v ds w h
  rw [hL] at this
  refine this.mono ?_
  rintro e w' ⟨v', rfl, ho, hb⟩
  obtain ⟨a, k, rfl, _⟩ := own_shape ho
  exact ⟨a, k, rfl, ho.at, hb⟩
theorem changeReads_is {ds : List De} {L : List Int} (hL : chR ds = L) (v : Value) (w : World) (h : DeedsAt w v ds) :
    Calls Try.prog 15 #[v] w fun e w' => ∃ a k, e = .returned (.slice a L.length k) ∧ IntsAt w' (.slice a L.length k) L ∧ Below w.heap.size w w' := by
  have := changeReads_any v ds w h
  rw [hL] at this
  refine this.mono ?_
  rintro e w' ⟨v', rfl, ho, hb⟩
  obtain ⟨a, k, rfl, _⟩ := own_shape ho
  exact ⟨a, k, rfl, ho.at, hb⟩
theorem sChangeWrites_is {ds : List De} {L : List Int} (hL : chW ds = L) (v : Value) (w : World) (h : DeedsAt w v ds) (hl : ds.length ≤ 1048576) :
    Calls Try.prog 18 #[v] w fun e w' => ∃ a k, e = .returned (.slice a L.length k) ∧ IntsAt w' (.slice a L.length k) L ∧ Below w.heap.size w w' := by
  have := sChangeWrites_any v ds w h hl
  rw [hL] at this
  refine this.mono ?_
  rintro e w' ⟨v', rfl, ho, hb⟩
  obtain ⟨a, k, rfl, _⟩ := own_shape ho
  exact ⟨a, k, rfl, ho.at, hb⟩

set_option maxHeartbeats 2000000 in
theorem changeSetsCut_walk (a : Option Addr) (n cap : Nat) (b : Option Addr) (m capm : Nat) (w : World) (h : Bytes w a n) (hc : n ≤ cap) (hn : cap ≤ 9223372036854775807) (hcm : m ≤ capm) (hnm : capm ≤ 9223372036854775807) :
    Calls Try.prog 6 #[.slice a n cap, .slice b m capm] w fun e w' => e = .returned (.bool true) ∧ Below w.heap.size w w' := by
  by_cases hbig : 1048576 < n
  · have hbig' : decide ((1048576 : Int) < (n : Int)) = true := by simp; omega
    clear h
    go_enter Try.func6, Try.ntmps6
    go_wp2_with fail
    go_ret
    exact ⟨rfl, Below.refl _ _⟩
  have hbig' : decide ((1048576 : Int) < (n : Int)) = false := by simp; omega
  by_cases hbm : 1048576 < m
  · have hbm' : (1048576 : Int) < (m : Int) := by omega
    clear h
    go_enter Try.func6, Try.ntmps6
    go_wp2_with fail
    go_ret
    exact ⟨rfl, Below.refl _ _⟩
  have hbm' : ¬ (1048576 : Int) < (m : Int) := by omega
  have HBy := (show Hid (Bytes _ _ _) from h)
  clear h
  obtain ⟨i0, hi, hz0, hz1, hz2⟩ := info_parts Try.info_int
  go_enter Try.func6, Try.ntmps6
  go_wp2_with fail
  refine (drawChangeWrites_any a n cap _ HBy.out hc hn).mono ?_
  rintro e w1 ⟨ad, cd, ds, rfl, hod, hl10, hb1⟩
  have hcdd : ds.length ≤ cd ∧ cd ≤ 9223372036854775807 := by
    obtain ⟨_, _, ecd, h1, h2⟩ := own_shape hod
    injection ecd with _ _ ecd3
    subst ecd3
    exact ⟨h1, h2⟩
  obtain ⟨hcd, hcd'⟩ := hcdd
  have HOD := (show Hid (OwnDe _ _ _ _) from hod)
  have HD := (show Hid (DeedsAt _ _ _) from hod.at)
  have HB1 := (show Hid (Below _ _ _) from hb1)
  clear hod hb1 HBy
  obtain ⟨q, hq⟩ : ∃ q : Nat, q = m % (ds.length + 1) := ⟨_, rfl⟩
  have hqle : q ≤ ds.length := by have := Nat.mod_lt m (show 0 < ds.length + 1 by omega); omega
  have hqi : ((m : Int) % ((ds.length : Int) + 1)) = (q : Int) := by rw [hq]; simp
  have HQI := (show Hid (_ = (q : Int)) from hqi)
  clear hq hqi
  obtain ⟨W, A, B, E, R, hW, hA, hB, hE, hR⟩ : ∃ W A B E R, chW ds = W ∧ chW (ds.take q) = A ∧ chW (ds.drop q) = B ∧ chR (ds.take q) = E ∧ chR ds = R := ⟨_, _, _, _, _, rfl, rfl, rfl, rfl, rfl⟩
  have HC1 : Hid (A.all (hasB W) = true) := by rw [← hA, ← hW]; exact cutW1 ds q
  have HC2 : Hid (B.all (hasB W) = true) := by rw [← hB, ← hW]; exact cutW2 ds q
  have HC3 : Hid (W.all (hasB (A ++ B)) = true) := by rw [← hA, ← hB, ← hW]; exact cutW3 ds q
  have HC4 : Hid (E.all (hasB R) = true) := by rw [← hE, ← hR]; exact cutR ds q
  have hlA : A.length ≤ 3 := by rw [← hA]; exact srt_len _
  have hlB : B.length ≤ 3 := by rw [← hB]; exact srt_len _
  have HW := (show Hid (_ = W) from hW)
  have HA := (show Hid (_ = A) from hA)
  have HB := (show Hid (_ = B) from hB)
  have HE := (show Hid (_ = E) from hE)
  have HR := (show Hid (_ = R) from hR)
  clear hW hA hB hE hR
  go_wp2_with fail
  refine (changeWrites_is HW.out _ _ HD.out).mono ?_
  rintro e w2 ⟨a2, k2, rfl, ho2, hb2⟩
  have HW2 := (show Hid (IntsAt _ _ _) from ho2)
  have HB2 := (show Hid (Below _ _ _) from hb2)
  clear ho2 hb2
  go_wp2_with fail
  refine (sChangeWrites_is HW.out _ _ (HD.out.mono HB2.out) (by omega)).mono ?_
  rintro e w3 ⟨a3, k3, rfl, ho3, hb3⟩
  have HS3 := (show Hid (IntsAt _ _ _) from ho3)
  have HW3 := (show Hid (IntsAt _ _ _) from HW2.out.mono hb3)
  have HB3 : Hid (Below w1.heap.size w1 w3) := below_then HB2.out HB2.out.size hb3
  clear ho3 hb3 HW2 HB2
  go_wp2_with fail
  refine (lqInts_same W _ _ _ HW3.out HS3.out).mono ?_
  rintro e w5 ⟨rfl, hb5⟩
  have HW5 := (show Hid (IntsAt _ _ _) from HW3.out.mono hb5)
  have HB5 : Hid (Below w1.heap.size w1 w5) := below_then HB3.out HB3.out.size hb5
  clear hb5 HW3 HB3 HS3
  have hqi := HQI.out
  have hqcd : (q : Int) ≤ (cd : Int) := by omega
  have hqlen : (q : Int) ≤ (ds.length : Int) := by omega
  have hql2 : ¬ (ds.length : Int) < (q : Int) := by omega
  have hql3 : ¬ (cd : Int) < (q : Int) := by omega
  have HD5 := (show Hid (DeedsAt _ _ _) from HD.out.mono HB5.out)
  go_wp2_with fail
  refine (changeWrites_is HA.out _ _ (HD5.out.take q hqle cd)).mono ?_
  rintro e w6 ⟨a6, k6, rfl, ho6, hb6⟩
  have HA6 := (show Hid (IntsAt _ _ _) from ho6)
  have HW6 := (show Hid (IntsAt _ _ _) from HW5.out.mono hb6)
  have HB6 : Hid (Below w1.heap.size w1 w6) := below_then HB5.out HB5.out.size hb6
  have HD6 := (show Hid (DeedsAt _ _ _) from HD5.out.mono hb6)
  clear ho6 hb6 HB5 HD5 HW5
  have hcase : (ad = none ∧ ds.length = 0 ∧ cd = 0) ∨ ∃ g, ad = some ⟨g, 0, none⟩ := by
    rcases HOD.out.2 with ⟨e, h0⟩ | ⟨g, cap, cur, e, _⟩
    · injection e with e1 e2 e3; exact .inl ⟨e1, h0, e3⟩
    · injection e with e1; exact .inr ⟨g, e1⟩
  clear HOD
  rcases hcase with ⟨rfl, hd0, rfl⟩ | ⟨g, rfl⟩
  · have hq0 : q = 0 := by omega
    subst hq0
    have hds : ds = [] := List.eq_nil_of_length_eq_zero hd0
    subst hds
    go_wp2_with fail
    refine (changeWrites_is HB.out _ _ (DeedsAt.nil _ _ _)).mono ?_
    rintro e w7 ⟨a7, k7, rfl, ho7, hb7⟩
    have HC7 := (show Hid (IntsAt _ _ _) from ho7)
    have HA7 := (show Hid (IntsAt _ _ _) from HA6.out.mono hb7)
    have HW7 := (show Hid (IntsAt _ _ _) from HW6.out.mono hb7)
    have HB7 : Hid (Below w1.heap.size w1 w7) := below_then HB6.out HB6.out.size hb7
    have HD7 := (show Hid (DeedsAt _ _ _) from HD6.out.mono hb7)
    clear ho7 hb7 HB6 HD6 HW6 HA6
    go_wp2_with fail
    refine (changeReads_is HE.out _ _ (DeedsAt.nil _ _ _)).mono ?_
    rintro e w8 ⟨a8, k8, rfl, ho8, hb8⟩
    have HE8 := (show Hid (IntsAt _ _ _) from ho8)
    have HC8 := (show Hid (IntsAt _ _ _) from HC7.out.mono hb8)
    have HA8 := (show Hid (IntsAt _ _ _) from HA7.out.mono hb8)
    have HW8 := (show Hid (IntsAt _ _ _) from HW7.out.mono hb8)
    have HB8 : Hid (Below w1.heap.size w1 w8) := below_then HB7.out HB7.out.size hb8
    have HD8 := (show Hid (DeedsAt _ _ _) from HD7.out.mono hb8)
    clear ho8 hb8 HB7 HD7 HW7 HA7 HC7
    go_wp2_with fail
    refine (lqWithin_is HC1.out _ _ _ HA8.out HW8.out).mono ?_
    rintro e w' ⟨rfl, hw⟩
    have hw := hw.symm
    subst hw
    go_wp2_with fail
    refine (lqWithin_is HC2.out _ _ _ HC8.out HW8.out).mono ?_
    rintro e w' ⟨rfl, hw⟩
    have hw := hw.symm
    subst hw
    go_wp2_with (at_builtin; refine wpList_append_srcG (by kernel_rfl) _ _ 23 rfl w8.heap.size 3 i0 (.int .i64 0) 1 8 Try.underlying23 hi hz0 hz1 hz2 rfl (by decide) _ _ _ rfl (World.ownsRow_made _ #[] 0 (Nat.le_refl _) (by unfold maxLen; omega) (by simp)) _ _ _ (A.map (Value.int .i64)) rfl (by simp) ?s1 (ints_one _) ?s3 ?s4 ?s5 ?_)
    case s1 => exact ints_from (IntsAt.mono HA8.out ((Below.refl _ _).alloc (Nat.le_refl _) _))
    case s3 => unfold maxLen; omega
    case s4 => omega
    case s5 => simp
    intro v9 w9 hown9 hgrow9
    have HO9 : Hid (OwnInt w8.heap.size w9 v9 A) := by
      unfold Hid OwnInt
      (try rw [Nat.zero_add] at hown9); (try rw [List.nil_append] at hown9)
      exact hown9
    have HB9 : Hid (Below w8.heap.size w8 w9) := ((Below.refl _ _).alloc (Nat.le_refl _) _).grown hgrow9 (by simp) (fun g hg => by simp [Value.ownBlock] at hg; omega)
    have HC9 := (show Hid (IntsAt _ _ _) from HC8.out.mono HB9.out)
    clear hown9 hgrow9
    obtain ⟨a9, k9, rfl, hk9, _⟩ := own_shape HO9.out
    go_wp2_with (at_builtin; refine wpList_append_srcG (by kernel_rfl) _ _ 23 rfl w8.heap.size 3 i0 (.int .i64 0) 1 8 Try.underlying23 hi hz0 hz1 hz2 rfl (by decide) _ _ _ rfl HO9.out _ _ _ (B.map (Value.int .i64)) rfl (by simp) ?r1 (ints_one _) ?r3 ?r4 ?r5 ?_)
    case r1 => exact ints_from HC9.out
    case r3 => unfold maxLen; omega
    case r4 => omega
    case r5 => exact HB9.out.size
    intro v10 w10 hown10 hgrow10
    have HO10 : Hid (OwnInt w8.heap.size w10 v10 (A ++ B)) := by
      unfold Hid OwnInt; rw [List.map_append, List.length_append]; exact hown10
    have HB10 : Hid (Below w8.heap.size w8 w10) := HB9.out.grown hgrow10 HB9.out.size (fun g hg => (HO9.out.lt g hg).1)
    clear hown10 hgrow10 HO9 HB9 HC9
    obtain ⟨a10, k10, e10, hk10, _⟩ := own_shape HO10.out
    have e10' : v10 = .slice a10 (A.length + B.length) k10 := by simpa using e10
    clear e10
    subst e10'
    have HI10 : Hid (IntsAt w10 (.slice a10 (A.length + B.length) k10) (A ++ B)) := HO10.out.at
    clear HO10
    have HW10 := (show Hid (IntsAt _ _ _) from HW8.out.mono HB10.out)
    have HE10 := (show Hid (IntsAt _ _ _) from HE8.out.mono HB10.out)
    have HBB : Hid (Below w1.heap.size w1 w10) := below_then HB8.out HB8.out.size HB10.out
    clear HW8 HE8 HB10 HB8 HA8 HC8
    go_wp2_with fail
    refine (lqWithin_is HC3.out _ _ _ HW10.out HI10.out).mono ?_
    rintro e w' ⟨rfl, hw⟩
    have hw := hw.symm
    subst hw
    go_wp2_with fail
    refine (changeReads_is HR.out _ _ (DeedsAt.recapC (HD.out.mono HBB.out) _)).mono ?_
    rintro e w11 ⟨a11, k11, rfl, ho11, hb11⟩
    have HG11 := (show Hid (IntsAt _ _ _) from ho11)
    have HE11 := (show Hid (IntsAt _ _ _) from HE10.out.mono hb11)
    have HBC : Hid (Below w1.heap.size w1 w11) := below_then HBB.out HBB.out.size hb11
    clear ho11 hb11
    go_wp2_with fail
    refine (lqWithin_is HC4.out _ _ _ HE11.out HG11.out).mono ?_
    rintro e w' ⟨rfl, hw⟩
    have hw := hw.symm
    subst hw
    go_wp2_with fail
    go_ret
    exact ⟨rfl, HB1.out.trans (HBC.out.mono HB1.out.size)⟩
  · go_wp2_with fail
    all_goals
      refine (changeWrites_is HB.out _ _ (by first | exact DeedsAt.dropEnd _ _ _ (by omega) | (have hh := HD6.out.drop q hqle (cd - q); rwa [Nat.zero_add] at hh))).mono ?_
      rintro e w7 ⟨a7, k7, rfl, ho7, hb7⟩
      have HC7 := (show Hid (IntsAt _ _ _) from ho7)
      have HA7 := (show Hid (IntsAt _ _ _) from HA6.out.mono hb7)
      have HW7 := (show Hid (IntsAt _ _ _) from HW6.out.mono hb7)
      have HB7 : Hid (Below w1.heap.size w1 w7) := below_then HB6.out HB6.out.size hb7
      have HD7 := (show Hid (DeedsAt _ _ _) from HD6.out.mono hb7)
      clear ho7 hb7 HB6 HD6 HW6 HA6
      go_wp2_with fail
      refine (changeReads_is HE.out _ _ (HD7.out.take q hqle _)).mono ?_
      rintro e w8 ⟨a8, k8, rfl, ho8, hb8⟩
      have HE8 := (show Hid (IntsAt _ _ _) from ho8)
      have HC8 := (show Hid (IntsAt _ _ _) from HC7.out.mono hb8)
      have HA8 := (show Hid (IntsAt _ _ _) from HA7.out.mono hb8)
      have HW8 := (show Hid (IntsAt _ _ _) from HW7.out.mono hb8)
      have HB8 : Hid (Below w1.heap.size w1 w8) := below_then HB7.out HB7.out.size hb8
      have HD8 := (show Hid (DeedsAt _ _ _) from HD7.out.mono hb8)
      clear ho8 hb8 HB7 HD7 HW7 HA7 HC7
      go_wp2_with fail
      refine (lqWithin_is HC1.out _ _ _ HA8.out HW8.out).mono ?_
      rintro e w' ⟨rfl, hw⟩
      have hw := hw.symm
      subst hw
      go_wp2_with fail
      refine (lqWithin_is HC2.out _ _ _ HC8.out HW8.out).mono ?_
      rintro e w' ⟨rfl, hw⟩
      have hw := hw.symm
      subst hw
      go_wp2_with (at_builtin; refine wpList_append_srcG (by kernel_rfl) _ _ 23 rfl w8.heap.size 3 i0 (.int .i64 0) 1 8 Try.underlying23 hi hz0 hz1 hz2 rfl (by decide) _ _ _ rfl (World.ownsRow_made _ #[] 0 (Nat.le_refl _) (by unfold maxLen; omega) (by simp)) _ _ _ (A.map (Value.int .i64)) rfl (by simp) ?s1 (ints_one _) ?s3 ?s4 ?s5 ?_)
      case s1 => exact ints_from (IntsAt.mono HA8.out ((Below.refl _ _).alloc (Nat.le_refl _) _))
      case s3 => unfold maxLen; omega
      case s4 => omega
      case s5 => simp
      intro v9 w9 hown9 hgrow9
      have HO9 : Hid (OwnInt w8.heap.size w9 v9 A) := by
        unfold Hid OwnInt
        (try rw [Nat.zero_add] at hown9); (try rw [List.nil_append] at hown9)
        exact hown9
      have HB9 : Hid (Below w8.heap.size w8 w9) := ((Below.refl _ _).alloc (Nat.le_refl _) _).grown hgrow9 (by simp) (fun g hg => by simp [Value.ownBlock] at hg; omega)
      have HC9 := (show Hid (IntsAt _ _ _) from HC8.out.mono HB9.out)
      clear hown9 hgrow9
      obtain ⟨a9, k9, rfl, hk9, _⟩ := own_shape HO9.out
      go_wp2_with (at_builtin; refine wpList_append_srcG (by kernel_rfl) _ _ 23 rfl w8.heap.size 3 i0 (.int .i64 0) 1 8 Try.underlying23 hi hz0 hz1 hz2 rfl (by decide) _ _ _ rfl HO9.out _ _ _ (B.map (Value.int .i64)) rfl (by simp) ?r1 (ints_one _) ?r3 ?r4 ?r5 ?_)
      case r1 => exact ints_from HC9.out
      case r3 => unfold maxLen; omega
      case r4 => omega
      case r5 => exact HB9.out.size
      intro v10 w10 hown10 hgrow10
      have HO10 : Hid (OwnInt w8.heap.size w10 v10 (A ++ B)) := by
        unfold Hid OwnInt; rw [List.map_append, List.length_append]; exact hown10
      have HB10 : Hid (Below w8.heap.size w8 w10) := HB9.out.grown hgrow10 HB9.out.size (fun g hg => (HO9.out.lt g hg).1)
      clear hown10 hgrow10 HO9 HB9 HC9
      obtain ⟨a10, k10, e10, hk10, _⟩ := own_shape HO10.out
      have e10' : v10 = .slice a10 (A.length + B.length) k10 := by simpa using e10
      clear e10
      subst e10'
      have HI10 : Hid (IntsAt w10 (.slice a10 (A.length + B.length) k10) (A ++ B)) := HO10.out.at
      clear HO10
      have HW10 := (show Hid (IntsAt _ _ _) from HW8.out.mono HB10.out)
      have HE10 := (show Hid (IntsAt _ _ _) from HE8.out.mono HB10.out)
      have HBB : Hid (Below w1.heap.size w1 w10) := below_then HB8.out HB8.out.size HB10.out
      clear HW8 HE8 HB10 HB8 HA8 HC8
      go_wp2_with fail
      refine (lqWithin_is HC3.out _ _ _ HW10.out HI10.out).mono ?_
      rintro e w' ⟨rfl, hw⟩
      have hw := hw.symm
      subst hw
      go_wp2_with fail
      refine (changeReads_is HR.out _ _ (DeedsAt.recapC (HD.out.mono HBB.out) _)).mono ?_
      rintro e w11 ⟨a11, k11, rfl, ho11, hb11⟩
      have HG11 := (show Hid (IntsAt _ _ _) from ho11)
      have HE11 := (show Hid (IntsAt _ _ _) from HE10.out.mono hb11)
      have HBC : Hid (Below w1.heap.size w1 w11) := below_then HBB.out HBB.out.size hb11
      clear ho11 hb11
      go_wp2_with fail
      refine (lqWithin_is HC4.out _ _ _ HE11.out HG11.out).mono ?_
      rintro e w' ⟨rfl, hw⟩
      have hw := hw.symm
      subst hw
      go_wp2_with fail
      go_ret
      exact ⟨rfl, HB1.out.trans (HBC.out.mono HB1.out.size)⟩

end Go.Proofs.Ythllcbbjibfklaa
