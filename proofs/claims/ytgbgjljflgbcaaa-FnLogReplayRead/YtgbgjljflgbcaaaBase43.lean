import Derived.Test.YtgbgjljflgbcaaaBase10
import Derived.Test.YtgbgjljflgbcaaaBase39
import Derived.Test.YtgbgjljflgbcaaaBase03
import Derived.Handy
import Derived.Test.YtgbgjljflgbcaaaBase01
import Derived.Deep.QuietTactic
import Derived.BigQuiet
namespace Go.Proofs.Ytgbgjljflgbcaaa
open Go.RowKit
set_option linter.unusedSimpArgs false
set_option linter.unusedVariables false
set_option maxRecDepth 20000
def rd1 (cs : List Int) (p : Pu) : Bool := plB p.c cs.length && decide (nth 0 cs p.c.toNat = p.n)
def hasB (cs : List Int) (ps : List Pu) : Bool := ps.all (rd1 cs)
def put1 (cs : List Int) (p : Pu) : List Int := if plB p.c cs.length then cs.set p.c.toNat p.n else cs
def putL (cs : List Int) (ps : List Pu) : List Int := ps.foldl put1 cs
def rp1 (o : Option (List Int)) (e : En) : Option (List Int) := o.bind fun c => if hasB c e.reads then some (putL c e.puts) else none
def rpO (cs : List Int) (es : List En) : Option (List Int) := es.foldl rp1 (some cs)
theorem put1_len (cs : List Int) (p : Pu) : (put1 cs p).length = cs.length := by unfold put1; split <;> simp
theorem putL_len (cs : List Int) (ps : List Pu) : (putL cs ps).length = cs.length := by
  unfold putL
  induction ps generalizing cs with
  | nil => rfl
  | cons p ps ih => rw [List.foldl_cons, ih, put1_len]
theorem foldl_till {α β : Type} (f : β → α → β) (z : β) (d : α) (xs : List α) (k : Nat) (hk : k < xs.length) : (xs.take (k + 1)).foldl f z = f ((xs.take k).foldl f z) (nth d xs k) := by
  rw [List.take_succ_eq_append_getElem hk, List.foldl_append, nth_eq d xs k hk]
  rfl
theorem rp1_none (es : List En) : es.foldl rp1 none = none := by
  induction es with
  | nil => rfl
  | cons e es ih => exact ih
theorem rpO_len {cs c : List Int} {es : List En} (h : rpO cs es = some c) : c.length = cs.length := by
  unfold rpO at h
  induction es generalizing cs with
  | nil => injection h with h; rw [h]
  | cons e es ih =>
    rw [List.foldl_cons] at h
    unfold rp1 at h
    by_cases q : hasB cs e.reads
    · simp only [Option.bind_some, q, if_true] at h
      rw [ih h, putL_len]
    · simp only [Option.bind_some, q] at h
      have := rp1_none es
      unfold rp1 at this
      rw [if_neg (by simp [q])] at h
      rw [this] at h; cases h
theorem rpO_stop {cs c : List Int} {es : List En} {k : Nat} (hk : k < es.length) (h : rpO cs (es.take k) = some c) (hn : hasB c (nth En.z es k).reads = false) : rpO cs es = none := by
  have h1 : rpO cs (es.take (k + 1)) = none := by
    unfold rpO at h ⊢
    rw [foldl_till rp1 _ En.z es k hk, h]
    simp [rp1, hn]
  unfold rpO at h1 ⊢
  rw [← List.take_append_drop (k + 1) es, List.foldl_append, h1, rp1_none]
theorem rpO_next {cs c : List Int} {es : List En} {k : Nat} (hk : k < es.length) (h : rpO cs (es.take k) = some c) (hn : hasB c (nth En.z es k).reads = true) : rpO cs (es.take (k + 1)) = some (putL c (nth En.z es k).puts) := by
  unfold rpO at h ⊢
  rw [foldl_till rp1 _ En.z es k hk, h]
  simp [rp1, hn]
theorem isPlace_is {n e : Int} {b : Bool} (h : plB n e = b) (w : World) : Calls Try.prog 45 #[.int .i64 n, .int .i64 e] w fun r w' => r = .returned (.bool b) ∧ w' = w := by subst h; exact isPlace_any n e w
theorem l6In_is {n lo hi : Int} {b : Bool} (h : inB n lo hi = b) (w : World) : Calls Try.prog 52 #[.int .i64 n, .int .i64 lo, .int .i64 hi] w fun r w' => r = .returned (.bool b) ∧ w' = w := by subst h; exact l6In_any n lo hi w
set_option maxHeartbeats 1000000 in
theorem listCopyI_any (v : Value) (xs : List Int) (w : World) (h : IntsAt w v xs) (hn : xs.length ≤ 1048576) :
    Calls Try.prog 60 #[v] w fun r w' => ∃ v', r = .returned v' ∧ OwnInt w.heap.size w' v' xs ∧ Below w.heap.size w w' := by
  obtain ⟨i0, hi, hz0, hz1, hz2⟩ := info_parts Try.info_int
  obtain ⟨a, cap, rfl, hm⟩ := h.shape
  have H := (show Hid (IntsAt _ _ _) from h)
  clear h
  go_enter Try.func60, Try.ntmps60
  go_wp2_with (at_builtin; refine wpList_append_src rfl _ _ 23 rfl w.heap.size 3 i0 (.int .i64 0) 1 8 Try.underlying23 hi hz0 hz1 hz2 rfl (by decide) _ _ _ rfl (World.ownsRow_nil _ _ _ _) _ _ _ (xs.map (Value.int .i64)) rfl (by simp) (ints_from H.out) (ints_one xs) ?s3 ?s4 ?s5 ?_)
  case s3 => unfold maxLen; omega
  case s4 => omega
  case s5 => simp
  intro v1 w2 hown1 hgrow1
  have HO : Hid (OwnInt w.heap.size w2 v1 xs) := by
    unfold Hid OwnInt
    (try rw [Nat.zero_add] at hown1); (try rw [List.nil_append] at hown1)
    exact hown1
  have HB : Hid (Below w.heap.size w w2) := (Below.refl _ _).grown hgrow1 (Nat.le_refl _) (fun g hg => by simp [Value.ownBlock] at hg)
  clear hown1 hgrow1
  obtain ⟨a1, k1, rfl, _⟩ := own_shape HO.out
  go_wp2_with fail
  go_ret
  exact ⟨_, rfl, HO.out, HB.out⟩
set_option maxHeartbeats 4000000 in
theorem haveRead_any (cs : List Int) (ps : List Pu) (cv pv : Value) (w : World) (h : IntsAt w cv cs) (hp : PusAt w pv ps) :
    Calls Try.prog 61 #[cv, pv] w fun r w' => r = .returned (.bool (hasB cs ps)) ∧ Below w.heap.size w w' := by
  obtain ⟨ac, cc, rfl, hmc, hcc⟩ := h
  obtain ⟨a, cap, rfl, hm, hc⟩ := hp
  go_enter Try.func61, Try.ntmps61
  go_wp2_with fail
  go_loopw [9] (fun q w' => ∃ k : Nat, k ≤ ps.length ∧ q = .int .i64 k ∧ Below w.heap.size w w' ∧ (∀ j, j < k → rd1 cs (nth Pu.z ps j) = true)) (fun q _ => ps.length - (intOf q).toNat)
  case atStart => exact ⟨0, Nat.zero_le _, rfl, Below.refl _ _, fun j hj => absurd hj (Nat.not_lt_zero _)⟩
  case round =>
    obtain ⟨k, hk, rfl, hb, hall⟩ := hrel
    have HB := (show Hid (Below _ _ _) from hb)
    have hsz := hb.size
    by_cases hlt : k < ps.length
    · have hlt' : (k : Int) < (ps.length : Int) := by omega
      obtain ⟨b, off, rfl, hbw, c0, c1⟩ := hc k hlt
      rw [← hb.cell (p := ⟨b, _, none⟩) hbw] at c0 c1
      have hbr : b < wr.heap.size := Nat.lt_of_lt_of_le hbw hb.size
      cases h1 : plB (nth Pu.z ps k).c cs.length
      · have HF : Hid (hasB cs ps = false) := not_all_nth Pu.z (rd1 cs) ps k hlt (by simp [rd1, h1])
        have G1 := (show Hid (_ = _) from h1)
        clear hc hall hb h1 hcc
        go_wp2_with fail
        go_quiet ((go_at_call 45; with_reducible exact Calls.quiet_of_same (isPlace_is G1.out _)))
        go_wp2_with fail
        go_ret
        exact ⟨by rw [HF.out]; rfl, (by repeat (first | with_reducible exact HB.out | (with_reducible refine Below.setCell ?_ ?hs _; case hs => ((try simp); try omega)) | (with_reducible refine Below.alloc ?_ ?hs _; case hs => ((try simp); try omega)) | with_reducible refine Below.drew ?_ | with_reducible refine below_drewN ?_ _))⟩
      · obtain ⟨g0, g1⟩ : 0 ≤ (nth Pu.z ps k).c ∧ (nth Pu.z ps k).c < (cs.length : Int) := by simpa [plB] using h1
        obtain ⟨m, hm'⟩ : ∃ m : Nat, (nth Pu.z ps k).c = (m : Int) := ⟨(nth Pu.z ps k).c.toNat, by omega⟩
        obtain ⟨b2, off2, rfl, hbw2, d0⟩ := hcc m (by omega)
        rw [← hb.cell (p := ⟨b2, _, none⟩) hbw2] at d0
        have hbr2 : b2 < wr.heap.size := Nat.lt_of_lt_of_le hbw2 hb.size
        rw [hm'] at c0 g0 g1 h1
        have G1 := (show Hid (plB (m : Int) (cs.length : Int) = true) from h1)
        have HE : Hid (rd1 cs (nth Pu.z ps k) = decide (nth 0 cs m = (nth Pu.z ps k).n)) := by
          unfold Hid rd1; rw [hm', h1, Int.toNat_natCast, Bool.true_and]
        by_cases h2 : nth 0 cs m = (nth Pu.z ps k).n
        · have h2' : (nth 0 cs m == (nth Pu.z ps k).n) = true := by simp [h2]
          have HA : Hid (∀ j, j < k + 1 → rd1 cs (nth Pu.z ps j) = true) := so_far hall (by rw [HE.out]; simp [h2])
          clear hc hall hb h1 hcc hm'
          go_wp2_with fail
          go_quiet ((go_at_call 45; with_reducible exact Calls.quiet_of_same (isPlace_is G1.out _)))
          go_wp2_with fail
          go_roundw
          case rel => exact ⟨k + 1, by omega, by go_num, (by repeat (first | with_reducible exact HB.out | (with_reducible refine Below.setCell ?_ ?hs _; case hs => ((try simp); try omega)) | (with_reducible refine Below.alloc ?_ ?hs _; case hs => ((try simp); try omega)) | with_reducible refine Below.drew ?_ | with_reducible refine below_drewN ?_ _)), HA.out⟩
          case measure => simp [intOf]; omega
        · have h2' : (nth 0 cs m == (nth Pu.z ps k).n) = false := by simp [h2]
          have HF : Hid (hasB cs ps = false) := not_all_nth Pu.z (rd1 cs) ps k hlt (by rw [HE.out]; simp [h2])
          clear hc hall hb h1 hcc hm'
          go_wp2_with fail
          go_quiet ((go_at_call 45; with_reducible exact Calls.quiet_of_same (isPlace_is G1.out _)))
          go_wp2_with fail
          go_ret
          exact ⟨by rw [HF.out]; rfl, (by repeat (first | with_reducible exact HB.out | (with_reducible refine Below.setCell ?_ ?hs _; case hs => ((try simp); try omega)) | (with_reducible refine Below.alloc ?_ ?hs _; case hs => ((try simp); try omega)) | with_reducible refine Below.drew ?_ | with_reducible refine below_drewN ?_ _))⟩
    · have HF : Hid (hasB cs ps = true) := all_nth Pu.z (rd1 cs) ps (fun j hj => hall j (by omega))
      clear hall hc hcc
      go_wp2_with fail
      go_ret
      exact ⟨by rw [HF.out]; rfl, HB.out⟩
set_option maxHeartbeats 4000000 in
theorem putInto_any (w0 : World) (cs : List Int) (ps : List Pu) (cv pv : Value) (w : World) (ho : OwnInt w0.heap.size w cv cs) (hb0 : Below w0.heap.size w0 w) (hp : PusAt w0 pv ps) (hn : cs.length ≤ 1048576) :
    Calls Try.prog 62 #[cv, pv] w fun r w' => r = .returned (.tuple #[]) ∧ OwnInt w0.heap.size w' cv (putL cs ps) ∧ Below w0.heap.size w0 w' := by
  obtain ⟨a, cap, rfl, hm, hc⟩ := hp
  obtain ⟨ac, cc, rfl, hm1, hm2⟩ := own_shape ho
  go_enter Try.func62, Try.ntmps62
  go_wp2_with fail
  go_loopw [8] (fun q w' => ∃ k : Nat, k ≤ ps.length ∧ q = .int .i64 k ∧ Below w0.heap.size w0 w' ∧ OwnInt w0.heap.size w' (.slice ac cs.length cc) (putL cs (ps.take k))) (fun q _ => ps.length - (intOf q).toNat)
  case atStart => exact ⟨0, Nat.zero_le _, rfl, hb0, ho⟩
  case round =>
    obtain ⟨k, hk, rfl, hb, hown⟩ := hrel
    have HB := (show Hid (Below _ _ _) from hb)
    have hsz := hb.size
    by_cases hlt : k < ps.length
    · have hlt' : (k : Int) < (ps.length : Int) := by omega
      obtain ⟨b, off, rfl, hbw, c0, c1⟩ := hc k hlt
      rw [← hb.cell (p := ⟨b, _, none⟩) hbw] at c0 c1
      have hbr : b < wr.heap.size := Nat.lt_of_lt_of_le hbw hb.size
      have HN : Hid (putL cs (ps.take (k + 1)) = put1 (putL cs (ps.take k)) (nth Pu.z ps k)) := foldl_till put1 cs Pu.z ps k hlt
      have hl0 : (putL cs (ps.take k)).length = cs.length := putL_len _ _
      obtain ⟨c', hc'⟩ : ∃ c', c' = putL cs (ps.take k) := ⟨_, rfl⟩
      rw [← hc'] at hl0 hown
      have HN2 : Hid (putL cs (ps.take (k + 1)) = put1 c' (nth Pu.z ps k)) := by rw [hc']; exact HN.out
      clear HN hc'
      cases h1 : plB (nth Pu.z ps k).c cs.length
      · have HP : Hid (put1 c' (nth Pu.z ps k) = c') := by unfold Hid put1; rw [hl0, h1]; rfl
        have G1 := (show Hid (_ = _) from h1)
        have HO := (show Hid (OwnInt _ _ _ _) from hown)
        clear hc hb h1 hown ho hb0
        go_wp2_with (go_at_call 45; refine (isPlace_is G1.out _).mono ?_; rintro e w' ⟨rfl, hw⟩; have hw := hw.symm; subst hw)
        go_roundw
        case rel => exact ⟨k + 1, by omega, by go_num, (by repeat (first | with_reducible exact HB.out | (with_reducible refine Below.setCell ?_ ?hs _; case hs => ((try simp); try omega)) | (with_reducible refine Below.alloc ?_ ?hs _; case hs => ((try simp); try omega)) | with_reducible refine Below.drew ?_ | with_reducible refine below_drewN ?_ _)), by rw [HN2.out, HP.out]; exact own_below HO.out (by repeat (first | with_reducible exact Below.refl _ _ | (with_reducible refine Below.setCell ?_ ?hs _; case hs => ((try simp); try omega)) | (with_reducible refine Below.alloc ?_ ?hs _; case hs => ((try simp); try omega)) | with_reducible refine Below.drew ?_ | with_reducible refine below_drewN ?_ _)) (Nat.le_refl _)⟩
        case measure => simp [intOf]; omega
      · obtain ⟨g0, g1⟩ : 0 ≤ (nth Pu.z ps k).c ∧ (nth Pu.z ps k).c < (cs.length : Int) := by simpa [plB] using h1
        obtain ⟨m, hm'⟩ : ∃ m : Nat, (nth Pu.z ps k).c = (m : Int) := ⟨(nth Pu.z ps k).c.toNat, by omega⟩
        obtain ⟨g, capx, ev, hge, hgl, _, _, hcl⟩ := hown.get m (by omega)
        injection ev with ev1 ev2 ev3
        subst ev1
        obtain ⟨d0, d1⟩ := hcl m (by omega)
        rw [hm'] at c0 g0 g1 h1
        have G1 := (show Hid (plB (m : Int) (cs.length : Int) = true) from h1)
        have HP : Hid (put1 c' (nth Pu.z ps k) = c'.set m (nth Pu.z ps k).n) := by
          unfold Hid put1; rw [hl0, hm', h1, Int.toNat_natCast]; rfl
        have HO := (show Hid (OwnInt _ _ _ _) from hown)
        clear hc hb h1 hown ho hb0 hcl hm' ev2 ev3 hl0
        go_wp2_with (go_at_call 45; refine (isPlace_is G1.out _).mono ?_; rintro e w' ⟨rfl, hw⟩; have hw := hw.symm; subst hw)
        (try go_region)
        all_goals
          (try go_wp2_with fail)
          go_roundw
          case rel => exact ⟨k + 1, by omega, by go_num, (by repeat (first | with_reducible exact HB.out | (with_reducible refine Below.setCell ?_ ?hs _; case hs => ((try simp); try omega)) | (with_reducible refine Below.alloc ?_ ?hs _; case hs => ((try simp); try omega)) | with_reducible refine Below.drew ?_ | with_reducible refine below_drewN ?_ _)), by rw [HN2.out, HP.out]; exact OwnInt.alloc (OwnInt.set_same HO.out m _) _⟩
          case measure => simp [intOf]; omega
    · have hk' : ¬ (k : Int) < (ps.length : Int) := by omega
      have HO : Hid (OwnInt w0.heap.size wr (.slice ac cs.length cc) (putL cs ps)) := by
        have := hown; rw [show k = ps.length by omega, List.take_length] at this; exact this
      clear hc hown hb ho hb0
      go_wp2_with fail
      go_end0
      exact ⟨rfl, HO.out, HB.out⟩
set_option maxHeartbeats 4000000 in
theorem logReplay_any (cs : List Int) (es : List En) (cv ev : Value) (w : World) (h : IntsAt w cv cs) (he : EnsAt w ev es) (hn : cs.length ≤ 1048576) :
    Calls Try.prog 23 #[cv, ev] w fun r w' => ∃ v', r = .returned (.tuple #[v', .bool (rpO cs es).isSome]) ∧ OwnInt w.heap.size w' v' ((rpO cs es).getD []) ∧ Below w.heap.size w w' := by
  obtain ⟨ac, cc, rfl, hmc⟩ := h.shape
  obtain ⟨a, cap, rfl, hm, hc⟩ := he
  have H := (show Hid (IntsAt _ _ _) from h)
  clear h
  go_enter Try.func23, Try.ntmps23
  go_wp2_with fail
  refine (listCopyI_any _ cs _ H.out hn).mono ?_
  rintro e w1 ⟨tv, rfl, hown1, hb1⟩
  obtain ⟨a1, c1, rfl, hm1⟩ := own_shape hown1
  have HO1 := (show Hid (OwnInt _ _ _ _) from hown1)
  have HB1 := (show Hid (Below _ _ _) from hb1)
  clear hown1 hb1
  go_wp2_with fail
  go_loopw [13] (fun q w' => ∃ (k : Nat) (c' : List Int), k ≤ es.length ∧ q = .int .i64 k ∧ rpO cs (es.take k) = some c' ∧ Below w.heap.size w w' ∧ OwnInt w.heap.size w' (.slice a1 cs.length c1) c') (fun q _ => es.length - (intOf q).toNat)
  case atStart => exact ⟨0, cs, Nat.zero_le _, rfl, rfl, HB1.out, HO1.out⟩
  case round =>
    obtain ⟨k, c', hk, rfl, hrp, hb, hown⟩ := hrel
    have HB := (show Hid (Below _ _ _) from hb)
    have HO := (show Hid (OwnInt _ _ _ _) from hown)
    have HR := (show Hid (rpO _ _ = _) from hrp)
    have hl0 : c'.length = cs.length := rpO_len hrp
    have hsz := hb.size
    clear hrp hown
    by_cases hlt : k < es.length
    · have hlt' : (k : Int) < (es.length : Int) := by omega
      obtain ⟨b, off, v3, v4, rfl, hbw, c0, c1', c2, c3, c4, c5, h3, h4⟩ := hc k hlt
      rw [← hb.cell (p := ⟨b, _, none⟩) hbw] at c0 c1' c2 c3 c4 c5
      obtain ⟨a3, e3, rfl, hm3⟩ := h3.shape
      obtain ⟨a4, e4, rfl, hm4⟩ := h4.shape
      have H3 := (show Hid (PusAt _ _ _) from h3)
      have H4 := (show Hid (PusAt _ _ _) from h4)
      have hbr : b < wr.heap.size := Nat.lt_of_lt_of_le hbw hb.size
      clear h3 h4 hb HO1 HB1 hc
      go_wp2_with fail
      refine (haveRead_any c' (nth En.z es k).reads _ _ _ (OwnInt.at (own_below HO.out (by repeat (first | with_reducible exact Below.refl _ _ | (with_reducible refine Below.setCell ?_ ?hs _; case hs => ((try simp); try omega)) | (with_reducible refine Below.alloc ?_ ?hs _; case hs => ((try simp); try omega)) | with_reducible refine Below.drew ?_ | with_reducible refine below_drewN ?_ _)) (Nat.le_refl _))) (PusAt.mono H3.out (by repeat (first | with_reducible exact HB.out | (with_reducible refine Below.setCell ?_ ?hs _; case hs => ((try simp); try omega)) | (with_reducible refine Below.alloc ?_ ?hs _; case hs => ((try simp); try omega)) | with_reducible refine Below.drew ?_ | with_reducible refine below_drewN ?_ _)))).mono ?_
      rintro e w2 ⟨rfl, hb2⟩
      have HB2 : Hid (Below w.heap.size w w2) := below_then (by repeat (first | with_reducible exact HB.out | (with_reducible refine Below.setCell ?_ ?hs _; case hs => ((try simp); try omega)) | (with_reducible refine Below.alloc ?_ ?hs _; case hs => ((try simp); try omega)) | with_reducible refine Below.drew ?_ | with_reducible refine below_drewN ?_ _)) (by (try simp); try omega) hb2
      have HO2 : Hid (OwnInt w.heap.size w2 (.slice a1 cs.length c1) c') := own_below (own_below HO.out (by repeat (first | with_reducible exact Below.refl _ _ | (with_reducible refine Below.setCell ?_ ?hs _; case hs => ((try simp); try omega)) | (with_reducible refine Below.alloc ?_ ?hs _; case hs => ((try simp); try omega)) | with_reducible refine Below.drew ?_ | with_reducible refine below_drewN ?_ _)) (Nat.le_refl _)) hb2 (Nat.le_refl _)
      have x4 : w2.cell? ⟨wr.heap.size, 4, none⟩ = some (.slice a4 (nth En.z es k).puts.length e4) := by rw [hb2.cell (p := ⟨wr.heap.size, 4, none⟩) (by simp)]; simp
      have z4 : wr.heap.size < w2.heap.size := by have := hb2.size; (try simp at this); omega
      clear hb2 HB HO c0 c1' c2 c3 c4 c5
      cases hd : hasB c' (nth En.z es k).reads
      · have HX : Hid (rpO cs es = none) := rpO_stop hlt HR.out hd
        clear hd
        go_wp2_with fail
        refine bodyPost_ret (v := .tuple #[.slice none 0 0, .bool false]) (by simp [results, Try.results23, go_sem]) rfl ⟨_, by rw [HX.out]; rfl, by rw [HX.out]; exact World.ownsRow_nil _ _ _ _, HB2.out⟩
      · have HX : Hid (rpO cs (es.take (k + 1)) = some (putL c' (nth En.z es k).puts)) := rpO_next hlt HR.out hd
        have hpl : (putL c' (nth En.z es k).puts).length = cs.length := by rw [putL_len, hl0]
        clear hd
        go_wp2_with fail
        refine (putInto_any w c' (nth En.z es k).puts _ _ _ HO2.out HB2.out H4.out (by omega)).mono ?_
        rintro e w3 ⟨rfl, hown3, hb3⟩
        have HO3 := (show Hid (OwnInt _ _ _ _) from hown3)
        have HB3 := (show Hid (Below _ _ _) from hb3)
        clear hown3 hb3 HO2 HB2 hl0 hpl x4
        go_wp2_with fail
        go_roundw
        case rel => exact ⟨k + 1, _, by omega, by go_num, HX.out, HB3.out, HO3.out⟩
        case measure => simp [intOf]; omega
    · have hk' : ¬ (k : Int) < (es.length : Int) := by omega
      have HX : Hid (rpO cs es = some c') := by
        have := HR.out; rw [show k = es.length by omega, List.take_length] at this; exact this
      clear hc HO1 HB1 hb
      go_wp2_with fail
      refine bodyPost_ret (v := .tuple #[.slice a1 cs.length c1, .bool true]) (by simp [results, Try.results23, go_sem]) rfl ⟨_, by rw [HX.out]; rfl, by rw [HX.out]; exact HO.out, HB.out⟩
set_option maxHeartbeats 4000000 in
theorem l13Has_any (cs : List Int) (ps : List Pu) (cv pv : Value) (w : World) (h : IntsAt w cv cs) (hp : PusAt w pv ps) (hn : cs.length ≤ 1048576) :
    Calls Try.prog 58 #[cv, pv] w fun r w' => r = .returned (.bool (hasB cs ps)) ∧ Below w.heap.size w w' := by
  obtain ⟨ac, cc, rfl, hmc, hcc⟩ := h
  obtain ⟨a, cap, rfl, hm, hc⟩ := hp
  have hwc : IntKind.i64.wrap ((cs.length : Int) - 1) = (cs.length : Int) - 1 := by rw [IntKind.wrap_i64]; omega
  go_enter Try.func58, Try.ntmps58
  go_wp2_with fail
  go_loopw [5] (fun q w' => ∃ k : Nat, k ≤ ps.length ∧ q = .int .i64 k ∧ Below w.heap.size w w' ∧ (∀ j, j < k → rd1 cs (nth Pu.z ps j) = true)) (fun q _ => ps.length - (intOf q).toNat)
  case atStart => exact ⟨0, Nat.zero_le _, rfl, Below.refl _ _, fun j hj => absurd hj (Nat.not_lt_zero _)⟩
  case round =>
    obtain ⟨k, hk, rfl, hb, hall⟩ := hrel
    have HB := (show Hid (Below _ _ _) from hb)
    have hsz := hb.size
    by_cases hlt : k < ps.length
    · have hlt' : (k : Int) < (ps.length : Int) := by omega
      obtain ⟨b, off, rfl, hbw, c0, c1⟩ := hc k hlt
      rw [← hb.cell (p := ⟨b, _, none⟩) hbw] at c0 c1
      have hbr : b < wr.heap.size := Nat.lt_of_lt_of_le hbw hb.size
      cases h1 : plB (nth Pu.z ps k).c cs.length
      · have HF : Hid (hasB cs ps = false) := not_all_nth Pu.z (rd1 cs) ps k hlt (by simp [rd1, h1])
        have G1 := (show Hid (_ = _) from (in_pl (nth Pu.z ps k).c cs.length).trans h1)
        clear hc hall hb h1 hcc
        go_wp2_with fail
        go_quiet ((go_at_call 52; with_reducible exact Calls.quiet_of_same (l6In_is G1.out _)))
        go_wp2_with fail
        go_ret
        exact ⟨by rw [HF.out]; rfl, (by repeat (first | with_reducible exact HB.out | (with_reducible refine Below.setCell ?_ ?hs _; case hs => ((try simp); try omega)) | (with_reducible refine Below.alloc ?_ ?hs _; case hs => ((try simp); try omega)) | with_reducible refine Below.drew ?_ | with_reducible refine below_drewN ?_ _))⟩
      · obtain ⟨g0, g1⟩ : 0 ≤ (nth Pu.z ps k).c ∧ (nth Pu.z ps k).c < (cs.length : Int) := by simpa [plB] using h1
        obtain ⟨m, hm'⟩ : ∃ m : Nat, (nth Pu.z ps k).c = (m : Int) := ⟨(nth Pu.z ps k).c.toNat, by omega⟩
        obtain ⟨b2, off2, rfl, hbw2, d0⟩ := hcc m (by omega)
        rw [← hb.cell (p := ⟨b2, _, none⟩) hbw2] at d0
        have hbr2 : b2 < wr.heap.size := Nat.lt_of_lt_of_le hbw2 hb.size
        rw [hm'] at c0 g0 g1 h1
        have G1 := (show Hid (inB (m : Int) 0 ((cs.length : Int) - 1) = true) from (in_pl (m : Int) cs.length).trans h1)
        have HE : Hid (rd1 cs (nth Pu.z ps k) = decide (nth 0 cs m = (nth Pu.z ps k).n)) := by
          unfold Hid rd1; rw [hm', h1, Int.toNat_natCast, Bool.true_and]
        by_cases h2 : nth 0 cs m = (nth Pu.z ps k).n
        · have h2' : (nth 0 cs m == (nth Pu.z ps k).n) = true := by simp [h2]
          have HA : Hid (∀ j, j < k + 1 → rd1 cs (nth Pu.z ps j) = true) := so_far hall (by rw [HE.out]; simp [h2])
          clear hc hall hb h1 hcc hm'
          go_wp2_with fail
          go_quiet ((go_at_call 52; with_reducible exact Calls.quiet_of_same (l6In_is G1.out _)))
          go_wp2_with fail
          go_roundw
          case rel => exact ⟨k + 1, by omega, by go_num, (by repeat (first | with_reducible exact HB.out | (with_reducible refine Below.setCell ?_ ?hs _; case hs => ((try simp); try omega)) | (with_reducible refine Below.alloc ?_ ?hs _; case hs => ((try simp); try omega)) | with_reducible refine Below.drew ?_ | with_reducible refine below_drewN ?_ _)), HA.out⟩
          case measure => simp [intOf]; omega
        · have h2' : (nth 0 cs m == (nth Pu.z ps k).n) = false := by simp [h2]
          have HF : Hid (hasB cs ps = false) := not_all_nth Pu.z (rd1 cs) ps k hlt (by rw [HE.out]; simp [h2])
          clear hc hall hb h1 hcc hm'
          go_wp2_with fail
          go_quiet ((go_at_call 52; with_reducible exact Calls.quiet_of_same (l6In_is G1.out _)))
          go_wp2_with fail
          go_ret
          exact ⟨by rw [HF.out]; rfl, (by repeat (first | with_reducible exact HB.out | (with_reducible refine Below.setCell ?_ ?hs _; case hs => ((try simp); try omega)) | (with_reducible refine Below.alloc ?_ ?hs _; case hs => ((try simp); try omega)) | with_reducible refine Below.drew ?_ | with_reducible refine below_drewN ?_ _))⟩
    · have HF : Hid (hasB cs ps = true) := all_nth Pu.z (rd1 cs) ps (fun j hj => hall j (by omega))
      clear hall hc hcc
      go_wp2_with fail
      go_ret
      exact ⟨by rw [HF.out]; rfl, HB.out⟩
set_option maxHeartbeats 4000000 in
theorem l13Puts_any (cs : List Int) (ps : List Pu) (cv pv : Value) (w : World) (h : IntsAt w cv cs) (hp : PusAt w pv ps) (hn : cs.length ≤ 1048576) :
    Calls Try.prog 59 #[cv, pv] w fun r w' => ∃ v', r = .returned v' ∧ OwnInt w.heap.size w' v' (putL cs ps) ∧ Below w.heap.size w w' := by
  obtain ⟨i0, hi, hz0, hz1, hz2⟩ := info_parts Try.info_int
  obtain ⟨ac0, cc0, rfl, hmc⟩ := h.shape
  obtain ⟨a, cap, rfl, hm, hc⟩ := hp
  have H := (show Hid (IntsAt _ _ _) from h)
  have hwc : IntKind.i64.wrap ((cs.length : Int) - 1) = (cs.length : Int) - 1 := by rw [IntKind.wrap_i64]; omega
  clear h
  go_enter Try.func59, Try.ntmps59
  go_wp2_with (at_builtin; refine wpList_append_src rfl _ _ 23 rfl w.heap.size 3 i0 (.int .i64 0) 1 8 Try.underlying23 hi hz0 hz1 hz2 rfl (by decide) _ _ _ rfl (World.ownsRow_made _ #[] 0 (Nat.le_refl _) (by unfold maxLen; omega) (by simp)) _ _ _ (cs.map (Value.int .i64)) rfl (by simp) ?s1 (ints_one cs) ?s3 ?s4 ?s5 ?_)
  case s1 => exact ints_from (H.out.mono ((Below.refl _ _).alloc (Nat.le_refl _) _))
  case s3 => unfold maxLen; omega
  case s4 => omega
  case s5 => simp
  intro v1 w2 hown1 hgrow1
  have HO : Hid (OwnInt w.heap.size w2 v1 cs) := by
    unfold Hid OwnInt
    (try rw [Nat.zero_add] at hown1); (try rw [List.nil_append] at hown1)
    exact hown1
  have HB0 : Hid (Below w.heap.size w w2) := ((Below.refl _ _).alloc (Nat.le_refl _) _).grown hgrow1 (by simp) (fun g hg => by simp [Value.ownBlock] at hg; omega)
  clear hown1 hgrow1 hi hz0 hz1 hz2
  obtain ⟨ac, cc, rfl, hm1, hm2⟩ := own_shape HO.out
  go_wp2_with fail
  go_loopw [6] (fun q w' => ∃ k : Nat, k ≤ ps.length ∧ q = .int .i64 k ∧ Below w.heap.size w w' ∧ OwnInt w.heap.size w' (.slice ac cs.length cc) (putL cs (ps.take k))) (fun q _ => ps.length - (intOf q).toNat)
  case atStart => exact ⟨0, Nat.zero_le _, rfl, HB0.out, HO.out⟩
  case round =>
    obtain ⟨k, hk, rfl, hb, hown⟩ := hrel
    have HB := (show Hid (Below _ _ _) from hb)
    have hsz := hb.size
    by_cases hlt : k < ps.length
    · have hlt' : (k : Int) < (ps.length : Int) := by omega
      obtain ⟨b, off, rfl, hbw, c0, c1⟩ := hc k hlt
      rw [← hb.cell (p := ⟨b, _, none⟩) hbw] at c0 c1
      have hbr : b < wr.heap.size := Nat.lt_of_lt_of_le hbw hb.size
      have HN : Hid (putL cs (ps.take (k + 1)) = put1 (putL cs (ps.take k)) (nth Pu.z ps k)) := foldl_till put1 cs Pu.z ps k hlt
      have hl0 : (putL cs (ps.take k)).length = cs.length := putL_len _ _
      obtain ⟨c', hc'⟩ : ∃ c', c' = putL cs (ps.take k) := ⟨_, rfl⟩
      rw [← hc'] at hl0 hown
      have HN2 : Hid (putL cs (ps.take (k + 1)) = put1 c' (nth Pu.z ps k)) := by rw [hc']; exact HN.out
      clear HN hc'
      cases h1 : plB (nth Pu.z ps k).c cs.length
      · have HP : Hid (put1 c' (nth Pu.z ps k) = c') := by unfold Hid put1; rw [hl0, h1]; rfl
        have G1 := (show Hid (_ = _) from (in_pl (nth Pu.z ps k).c cs.length).trans h1)
        have HO2 := (show Hid (OwnInt _ _ _ _) from hown)
        clear hc hb h1 hown hl0 HO HB0
        go_wp2_with (go_at_call 52; refine (l6In_is G1.out _).mono ?_; rintro e w' ⟨rfl, hw⟩; have hw := hw.symm; subst hw)
        go_roundw
        case rel => exact ⟨k + 1, by omega, by go_num, (by repeat (first | with_reducible exact HB.out | (with_reducible refine Below.setCell ?_ ?hs _; case hs => ((try simp); try omega)) | (with_reducible refine Below.alloc ?_ ?hs _; case hs => ((try simp); try omega)) | with_reducible refine Below.drew ?_ | with_reducible refine below_drewN ?_ _)), by rw [HN2.out, HP.out]; exact own_below HO2.out (by repeat (first | with_reducible exact Below.refl _ _ | (with_reducible refine Below.setCell ?_ ?hs _; case hs => ((try simp); try omega)) | (with_reducible refine Below.alloc ?_ ?hs _; case hs => ((try simp); try omega)) | with_reducible refine Below.drew ?_ | with_reducible refine below_drewN ?_ _)) (Nat.le_refl _)⟩
        case measure => simp [intOf]; omega
      · obtain ⟨g0, g1⟩ : 0 ≤ (nth Pu.z ps k).c ∧ (nth Pu.z ps k).c < (cs.length : Int) := by simpa [plB] using h1
        obtain ⟨m, hm'⟩ : ∃ m : Nat, (nth Pu.z ps k).c = (m : Int) := ⟨(nth Pu.z ps k).c.toNat, by omega⟩
        obtain ⟨g, capx, ev, hge, hgl, _, _, hcl⟩ := hown.get m (by omega)
        injection ev with ev1 ev2 ev3
        subst ev1
        obtain ⟨d0, d1⟩ := hcl m (by omega)
        rw [hm'] at c0 g0 g1 h1
        have G1 := (show Hid (inB (m : Int) 0 ((cs.length : Int) - 1) = true) from (in_pl (m : Int) cs.length).trans h1)
        have HP : Hid (put1 c' (nth Pu.z ps k) = c'.set m (nth Pu.z ps k).n) := by
          unfold Hid put1; rw [hl0, hm', h1, Int.toNat_natCast]; rfl
        have HO2 := (show Hid (OwnInt _ _ _ _) from hown)
        clear hc hb h1 hown hcl hm' ev2 ev3 hl0 HO HB0
        go_wp2_with (go_at_call 52; refine (l6In_is G1.out _).mono ?_; rintro e w' ⟨rfl, hw⟩; have hw := hw.symm; subst hw)
        (try go_region)
        all_goals
          (try go_wp2_with fail)
          go_roundw
          case rel => exact ⟨k + 1, by omega, by go_num, (by repeat (first | with_reducible exact HB.out | (with_reducible refine Below.setCell ?_ ?hs _; case hs => ((try simp); try omega)) | (with_reducible refine Below.alloc ?_ ?hs _; case hs => ((try simp); try omega)) | with_reducible refine Below.drew ?_ | with_reducible refine below_drewN ?_ _)), by rw [HN2.out, HP.out]; first | exact OwnInt.set_same HO2.out m _ | exact OwnInt.drew (OwnInt.set_same HO2.out m _) | exact OwnInt.set_same (OwnInt.drew HO2.out) m _⟩
          case measure => simp [intOf]; omega
    · have hk' : ¬ (k : Int) < (ps.length : Int) := by omega
      have HO2 : Hid (OwnInt w.heap.size wr (.slice ac cs.length cc) (putL cs ps)) := by
        have := hown; rw [show k = ps.length by omega, List.take_length] at this; exact this
      clear hc hown hb HO HB0
      go_wp2_with fail
      go_ret
      exact ⟨_, rfl, HO2.out, HB.out⟩
set_option maxHeartbeats 4000000 in
theorem sLogReplay_any (cs : List Int) (es : List En) (cv ev : Value) (w : World) (h : IntsAt w cv cs) (he : EnsAt w ev es) (hn : cs.length ≤ 1048576) :
    Calls Try.prog 22 #[cv, ev] w fun r w' => ∃ v', r = .returned (.tuple #[v', .bool (rpO cs es).isSome]) ∧ OwnInt w.heap.size w' v' ((rpO cs es).getD []) ∧ Below w.heap.size w w' := by
  obtain ⟨i0, hi, hz0, hz1, hz2⟩ := info_parts Try.info_int
  obtain ⟨ac, cc, rfl, hmc⟩ := h.shape
  obtain ⟨a, cap, rfl, hm, hc⟩ := he
  have H := (show Hid (IntsAt _ _ _) from h)
  clear h
  go_enter Try.func22, Try.ntmps22
  go_wp2_with (at_builtin; refine wpList_append_src rfl _ _ 23 rfl w.heap.size 3 i0 (.int .i64 0) 1 8 Try.underlying23 hi hz0 hz1 hz2 rfl (by decide) _ _ _ rfl (World.ownsRow_made _ #[] 0 (Nat.le_refl _) (by unfold maxLen; omega) (by simp)) _ _ _ (cs.map (Value.int .i64)) rfl (by simp) ?s1 (ints_one cs) ?s3 ?s4 ?s5 ?_)
  case s1 => exact ints_from (H.out.mono ((Below.refl _ _).alloc (Nat.le_refl _) _))
  case s3 => unfold maxLen; omega
  case s4 => omega
  case s5 => simp
  intro v1 w2 hown1 hgrow1
  have HO1 : Hid (OwnInt w.heap.size w2 v1 cs) := by
    unfold Hid OwnInt
    (try rw [Nat.zero_add] at hown1); (try rw [List.nil_append] at hown1)
    exact hown1
  have HB1 : Hid (Below w.heap.size w w2) := ((Below.refl _ _).alloc (Nat.le_refl _) _).grown hgrow1 (by simp) (fun g hg => by simp [Value.ownBlock] at hg; omega)
  clear hown1 hgrow1 hi hz0 hz1 hz2
  obtain ⟨a1, c1, rfl, hm1, hm2⟩ := own_shape HO1.out
  go_wp2_with fail
  go_loopw [6, 7] (fun o q w' => ∃ (k : Nat) (c' : List Int), k ≤ es.length ∧ q = .int .i64 k ∧ rpO cs (es.take k) = some c' ∧ Below w.heap.size w w' ∧ OwnInt w.heap.size w' o c') (fun _ q _ => es.length - (intOf q).toNat)
  case atStart => exact ⟨0, cs, Nat.zero_le _, rfl, rfl, HB1.out, HO1.out⟩
  case round =>
    obtain ⟨k, c', hk, rfl, hrp, hb, hown⟩ := hrel
    have HB := (show Hid (Below _ _ _) from hb)
    have hl0 : c'.length = cs.length := rpO_len hrp
    obtain ⟨ax, cx, e0, hx1, hx2⟩ := own_shape hown
    rw [hl0] at e0 hx1
    subst e0
    have HO := (show Hid (OwnInt _ _ _ _) from hown)
    have HR := (show Hid (rpO _ _ = _) from hrp)
    have hsz := hb.size
    have hln : c'.length ≤ 1048576 := by omega
    have HL0 := (show Hid (_ = _) from hl0)
    clear hrp hown hl0
    by_cases hlt : k < es.length
    · have hlt' : (k : Int) < (es.length : Int) := by omega
      obtain ⟨b, off, v3, v4, rfl, hbw, c0, c1', c2, c3, c4, c5, h3, h4⟩ := hc k hlt
      rw [← hb.cell (p := ⟨b, _, none⟩) hbw] at c0 c1' c2 c3 c4 c5
      obtain ⟨a3, e3, rfl, hm3⟩ := h3.shape
      obtain ⟨a4, e4, rfl, hm4⟩ := h4.shape
      have H3 := (show Hid (PusAt _ _ _) from h3)
      have H4 := (show Hid (PusAt _ _ _) from h4)
      have hbr : b < wr.heap.size := Nat.lt_of_lt_of_le hbw hb.size
      clear h3 h4 hb HO1 HB1 hc
      go_wp2_with fail
      refine (l13Has_any c' (nth En.z es k).reads _ _ _ (OwnInt.at HO.out) (PusAt.mono H3.out HB.out) hln).mono ?_
      rintro e w2 ⟨rfl, hb2⟩
      have HB2 : Hid (Below w.heap.size w w2) := below_then HB.out hsz hb2
      have HO2 : Hid (OwnInt w.heap.size w2 (.slice ax cs.length cx) c') := own_below HO.out hb2 (Nat.le_refl _)
      rw [← hb2.cell (p := ⟨b, _, none⟩) hbr] at c0 c1' c2 c3 c4 c5
      have z4 : b < w2.heap.size := by have := hb2.size; omega
      have hsz2 : w.heap.size ≤ w2.heap.size := by have := hb2.size; omega
      clear hb2 HB HO
      cases hd : hasB c' (nth En.z es k).reads
      · have HX : Hid (rpO cs es = none) := rpO_stop hlt HR.out hd
        clear hd
        go_wp2_with fail
        refine bodyPost_ret (v := .tuple #[.slice (some ⟨w2.heap.size, 0, none⟩) 0 0, .bool false]) (by simp [results, Try.results22, go_sem]) rfl ⟨_, by rw [HX.out]; rfl, by rw [HX.out]; exact own_made0 _ _ _ _ rfl hsz2, (by repeat (first | with_reducible exact HB2.out | (with_reducible refine Below.setCell ?_ ?hs _; case hs => ((try simp); try omega)) | (with_reducible refine Below.alloc ?_ ?hs _; case hs => ((try simp); try omega)) | with_reducible refine Below.drew ?_ | with_reducible refine below_drewN ?_ _))⟩
      · have HX : Hid (rpO cs (es.take (k + 1)) = some (putL c' (nth En.z es k).puts)) := rpO_next hlt HR.out hd
        clear hd
        go_wp2_with fail
        refine (l13Puts_any c' (nth En.z es k).puts _ _ _ (OwnInt.at HO2.out) (PusAt.mono H4.out HB2.out) hln).mono ?_
        rintro e w3 ⟨v', rfl, hown3, hb3⟩
        have HO3 := (show Hid (OwnInt _ _ _ _) from own_base hown3 hsz2)
        have HB3 := (show Hid (Below w.heap.size w w3) from below_then HB2.out hsz2 hb3)
        clear hown3 hb3 HO2 HB2 c0 c1' c2 c3 c4 c5
        go_wp2_with fail
        go_roundw
        case rel => exact ⟨k + 1, _, by omega, by go_num, HX.out, HB3.out, HO3.out⟩
        case measure => simp [intOf]; omega
    · have hk' : ¬ (k : Int) < (es.length : Int) := by omega
      have HX : Hid (rpO cs es = some c') := by
        have := HR.out; rw [show k = es.length by omega, List.take_length] at this; exact this
      clear hc HO1 HB1 hb
      go_wp2_with fail
      refine bodyPost_ret (v := .tuple #[.slice ax cs.length cx, .bool true]) (by simp [results, Try.results22, go_sem]) rfl ⟨_, by rw [HX.out]; rfl, by rw [HX.out]; exact HO.out, HB.out⟩
end Go.Proofs.Ytgbgjljflgbcaaa

namespace Go.Proofs.Ytgbgjljflgbcaaa
open Go.RowKit
set_option linter.unusedSimpArgs false
set_option linter.unusedVariables false
theorem eq_of_nth {α : Type} (z : α) {l m : List α} (hl : l.length = m.length) (h : ∀ i, i < l.length → nth z l i = nth z m i) : l = m := by
  apply List.ext_getElem hl
  intro i h1 h2
  have := h i h1
  rw [nth_eq z l i h1, nth_eq z m i h2] at this
  exact this
theorem ne_of_nth {α : Type} (z : α) {l m : List α} {i : Nat} (h : nth z l i ≠ nth z m i) : l ≠ m := fun e => h (by rw [e])
set_option maxHeartbeats 1000000 in
theorem lqInts_any (xs ys : List Int) (v v' : Value) (w : World) (h : IntsAt w v xs) (h' : IntsAt w v' ys) :
    Calls Try.prog 14 #[v, v'] w fun r w' => r = .returned (.bool (decide (xs = ys))) ∧ Below w.heap.size w w' := by
  obtain ⟨a, cap, rfl, hm, hc⟩ := h
  obtain ⟨a', cap', rfl, hm', hc'⟩ := h'
  by_cases hlen : xs.length = ys.length
  · have HC := (show Hid (∀ i, i < xs.length → _) from hc)
    have HC' := (show Hid (∀ i, i < ys.length → _) from hc')
    have HL := (show Hid (xs.length = ys.length) from hlen)
    rw [← hlen] at hm' ⊢
    clear hc hc' hlen
    go_enter Try.func14, Try.ntmps14
    go_wp2_with fail
    go_loopw [5] (fun q w' => ∃ k : Nat, k ≤ xs.length ∧ q = .int .i64 k ∧ (∀ j, j < k → nth 0 xs j = nth 0 ys j) ∧ Below w.heap.size w w') (fun q _ => xs.length - (intOf q).toNat)
    case atStart => exact ⟨0, Nat.zero_le _, rfl, fun j hj => absurd hj (Nat.not_lt_zero _), Below.refl _ _⟩
    case round =>
      obtain ⟨k, hk, rfl, hall, hb⟩ := hrel
      have HA := (show Hid (∀ j, j < k → nth 0 xs j = nth 0 ys j) from hall)
      clear hall
      by_cases hlt : k < xs.length
      · obtain ⟨b, off, rfl, hbw, c0⟩ := HC.out k hlt
        obtain ⟨b', off', rfl, hbw', c0'⟩ := HC'.out k (by have := HL.out; omega)
        rw [← hb.cell (p := ⟨b, _, none⟩) hbw] at c0
        rw [← hb.cell (p := ⟨b', _, none⟩) hbw'] at c0'
        have hi : (k : Int) < (xs.length : Int) := by omega
        have HB := (show Hid (Below w.heap.size w wr) from hb)
        by_cases he : nth 0 xs k = nth 0 ys k
        · have HE : Hid (∀ j, j < k + 1 → nth 0 xs j = nth 0 ys j) := fun j hj => by
            rcases Nat.lt_succ_iff_lt_or_eq.1 hj with h1 | rfl
            · exact HA.out j h1
            · exact he
          rw [← he] at c0'
          clear he hb
          generalize nth 0 xs k = z at *
          go_wp2_with fail
          go_quiet (fail)
          go_wp2_with fail
          go_roundw
          case rel => exact ⟨k + 1, by omega, by go_num, HE.out, below_drewN HB.out _⟩
          case measure => simp [intOf]; omega
        · have HN : Hid (decide (xs = ys) = false) := by
            have := ne_of_nth 0 he
            simp [Hid, this]
          have he' : (nth 0 xs k == nth 0 ys k) = false := by simp [he]
          clear hb
          generalize nth 0 xs k = z at *
          generalize nth 0 ys k = z' at *
          go_wp2_with fail
          go_quiet (fail)
          go_wp2_with fail
          go_ret
          exact ⟨by rw [HN.out]; rfl, below_drewN HB.out _⟩
      · have HY : Hid (decide (xs = ys) = true) := by
          have := eq_of_nth 0 HL.out (fun i hi => HA.out i (by omega))
          simp [Hid, this]
        go_wp2_with fail
        go_ret
        exact ⟨by rw [HY.out]; rfl, hb⟩
  · have HN : Hid (decide (xs = ys) = false) := by
      have : xs ≠ ys := fun e => hlen (by rw [e])
      simp [Hid, this]
    have h1 : ¬ (xs.length : Int) = (ys.length : Int) := by omega
    clear hc hc' hlen
    go_enter Try.func14, Try.ntmps14
    go_wp2_with fail
    go_ret
    exact ⟨by rw [HN.out]; rfl, Below.refl _ _⟩
end Go.Proofs.Ytgbgjljflgbcaaa
