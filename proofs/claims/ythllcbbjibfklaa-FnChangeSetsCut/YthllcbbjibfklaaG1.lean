/-
  Which cells a change reads and stores to, of the model; lists of numbers that are looked at.
-/
import Derived.Test.YthllcbbjibfklaaH1
import Derived.Deep.QuietTactic
import Derived.BigQuiet
namespace Go.Proofs.Ythllcbbjibfklaa
open Go.RowKit
set_option linter.unusedSimpArgs false
set_option linter.unusedVariables false

/-! ### Plain -/
def hasB (xs : List Int) (n : Int) : Bool := decide (n ∈ xs)
def upB (xs : List Int) : Bool := (List.range (xs.length - 1)).all fun i => decide (nth 0 xs i < nth 0 xs (i + 1))
def srtN (xs : List Int) (k : Nat) : List Int := ((List.range k).map fun i : Nat => (i : Int)).filter (hasB xs)
def srt (xs : List Int) : List Int := srtN xs 3
def touch (s : List Int × List Int) (d : De) : List Int × List Int :=
  if d.k = 1 then (if hasB s.2 d.b then s else (s.1 ++ [d.b], s.2)) else if d.k = 2 then (s.1, s.2 ++ [d.a]) else s
def raw (ds : List De) : List Int × List Int := ds.foldl touch ([], [])
def chR (ds : List De) : List Int := srt (raw ds).1
def chW (ds : List De) : List Int := srt (raw ds).2
theorem srtN_succ (xs : List Int) (k : Nat) : srtN xs (k + 1) = srtN xs k ++ if hasB xs k then [(k : Int)] else [] := by
  unfold srtN
  rw [List.range_succ, List.map_append, List.filter_append]
  cases h : hasB xs k <;> simp [h]
theorem srtN_len (xs : List Int) (k : Nat) : (srtN xs k).length ≤ k := by
  unfold srtN
  have := List.length_filter_le (hasB xs) ((List.range k).map fun i : Nat => (i : Int))
  simpa using this
theorem raw_snoc (ds : List De) (d : De) : raw (ds ++ [d]) = touch (raw ds) d := by simp [raw]
theorem touch_len (s : List Int × List Int) (d : De) : (touch s d).1.length ≤ s.1.length + 1 ∧ (touch s d).2.length ≤ s.2.length + 1 := by
  unfold touch
  split
  · split <;> simp
  · split <;> simp
theorem raw_len (ds : List De) : (raw ds).1.length ≤ ds.length ∧ (raw ds).2.length ≤ ds.length := by
  suffices ∀ (l : List De) (s : List Int × List Int), (l.foldl touch s).1.length ≤ s.1.length + l.length ∧ (l.foldl touch s).2.length ≤ s.2.length + l.length by
    have := this ds ([], []); simpa [raw] using this
  intro l
  induction l with
  | nil => intro s; simp
  | cons d l ih =>
    intro s
    have h1 := touch_len s d
    have h2 := ih (touch s d)
    simp only [List.foldl_cons, List.length_cons]
    omega
theorem hasB_yes {xs : List Int} {n : Int} {k : Nat} (hk : k < xs.length) (h : nth 0 xs k = n) : hasB xs n = true := by
  unfold hasB; rw [decide_eq_true_eq, ← h]; exact nth_mem 0 xs k hk
theorem hasB_no {xs : List Int} {n : Int} (h : ∀ j, j < xs.length → nth 0 xs j ≠ n) : hasB xs n = false := by
  unfold hasB; rw [decide_eq_false_iff_not]
  intro hm
  obtain ⟨j, hj, e⟩ := List.getElem_of_mem hm
  exact h j hj (by rw [nth_eq 0 xs j hj]; exact e)

/-! ### looks -/
set_option maxHeartbeats 400000 in
theorem lqHas_any (v : Value) (xs : List Int) (n : Int) (w : World) (h : IntsAt w v xs) :
    Calls Try.prog 14 #[v, .int .i64 n] w fun r w' => r = .returned (.bool (hasB xs n)) ∧ w' = w := by
  obtain ⟨a, cap, rfl, hm, hc⟩ := h
  go_enter Try.func14, Try.ntmps14
  go_wp2_with fail
  go_loop [5] (fun i => ∃ k : Nat, k ≤ xs.length ∧ i = .int .i64 k ∧ (∀ j, j < k → nth 0 xs j ≠ n)) (fun i => xs.length - (intOf i).toNat)
  case atStart => exact ⟨0, Nat.zero_le _, rfl, fun j hj => absurd hj (Nat.not_lt_zero _)⟩
  case round =>
    obtain ⟨k, hk, rfl, hall⟩ := hrel
    by_cases hlt : k < xs.length
    · obtain ⟨b, off, rfl, hbw, c0⟩ := hc k hlt
      by_cases he : nth 0 xs k = n
      · have he' : (nth 0 xs k == n) = true := by simp [he]
        have HF : Hid (hasB xs n = true) := hasB_yes hlt he
        clear hc hall he
        go_wp2_with fail
        go_ret
        exact ⟨by rw [HF.out]; rfl, rfl⟩
      · have he' : (nth 0 xs k == n) = false := by simp [he]
        have HA : Hid (∀ j, j < k + 1 → nth 0 xs j ≠ n) := so_far hall he
        clear hc hall
        go_wp2_with fail
        go_round
        case rel => exact ⟨k + 1, by omega, by go_num, HA.out⟩
        case measure => simp [intOf]; omega
    · have HF : Hid (hasB xs n = false) := hasB_no (fun j hj => hall j (by omega))
      clear hall hc
      go_wp2
      go_ret
      exact ⟨by rw [HF.out]; rfl, rfl⟩

set_option maxHeartbeats 400000 in
theorem l2Has_any (v : Value) (xs : List Int) (n : Int) (w : World) (h : IntsAt w v xs) :
    Calls Try.prog 41 #[v, .int .i64 n] w fun r w' => r = .returned (.bool (hasB xs n)) ∧ w' = w := by
  obtain ⟨a, cap, rfl, hm, hc⟩ := h
  go_enter Try.func41, Try.ntmps41
  go_wp2_with fail
  go_loop [5] (fun i => ∃ k : Nat, k ≤ xs.length ∧ i = .int .i64 k ∧ (∀ j, j < k → nth 0 xs j ≠ n)) (fun i => xs.length - (intOf i).toNat)
  case atStart => exact ⟨0, Nat.zero_le _, rfl, fun j hj => absurd hj (Nat.not_lt_zero _)⟩
  case round =>
    obtain ⟨k, hk, rfl, hall⟩ := hrel
    by_cases hlt : k < xs.length
    · obtain ⟨b, off, rfl, hbw, c0⟩ := hc k hlt
      by_cases he : nth 0 xs k = n
      · have he' : (nth 0 xs k == n) = true := by simp [he]
        have HF : Hid (hasB xs n = true) := hasB_yes hlt he
        clear hc hall he
        go_wp2_with fail
        go_ret
        exact ⟨by rw [HF.out]; rfl, rfl⟩
      · have he' : (nth 0 xs k == n) = false := by simp [he]
        have HA : Hid (∀ j, j < k + 1 → nth 0 xs j ≠ n) := so_far hall he
        clear hc hall
        go_wp2_with fail
        go_round
        case rel => exact ⟨k + 1, by omega, by go_num, HA.out⟩
        case measure => simp [intOf]; omega
    · have HF : Hid (hasB xs n = false) := hasB_no (fun j hj => hall j (by omega))
      clear hall hc
      go_wp2
      go_ret
      exact ⟨by rw [HF.out]; rfl, rfl⟩

set_option maxHeartbeats 400000 in
theorem lqWithin_any (v v' : Value) (xs ys : List Int) (w : World) (h : IntsAt w v xs) (h' : IntsAt w v' ys) :
    Calls Try.prog 21 #[v, v'] w fun r w' => r = .returned (.bool (xs.all (hasB ys))) ∧ w' = w := by
  obtain ⟨a, cap, rfl, hm, hc⟩ := h
  obtain ⟨a', cap', rfl, _⟩ := h'.shape
  have HY := (show Hid (IntsAt _ _ _) from h')
  clear h'
  go_enter Try.func21, Try.ntmps21
  go_wp2_with fail
  go_loop [5] (fun i => ∃ k : Nat, k ≤ xs.length ∧ i = .int .i64 k ∧ (∀ j, j < k → hasB ys (nth 0 xs j) = true)) (fun i => xs.length - (intOf i).toNat)
  case atStart => exact ⟨0, Nat.zero_le _, rfl, fun j hj => absurd hj (Nat.not_lt_zero _)⟩
  case round =>
    obtain ⟨k, hk, rfl, hall⟩ := hrel
    by_cases hlt : k < xs.length
    · obtain ⟨b, off, rfl, hbw, c0⟩ := hc k hlt
      cases he : hasB ys (nth 0 xs k)
      · have HF : Hid (xs.all (hasB ys) = false) := not_all_nth 0 (hasB ys) xs k hlt he
        clear hc hall
        go_wp2_with (go_at_call 14; refine (lqHas_any _ ys _ _ HY.out).mono ?_; rintro e w' ⟨rfl, hw⟩; have hw := hw.symm; subst hw)
        go_ret
        exact ⟨by rw [HF.out]; rfl, rfl⟩
      · have HA : Hid (∀ j, j < k + 1 → hasB ys (nth 0 xs j) = true) := so_far hall he
        clear hc hall
        go_wp2_with (go_at_call 14; refine (lqHas_any _ ys _ _ HY.out).mono ?_; rintro e w' ⟨rfl, hw⟩; have hw := hw.symm; subst hw)
        go_round
        case rel => exact ⟨k + 1, by omega, by go_num, HA.out⟩
        case measure => simp [intOf]; omega
    · have HF : Hid (xs.all (hasB ys) = true) := all_nth 0 (hasB ys) xs (fun j hj => hall j (by omega))
      clear hall hc
      go_wp2
      go_ret
      exact ⟨by rw [HF.out]; rfl, rfl⟩

set_option maxHeartbeats 400000 in
theorem lqUp_any (v : Value) (xs : List Int) (w : World) (h : IntsAt w v xs) :
    Calls Try.prog 19 #[v] w fun r w' => r = .returned (.bool (upB xs)) ∧ Below w.heap.size w w' := by
  obtain ⟨a, cap, rfl, hm, hc⟩ := h
  go_enter Try.func19, Try.ntmps19
  go_wp2_with fail
  go_loopw [3] (fun i w' => ∃ m : Nat, (m = 0 ∨ m < xs.length) ∧ i = .int .i64 ((m : Int) + 1) ∧ (∀ j, j < m → nth 0 xs j < nth 0 xs (j + 1)) ∧ Below w.heap.size w w') (fun i _ => xs.length - (intOf i).toNat)
  case atStart => exact ⟨0, .inl rfl, by simp, fun j hj => absurd hj (Nat.not_lt_zero _), Below.refl _ _⟩
  case round =>
    obtain ⟨m, hml, rfl, hall, hb⟩ := hrel
    have HB := (show Hid (Below _ _ _) from hb)
    by_cases hlt : m + 1 < xs.length
    · have hlt' : (m : Int) + 1 < (xs.length : Int) := by omega
      have hlt2 : (m : Int) < (xs.length : Int) := by omega
      obtain ⟨b, off, rfl, hbw, c0⟩ := hc m (by omega)
      obtain ⟨b', off', e', hbw', c1⟩ := hc (m + 1) hlt
      injection e' with e2
      injection e2 with e3 e4
      subst e3 e4
      rw [← hb.cell (p := ⟨b, _, none⟩) hbw] at c0 c1
      by_cases he : nth 0 xs m < nth 0 xs (m + 1)
      · have he' : ¬ (nth 0 xs (m + 1) ≤ nth 0 xs m) := by omega
        have HA : Hid (∀ j, j < m + 1 → nth 0 xs j < nth 0 xs (j + 1)) := so_far hall he
        clear hc hall hb
        go_wp2_with fail
        go_quiet (fail)
        go_wp2_with fail
        go_roundw
        case rel => exact ⟨m + 1, .inr hlt, by go_num, HA.out, below_drewN HB.out _⟩
        case measure => simp [intOf]; omega
      · have he' : nth 0 xs (m + 1) ≤ nth 0 xs m := by omega
        have HF : Hid (upB xs = false) := by
          unfold Hid upB
          rw [List.all_eq_false]
          exact ⟨m, List.mem_range.2 (by omega), by simpa using he⟩
        clear hc hall hb
        go_wp2_with fail
        go_quiet (fail)
        go_wp2_with fail
        go_ret
        exact ⟨by rw [HF.out]; rfl, below_drewN HB.out _⟩
    · have hlt' : ¬ (m : Int) + 1 < (xs.length : Int) := by omega
      have HF : Hid (upB xs = true) := by
        unfold Hid upB
        rw [List.all_eq_true]
        intro i hi
        have := List.mem_range.1 hi
        simpa using hall i (by omega)
      clear hc hall hb
      go_wp2_with fail
      go_ret
      exact ⟨by rw [HF.out]; rfl, HB.out⟩


/-! ### append, and which block it comes to lie in -/
theorem wpList_append_blk {P : Program} {w : World} {ops : Array Oper} {rest : List Oper} {o : Oper} {a : Act} {Q : Exit → Act → World → Prop} (hgd : o.guard = none) (s x : Operand) (t : TypeId)
    (ho : o.op = .call { callee := .builtin .append, args := #[s, x], argTypes := #[t, t] })
    (base : Nat) (e : TypeId) (i : TypeInfo) (z : Value) (size bytes : Nat) (ht : P.underlying t = some (.slice e)) (hi : P.info? e = some i) (hz : i.zero = some z)
    (hsize : i.size = size) (hby : i.bytes = bytes) (hzs : z.cells.size = size) (hsz : 0 < size)
    (v : Value) (n : Nat) (xs : List Value) (hs : a.eval s = v) (hown : w.ownsRow base e size v n xs)
    (ad : Addr) (m c : Nat) (news : List Value) (hx : a.eval x = .slice (some ad) m c) (hl : news.length = m * size) (hnews : ∀ j u, news[j]? = some u → w.cell? (ad.add j) = some u) (h1 : ∀ u ∈ news, u.oneCell' = true)
    (hm0 : 0 < m) (h63 : n + m ≤ maxLen) (hbytes : (n + m) * bytes ≤ 140737488355328) (hbase : base ≤ w.heap.size)
    (h : ∀ v' w', w'.ownsRow base e size v' (n + m) (xs ++ news) → w.grownBy w' v.ownBlock → (v'.ownBlock = v.ownBlock ∨ v'.ownBlock = some w.heap.size) → wpList P ops Q rest (a.put o.dst v') w') : wpList P ops Q (o :: rest) a w := by
  refine wpList_plain hgd fun K hK => ?_
  obtain ⟨v', w', hr, h2, h3, _⟩ := run_append_own (P := P) w base t o.type e i z size bytes ht hi hz hsize hby hzs hsz v n xs hown ad m c news hl hnews h1 h63 hbytes hbase
  have hblk : v'.ownBlock = v.ownBlock ∨ v'.ownBlock = some w.heap.size := by
    subst hsize
    subst hby
    have h63' : n + m ≤ 9223372036854775807 := by unfold maxLen at h63; omega
    rcases hown.2 with ⟨rfl, rfl⟩ | ⟨g, cap, cur, rfl, hbg, hg, hnc, hcm, hcs, htake⟩
    · have hq := run_append_nil (P := P) w t o.type e i z ht hi hz ad m c news hl hnews hm0 (by omega) (by rw [Nat.zero_add] at hbytes; omega)
      rw [hr] at hq
      injection hq with e1 _
      right; rw [e1]; rfl
    · by_cases hroom : n + m ≤ cap
      · have hfit : n * i.size + news.length ≤ cur.size := by rw [hl, hcs, ← Nat.add_mul]; exact Nat.mul_le_mul_right _ hroom
        have hq := run_append_room (P := P) w t o.type e i ht hi g n cap cur hg ad m c news hl hnews h1 hroom hfit
        rw [hr] at hq
        injection hq with e1 _
        left; rw [e1]; rfl
      · have hq := run_append_grow (P := P) w t o.type e i z ht hi hz ⟨g, 0, none⟩ n cap xs hown.1 (hown.cells (g := g) rfl) ad m c news hl hnews (by omega) (by omega) (growslice_fits (by omega) hbytes)
        rw [hr] at hq
        injection hq with e1 _
        right; rw [e1]; rfl
  unfold Oper.wp execOp
  simp only [ho, resolve, invoke, builtin, Sem.run_bind, Sem.run_pure, Result.andThen_ok, List.map_toArray, List.map_cons, List.map_nil, hs, hx, hr]
  exact hK _ _ (h v' w' h2 h3 hblk)

end Go.Proofs.Ythllcbbjibfklaa
