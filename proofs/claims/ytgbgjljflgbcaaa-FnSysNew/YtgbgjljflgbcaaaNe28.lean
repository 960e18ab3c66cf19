import Derived.Test.YtgbgjljflgbcaaaNe07
import Derived.Test.YtgbgjljflgbcaaaNe06
namespace Go.Proofs.Ytgbgjljflgbcaaa
open Go.RowKit
set_option linter.unusedSimpArgs false
set_option linter.unusedVariables false
set_option maxRecDepth 20000
theorem PusAt.takeP {w : World} {a : Option Addr} {cap : Nat} {xs : List Pu} (h : PusAt w (.slice a xs.length cap) xs) (n : Nat) (hn : n ≤ xs.length) : PusAt w (.slice a n cap) (xs.take n) := by
  obtain ⟨a', cap', e, hm, hc⟩ := h
  injection e with e1 e2 e3
  subst e1 e3
  have hl : (xs.take n).length = n := by simp; omega
  refine ⟨a, cap, by rw [hl], by rw [hl]; omega, fun i hi => ?_⟩
  rw [hl] at hi
  obtain ⟨b, off, e, hb, c0, c1⟩ := hc i (by omega)
  rw [nth_take _ _ _ _ hi]
  exact ⟨b, off, e, hb, c0, c1⟩
theorem PusAt.dropP {w : World} {b off cap : Nat} {xs : List Pu} (h : PusAt w (.slice (some ⟨b, off, none⟩) xs.length cap) xs) (n : Nat) (hn : n ≤ xs.length) : PusAt w (.slice (some ⟨b, off + n * 2, none⟩) (xs.length - n) (cap - n)) (xs.drop n) := by
  obtain ⟨a', cap', e, hm, hc⟩ := h
  injection e with e1 e2 e3
  subst e1 e3
  have hl : (xs.drop n).length = xs.length - n := by simp
  refine ⟨_, cap - n, by rw [hl], by rw [hl]; omega, fun i hi => ?_⟩
  rw [hl] at hi
  obtain ⟨b', off', e, hb, c0, c1⟩ := hc (n + i) (by omega)
  injection e with e; injection e with e1 e2; subst e1 e2
  rw [nth_drop]
  refine ⟨b, off + n * 2, rfl, hb, ?_, ?_⟩
  · rw [show off + n * 2 + i * 2 = off + (n + i) * 2 by omega]; exact c0
  · rw [show off + n * 2 + i * 2 + 1 = off + (n + i) * 2 + 1 by omega]; exact c1
theorem PusAt.none0 (w : World) (a : Option Addr) (cap : Nat) (hc : cap ≤ 9223372036854775807) : PusAt w (.slice a 0 cap) [] := ⟨a, cap, rfl, ⟨by simp, hc⟩, fun i hi => by simp at hi⟩
set_option maxHeartbeats 2000000 in
theorem putsHeld_any (t : Ta) (a3 a8 a9 a10 : Option Addr) (c3 c8 c9 c10 : Nat) (w : World) (h : PusAt w (.slice a10 t.puts.length c10) t.puts) (hs : t.stage = 0 ∨ t.stage = 1 ∨ t.stage = 2 ∨ t.stage = 3 ∨ t.stage = 4 ∨ t.stage = 5) (ha : t.stage = 2 ∨ t.stage = 5 → ∃ n : Nat, t.at_ = (n : Int) ∧ n < t.puts.length) :
    Calls Try.prog 128 #[.agg #[.int .i64 t.body, .int .i64 t.pc, .int .i64 t.up, .slice a3 t.regs.length c3, .int .i64 t.way, .int .i64 t.stage, .int .i64 t.at_, .int .i64 t.since, .slice a8 t.old.length c8, .slice a9 t.reads.length c9, .slice a10 t.puts.length c10, .int .i64 t.when_, .int .i64 t.from_]] w fun r w' => ∃ v, r = .returned v ∧ (∀ w0, PusAt w0 (.slice a10 t.puts.length c10) t.puts → PusAt w0 v (phL t)) ∧ Below w.heap.size w w' := by
  obtain ⟨a', cap', e, hcap⟩ := h.cap
  injection e with e1 e2 e3
  subst e1 e3
  clear e2
  have HH := (show Hid (PusAt _ _ _) from h)
  rcases hs with e | e | e | e | e | e
  · have HF : Hid (phL t = []) := by unfold Hid phL; simp [e]
    rw [e]
    clear ha h
    go_enter Try.func128, Try.ntmps128
    go_wp2_with fail
    go_ret
    exact ⟨_, rfl, fun w0 h0 => by rw [HF.out]; exact PusAt.none0 _ _ _ (by omega), (by repeat (first | with_reducible exact Below.refl _ _ | (with_reducible refine Below.setCell ?_ ?hs _; case hs => ((try simp); try omega)) | (with_reducible refine Below.alloc ?_ ?hs _; case hs => ((try simp); try omega)) | with_reducible refine Below.drew ?_))⟩
  · have HF : Hid (phL t = []) := by unfold Hid phL; simp [e]
    rw [e]
    clear ha h
    go_enter Try.func128, Try.ntmps128
    go_wp2_with fail
    go_ret
    exact ⟨_, rfl, fun w0 h0 => by rw [HF.out]; exact PusAt.none0 _ _ _ (by omega), (by repeat (first | with_reducible exact Below.refl _ _ | (with_reducible refine Below.setCell ?_ ?hs _; case hs => ((try simp); try omega)) | (with_reducible refine Below.alloc ?_ ?hs _; case hs => ((try simp); try omega)) | with_reducible refine Below.drew ?_))⟩
  · obtain ⟨n, hn, hlt⟩ := ha (.inl e)
    have HF : Hid (phL t = t.puts.take n) := by unfold Hid phL; rw [if_pos e, hn]; rfl
    have hle : (n : Int) ≤ (c10 : Int) := by omega
    have hle' : n ≤ c10 := by omega
    rw [e]
    clear ha h
    go_enter Try.func128, Try.ntmps128
    go_wp2_with fail
    go_ret
    exact ⟨_, rfl, fun w0 h0 => by rw [HF.out]; exact PusAt.takeP h0 n (by omega), (by repeat (first | with_reducible exact Below.refl _ _ | (with_reducible refine Below.setCell ?_ ?hs _; case hs => ((try simp); try omega)) | (with_reducible refine Below.alloc ?_ ?hs _; case hs => ((try simp); try omega)) | with_reducible refine Below.drew ?_))⟩
  · have HF : Hid (phL t = t.puts) := by unfold Hid phL; simp [e]
    rw [e]
    clear ha h
    go_enter Try.func128, Try.ntmps128
    go_wp2_with fail
    go_ret
    exact ⟨_, rfl, fun w0 h0 => by rw [HF.out]; exact h0, (by repeat (first | with_reducible exact Below.refl _ _ | (with_reducible refine Below.setCell ?_ ?hs _; case hs => ((try simp); try omega)) | (with_reducible refine Below.alloc ?_ ?hs _; case hs => ((try simp); try omega)) | with_reducible refine Below.drew ?_))⟩
  · have HF : Hid (phL t = t.puts) := by unfold Hid phL; simp [e]
    rw [e]
    clear ha h
    go_enter Try.func128, Try.ntmps128
    go_wp2_with fail
    go_ret
    exact ⟨_, rfl, fun w0 h0 => by rw [HF.out]; exact h0, (by repeat (first | with_reducible exact Below.refl _ _ | (with_reducible refine Below.setCell ?_ ?hs _; case hs => ((try simp); try omega)) | (with_reducible refine Below.alloc ?_ ?hs _; case hs => ((try simp); try omega)) | with_reducible refine Below.drew ?_))⟩
  · obtain ⟨n, hn, hlt⟩ := ha (.inr e)
    have HF : Hid (phL t = t.puts.drop n) := by unfold Hid phL; rw [if_neg (by omega), if_neg (by omega), if_pos e, hn]; rfl
    obtain ⟨ax, cx, ex, hmx, hcx⟩ := h
    injection ex with ex1 ex2 ex3
    subst ex1 ex3
    obtain ⟨b, off, rfl, _⟩ := hcx 0 (by omega)
    have hle : (n : Int) ≤ (t.puts.length : Int) := by omega
    have hle' : n ≤ t.puts.length := by omega
    have hle2 : n ≤ c10 := by omega
    have hne : ¬ c10 = n := by omega
    rw [e]
    clear ha hcx
    go_enter Try.func128, Try.ntmps128
    go_wp2_with fail
    go_ret
    exact ⟨_, rfl, fun w0 h0 => by rw [HF.out]; exact PusAt.dropP h0 n (by omega), (by repeat (first | with_reducible exact Below.refl _ _ | (with_reducible refine Below.setCell ?_ ?hs _; case hs => ((try simp); try omega)) | (with_reducible refine Below.alloc ?_ ?hs _; case hs => ((try simp); try omega)) | with_reducible refine Below.drew ?_))⟩
end Go.Proofs.Ytgbgjljflgbcaaa

namespace Go.Proofs.Ytgbgjljflgbcaaa
open Go.RowKit
set_option linter.unusedSimpArgs false
set_option linter.unusedVariables false
set_option maxRecDepth 20000
theorem hold1_snoc (k : Int) (xs : List Pu) (x : Pu) : ∀ h, hold1 k h (xs ++ [x]) = (hold1 k h xs).bind fun h' => if nth 0 h' x.c.toNat = -1 then some (h'.set x.c.toNat k) else none := by
  induction xs with
  | nil => intro h; simp [hold1]
  | cons y ys ih =>
    intro h
    simp only [List.cons_append, hold1]
    split
    · exact ih _
    · rfl
theorem hold1_len {k : Int} {xs : List Pu} : ∀ {h h' : List Int}, hold1 k h xs = some h' → h'.length = h.length := by
  induction xs with
  | nil => intro h h' e; simp [hold1] at e; subst e; rfl
  | cons y ys ih =>
    intro h h' e
    simp only [hold1] at e
    split at e
    · rw [ih e]; simp
    · cases e
theorem hold1_none_app {k : Int} {xs : List Pu} (ys : List Pu) : ∀ {h : List Int}, hold1 k h xs = none → hold1 k h (xs ++ ys) = none := by
  induction xs with
  | nil => intro h e; simp [hold1] at e
  | cons y zs ih =>
    intro h e
    simp only [List.cons_append, hold1] at e ⊢
    split
    · rename_i g; rw [if_pos g] at e; exact ih e
    · rfl
theorem holdN_none {ts : List Ta} {h0 : List Int} {k n : Nat} (hk : k ≤ n) (h : holdN ts h0 k = none) : holdN ts h0 n = none := by
  induction n with
  | zero => have : k = 0 := by omega
            subst this; exact h
  | succ n ih =>
    by_cases e : k = n + 1
    · subst e; exact h
    · simp [holdN, ih (by omega)]
def RowIs (w : World) (g : Nat) (h : List Int) : Prop := Blk w g h.length ∧ ∀ j, j < h.length → w.cell? ⟨g, j, none⟩ = some (.int .i64 (nth 0 h j))
theorem RowIs.below {w w' : World} {g : Nat} {h : List Int} (hr : RowIs w g h) (hb : Below w.heap.size w w') : RowIs w' g h :=
  ⟨hr.1.below hb, fun j hj => by rw [hb.cell (p := ⟨g, j, none⟩) hr.1.1]; exact hr.2 j hj⟩
theorem RowIs.set {w : World} {g : Nat} {h : List Int} (hr : RowIs w g h) (i : Nat) (hi : i < h.length) (x : Int) : RowIs (w.setCell ⟨g, i, none⟩ (.int .i64 x)) g (h.set i x) := by
  refine ⟨by rw [List.length_set]; exact hr.1.set _ _, fun j hj => ?_⟩
  rw [List.length_set] at hj
  rw [nth_set hi]
  by_cases e : i = j
  · subst e; rw [if_pos rfl]; exact cell_set_same hr.1 i hi _
  · rw [if_neg e, cell_set_other _ _ _ _ _ (by intro q; injection q; omega)]; exact hr.2 j hj
theorem RowIs.at {w : World} {g : Nat} {h : List Int} (hr : RowIs w g h) (hl : h.length ≤ 9223372036854775807) (cap : Nat) : IntsAt w (.slice (some ⟨g, 0, none⟩) h.length cap) h :=
  ⟨_, cap, rfl, hl, fun i hi => ⟨g, 0, rfl, hr.1.1, by rw [Nat.zero_add]; exact hr.2 i hi⟩⟩
set_option maxHeartbeats 8000000 in
theorem cellHolders_any (s : Sy) (sa0 sa1 sa3 : Option Addr) (sc0 sc1 sc3 : Nat) (w : World) (hT : TasAt w (.slice sa1 s.tasks.length sc1) s.tasks) (hn : s.cells.length ≤ 1048576) (hf : ∀ i, i < s.tasks.length → ((nth Ta.z s.tasks i).stage = 0 ∨ (nth Ta.z s.tasks i).stage = 1 ∨ (nth Ta.z s.tasks i).stage = 2 ∨ (nth Ta.z s.tasks i).stage = 3 ∨ (nth Ta.z s.tasks i).stage = 4 ∨ (nth Ta.z s.tasks i).stage = 5) ∧ ((nth Ta.z s.tasks i).stage = 2 ∨ (nth Ta.z s.tasks i).stage = 5 → ∃ n : Nat, (nth Ta.z s.tasks i).at_ = (n : Int) ∧ n < (nth Ta.z s.tasks i).puts.length) ∧ CellsOk (phL (nth Ta.z s.tasks i)) s.cells.length) :
    Calls Try.prog 92 #[.agg #[.slice sa0 s.cells.length sc0, .slice sa1 s.tasks.length sc1, .int .i64 s.clock, .slice sa3 s.log.length sc3]] w fun r w' => ∃ v, r = .returned (.tuple #[v, .bool (holdN s.tasks (List.replicate s.cells.length (-1)) s.tasks.length).isSome]) ∧ (∀ h, holdN s.tasks (List.replicate s.cells.length (-1)) s.tasks.length = some h → IntsAt w' v h) ∧ Below w.heap.size w w' := by
  obtain ⟨a, cap, e, hm, hc⟩ := id hT
  injection e with e1 e2 e3
  subst e1 e3
  clear hT e2
  obtain ⟨M, hM, hmk⟩ := make_any (P := Try.prog) 23 3 _ 1 8 Try.underlying23 Try.info_int s.cells.length (by omega) (by omega)
  have HFA := (show Hid (∀ i, i < s.tasks.length → _) from hf)
  clear hf
  go_enter Try.func92, Try.ntmps92
  go_wp2_with fail
  go_loopw [16] (fun q w' => ∃ k : Nat, k ≤ s.cells.length ∧ q = .int .i64 k ∧ Below (w.heap.size + 1) (w.alloc (.cells #[.slice sa0 s.cells.length sc0, .slice sa1 s.tasks.length sc1, .int .i64 s.clock, .slice sa3 s.log.length sc3] 32)) w' ∧ Blk w' (w.heap.size + 1) s.cells.length ∧ (∀ j, j < k → w'.cell? ⟨w.heap.size + 1, j, none⟩ = some (.int .i64 (-1)))) (fun q _ => s.cells.length - (intOf q).toNat)
  case atStart =>
    have hB := Blk.new (w.alloc (.cells #[.slice sa0 s.cells.length sc0, .slice sa1 s.tasks.length sc1, .int .i64 s.clock, .slice sa3 s.log.length sc3] 32)) M 3
    rw [hM, Nat.mul_one] at hB
    exact ⟨0, Nat.zero_le _, rfl, (Below.refl _ _).alloc (by simp) _, by simpa using hB, fun j hj => absurd hj (Nat.not_lt_zero _)⟩
  clear hmk hM
  case round =>
    obtain ⟨k, hk, rfl, hb, hB, hall⟩ := hrel
    have hsz : w.heap.size + 1 ≤ wr.heap.size := by have := hb.size; simpa using this
    by_cases hlt : k < s.cells.length
    · obtain ⟨⟨u, f0⟩, f1⟩ := hB.2 k hlt
      have HB := (show Hid (Below _ _ _) from hb)
      have HK := (show Hid (Blk _ _ _) from hB)
      have HA := (show Hid (∀ j, j < k → _) from hall)
      clear hb hB hall hc
      go_wp2_with fail
      go_roundw
      case rel =>
        refine ⟨k + 1, by omega, by go_num, HB.out.setCell (by simp) _, HK.out.set _ _, so_far (fun j hj => ?_) ?_⟩
        · rw [cell_set_other _ _ _ _ _ (by intro e; injection e; omega)]; exact HA.out j hj
        · exact cell_set_same HK.out k hlt _
      case measure => simp [intOf]; omega
    · have he : k = s.cells.length := by omega
      subst he
      have HRow : Hid (RowIs wr (w.heap.size + 1) (List.replicate s.cells.length (-1))) := by
        refine ⟨by rw [List.length_replicate]; exact hB, fun j hj => ?_⟩
        rw [List.length_replicate] at hj
        rw [hall j hj]; simp [nth, hj]
      have e1 : wr.cell? ⟨w.heap.size, 1, none⟩ = some (.slice sa1 s.tasks.length sc1) := by rw [hb.cell (p := ⟨w.heap.size, 1, none⟩) (by simp)]; simp
      have HB := (show Hid (Below _ _ _) from hb)
      clear hb hB hall hlt hk
      go_wp2_with fail
      go_loopw [26] (fun q w' => ∃ (k : Nat) (h : List Int), k ≤ s.tasks.length ∧ q = .int .i64 k ∧ holdN s.tasks (List.replicate s.cells.length (-1)) k = some h ∧ h.length = s.cells.length ∧ RowIs w' (w.heap.size + 1) h ∧ Below (w.heap.size + 1) (w.alloc (.cells #[.slice sa0 s.cells.length sc0, .slice sa1 s.tasks.length sc1, .int .i64 s.clock, .slice sa3 s.log.length sc3] 32)) w') (fun q _ => s.tasks.length - (intOf q).toNat)
      case atStart => exact ⟨0, _, Nat.zero_le _, rfl, rfl, by simp, HRow.out, HB.out⟩
      clear HRow HB e1 hsz
      case round =>
        obtain ⟨k, h, hk, rfl, hh, hhl, hrow, hb⟩ := hrel
        have hsz : w.heap.size + 1 ≤ wr.heap.size := by have := hb.size; simpa using this
        have hbw : Below w.heap.size w wr := ((Below.refl _ _).alloc (Nat.le_refl _) _).trans (hb.mono (by omega))
        have z1 : w.heap.size + 1 < wr.heap.size := hrow.1.1
        have HH := (show Hid (_ = some h) from hh)
        have HHL := (show Hid (h.length = _) from hhl)
        have HR := (show Hid (RowIs _ _ _) from hrow)
        have HB := (show Hid (Below (w.heap.size + 1) _ _) from hb)
        have HBW := (show Hid (Below w.heap.size w _) from hbw)
        clear hh hhl hrow hb
        by_cases hlt : k < s.tasks.length
        · have hlt' : (k : Int) < (s.tasks.length : Int) := by omega
          obtain ⟨b, off, v3, v8, v9, v10, rfl, hbb, c0, c1, c2, c3, c4, c5, c6, c7, c8, c9, c10, c11, c12, h3, h8, h9, h10⟩ := hc k hlt
          rw [← hbw.cell (p := ⟨b, _, none⟩) hbb] at c0 c1 c2 c3 c4 c5 c6 c7 c8 c9 c10 c11 c12
          have hbr : b < wr.heap.size := by have := hbw.size; omega
          obtain ⟨a3, e3, rfl, _⟩ := h3.shape
          obtain ⟨a8, e8, rfl, _⟩ := h8.shape
          obtain ⟨a9, e9, rfl, _⟩ := h9.shape
          obtain ⟨a10, e10, rfl, _⟩ := h10.shape
          have H10 := (show Hid (PusAt _ _ _) from h10)
          obtain ⟨hs, ha, hck⟩ := HFA.out k hlt
          have HS := (show Hid ((nth Ta.z s.tasks k).stage = 0 ∨ _) from hs)
          have HAt := (show Hid ((nth Ta.z s.tasks k).stage = 2 ∨ _ → _) from ha)
          have HCK := (show Hid (CellsOk _ _) from hck)
          clear h3 h8 h9 h10 hs ha hck hbw
          go_wp2_with fail
          refine (putsHeld_any (nth Ta.z s.tasks k) _ _ _ _ _ _ _ _ _ (by exact PusAt.mono H10.out (by repeat (first | with_reducible exact HBW.out | (with_reducible refine Below.setCell ?_ ?hs _; case hs => ((try simp); try omega)) | (with_reducible refine Below.alloc ?_ ?hs _; case hs => ((try simp); try omega)) | with_reducible refine Below.drew ?_))) HS.out HAt.out).mono ?_
          rintro e w1 ⟨pv, rfl, hpv, hb1⟩
          have hL := hpv w H10.out
          obtain ⟨pa, pc, rfl, hpl⟩ := hL.shape
          have HL := (show Hid (PusAt _ _ _) from hL)
          have HR1 : Hid (RowIs w1 (w.heap.size + 1) h) := HR.out.below (below_then (by repeat (first | with_reducible exact Below.refl _ _ | (with_reducible refine Below.setCell ?_ ?hs _; case hs => ((try simp); try omega)) | (with_reducible refine Below.alloc ?_ ?hs _; case hs => ((try simp); try omega)) | with_reducible refine Below.drew ?_)) (by (try simp); try omega) hb1)
          have HB1 : Hid (Below (w.heap.size + 1) (w.alloc (.cells #[.slice sa0 s.cells.length sc0, .slice (some ⟨b, off, none⟩) s.tasks.length sc1, .int .i64 s.clock, .slice sa3 s.log.length sc3] 32)) w1) := below_then (by repeat (first | with_reducible exact HB.out | (with_reducible refine Below.setCell ?_ ?hs _; case hs => ((try simp); try omega)) | (with_reducible refine Below.alloc ?_ ?hs _; case hs => ((try simp); try omega)) | with_reducible refine Below.drew ?_)) (by (try simp); try omega) hb1
          clear hL hpv hb1 HR HB HBW H10 HS HAt c0 c1 c2 c3 c4 c5 c6 c7 c8 c9 c10 c11 c12 hsz hbr z1
          generalize hLL : phL (nth Ta.z s.tasks k) = L at HL HCK hpl ⊢
          have HLL := (show Hid (_ = L) from hLL)
          clear hLL
          go_wp2_with fail
          go_loopw [34] (fun q w' => ∃ (m : Nat) (h' : List Int), m ≤ L.length ∧ q = .int .i64 m ∧ hold1 k h (L.take m) = some h' ∧ RowIs w' (w.heap.size + 1) h' ∧ Below (w.heap.size + 1) (w.alloc (.cells #[.slice sa0 s.cells.length sc0, .slice (some ⟨b, off, none⟩) s.tasks.length sc1, .int .i64 s.clock, .slice sa3 s.log.length sc3] 32)) w') (fun q _ => L.length - (intOf q).toNat)
          case atStart => exact ⟨0, h, Nat.zero_le _, rfl, rfl, HR1.out, HB1.out⟩
          clear HR1 HB1
          case round =>
            obtain ⟨m, h', hm', rfl, hh', hrow, hb⟩ := hrel
            have hl' : h'.length = s.cells.length := by rw [hold1_len hh', HHL.out]
            have hsz : w.heap.size + 1 ≤ wr.heap.size := by have := hb.size; simpa using this
            have hbw : Below w.heap.size w wr := ((Below.refl _ _).alloc (Nat.le_refl _) _).trans (hb.mono (by omega))
            have z1 : w.heap.size + 1 < wr.heap.size := hrow.1.1
            have HH' := (show Hid (_ = some h') from hh')
            have HR := (show Hid (RowIs _ _ _) from hrow)
            have HB := (show Hid (Below (w.heap.size + 1) _ _) from hb)
            have HBW2 := (show Hid (Below w.heap.size w _) from hbw)
            clear hh' hb
            by_cases hml : m < L.length
            · have hml' : (m : Int) < (L.length : Int) := by omega
              obtain ⟨la, lcap, le, lhm, lhc⟩ := HL.out
              injection le with le1 le2 le3
              obtain ⟨b2, off2, lpe, hb2, d0, d1⟩ := lhc m hml
              rw [← le1] at lpe
              subst lpe
              rw [← hbw.cell (p := ⟨b2, _, none⟩) hb2] at d0 d1
              have hb2r : b2 < wr.heap.size := by have := hbw.size; omega
              clear lhc le1 le2 le3 la lcap lhm
              obtain ⟨cn, hcn⟩ : ∃ cn : Nat, (nth Pu.z L m).c = (cn : Int) := ⟨(nth Pu.z L m).c.toNat, by have := HCK.out.1 m hml; omega⟩
              have hcl : cn < h'.length := by have := HCK.out.1 m hml; omega
              have hcl' : (cn : Int) < (s.cells.length : Int) := by omega
              have f0 := hrow.2 cn hcl
              have f1 := (hrow.1.2 cn hcl).2
              have HSN := (show Hid (hold1 k h (L.take (m + 1)) = _) from (by rw [take_nth Pu.z L m hml, hold1_snoc, HH'.out]; rfl : hold1 k h (L.take (m + 1)) = if nth 0 h' (nth Pu.z L m).c.toNat = -1 then some (h'.set (nth Pu.z L m).c.toNat k) else none))
              have HCN := (show Hid ((nth Pu.z L m).c.toNat = cn) from (by rw [hcn]; rfl))
              clear hrow hbw
              by_cases q1 : nth 0 h' cn = -1
              · have q1' : (nth 0 h' cn != -1) = false := by simp [q1]
                have HN : Hid (hold1 k h (L.take (m + 1)) = some (h'.set cn k)) := by unfold Hid; rw [HSN.out, HCN.out, if_pos q1]
                have Q1 := (show Hid (_ = _) from q1)
                clear q1
                go_wp2_with fail
                go_roundw
                case rel => exact ⟨m + 1, _, by omega, by go_num, HN.out, RowIs.below (RowIs.set HR.out cn hcl _) (by repeat (first | with_reducible exact Below.refl _ _ | (with_reducible refine Below.setCell ?_ ?hs _; case hs => ((try simp); try omega)) | (with_reducible refine Below.alloc ?_ ?hs _; case hs => ((try simp); try omega)) | with_reducible refine Below.drew ?_)), (by repeat (first | with_reducible exact HB.out | (with_reducible refine Below.setCell ?_ ?hs _; case hs => ((try simp); try omega)) | (with_reducible refine Below.alloc ?_ ?hs _; case hs => ((try simp); try omega)) | with_reducible refine Below.drew ?_))⟩
                case measure => simp [intOf]; omega
              · have q1' : (nth 0 h' cn != -1) = true := by simp [q1]
                have HN : Hid (holdN s.tasks (List.replicate s.cells.length (-1)) s.tasks.length = none) := by
                  refine holdN_none (k := k + 1) (by omega) ?_
                  have g1 : hold1 k h (L.take (m + 1)) = none := by rw [HSN.out, HCN.out, if_neg q1]
                  have g2 := hold1_none_app (L.drop (m + 1)) g1
                  rw [List.take_append_drop, ← HLL.out] at g2
                  simp only [holdN, HH.out, Option.bind_some]
                  exact g2
                go_wp2_with fail
                refine bodyPost_ret (v := .tuple #[.slice none 0 0, .bool false]) (by simp [results, Try.results92, go_sem]) rfl ⟨.slice none 0 0, by rw [HN.out]; rfl, (fun h e => by rw [HN.out] at e; cases e), (by repeat (first | with_reducible exact HBW2.out | (with_reducible refine Below.setCell ?_ ?hs _; case hs => ((try simp); try omega)) | (with_reducible refine Below.alloc ?_ ?hs _; case hs => ((try simp); try omega)) | with_reducible refine Below.drew ?_))⟩
            · have he : m = L.length := by omega
              have HN : Hid (holdN s.tasks (List.replicate s.cells.length (-1)) (k + 1) = some h') := by
                have g := HH'.out
                rw [he, List.take_length, ← HLL.out] at g
                unfold Hid; simp only [holdN, HH.out, Option.bind_some]; exact g
              have HL' := (show Hid (h'.length = _) from hl')
              clear hl' hrow hbw
              go_wp2_with fail
              go_roundw
              case rel => exact ⟨k + 1, h', by omega, by go_num, HN.out, HL'.out, HR.out, HB.out⟩
              case measure => simp [intOf]; omega
        · have he : k = s.tasks.length := by omega
          have HN : Hid (holdN s.tasks (List.replicate s.cells.length (-1)) s.tasks.length = some h) := by rw [← he]; exact HH.out
          have HI : Hid (IntsAt wr (.slice (some ⟨w.heap.size + 1, 0, none⟩) s.cells.length s.cells.length) h) := by
            have := HR.out.at (by rw [HHL.out]; omega) s.cells.length
            rw [HHL.out] at this; exact this
          clear hc hbw
          go_wp2_with fail
          refine bodyPost_ret (v := .tuple #[.slice (some ⟨w.heap.size + 1, 0, none⟩) s.cells.length s.cells.length, .bool true]) (by simp [results, Try.results92, go_sem]) rfl ⟨_, by rw [HN.out]; rfl, (fun h1 e => by rw [HN.out] at e; cases e; exact HI.out), HBW.out⟩
end Go.Proofs.Ytgbgjljflgbcaaa
