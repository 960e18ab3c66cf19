import Derived.Test.YtgbgjljflgbcaaaNe28
namespace Go.Proofs.Ytgbgjljflgbcaaa
open Go.RowKit
set_option linter.unusedSimpArgs false
set_option linter.unusedVariables false
set_option maxRecDepth 20000
set_option maxHeartbeats 8000000 in
theorem sysCellsInForm_any (p : Pr) (pa0 pa1 : Option Addr) (pc0 pc1 : Nat) (s : Sy) (sa0 sa1 sa3 : Option Addr) (sc0 sc1 sc3 : Nat) (w : World) (hC : CesAt w (.slice sa0 s.cells.length sc0) s.cells) (hT : TasAt w (.slice sa1 s.tasks.length sc1) s.tasks) (hn : s.cells.length ≤ 1048576) (hpn : p.cells.length ≤ 1048576) (h0 : 0 ≤ s.clock) (h200 : s.clock ≤ 200) (hfl : s.cells.length = p.cells.length → ∀ i, i < s.tasks.length → ((nth Ta.z s.tasks i).stage = 0 ∨ (nth Ta.z s.tasks i).stage = 1 ∨ (nth Ta.z s.tasks i).stage = 2 ∨ (nth Ta.z s.tasks i).stage = 3 ∨ (nth Ta.z s.tasks i).stage = 4 ∨ (nth Ta.z s.tasks i).stage = 5) ∧ ((nth Ta.z s.tasks i).stage = 2 ∨ (nth Ta.z s.tasks i).stage = 5 → ∃ n : Nat, (nth Ta.z s.tasks i).at_ = (n : Int) ∧ n < (nth Ta.z s.tasks i).puts.length) ∧ CellsOk (phL (nth Ta.z s.tasks i)) s.cells.length) :
    Calls Try.prog 41 #[.agg #[.slice pa0 p.cells.length pc0, .slice pa1 p.bodies.length pc1], .agg #[.slice sa0 s.cells.length sc0, .slice sa1 s.tasks.length sc1, .int .i64 s.clock, .slice sa3 s.log.length sc3]] w fun r w' => r = .returned (.bool (cesB p s)) ∧ Below w.heap.size w w' := by
  by_cases hlen : s.cells.length = p.cells.length
  case neg =>
    have HF : Hid (cesB p s = false) := by unfold Hid cesB; rw [decide_eq_false hlen, Bool.false_and]
    have hl1 : ((s.cells.length : Int) != (p.cells.length : Int)) = true := by simp; omega
    have hl2 : ¬ (s.cells.length : Int) = (p.cells.length : Int) := by omega
    clear hfl hC hT hlen
    go_enter Try.func41, Try.ntmps41
    go_wp2_with fail
    go_ret
    exact ⟨by rw [HF.out]; rfl, (by repeat (first | with_reducible exact Below.refl _ _ | (with_reducible refine Below.setCell ?_ ?hs _; case hs => ((try simp); try omega)) | (with_reducible refine Below.alloc ?_ ?hs _; case hs => ((try simp); try omega)) | with_reducible refine Below.drew ?_))⟩
  have hf := hfl hlen
  have HF0 : Hid (cesB p s = match holdN s.tasks (List.replicate s.cells.length (-1)) s.tasks.length with
    | none => false
    | some h => (List.range s.cells.length).all (ceB s h)) := by unfold Hid cesB; rw [decide_eq_true hlen, Bool.true_and]; rfl
  have hl1 : ((s.cells.length : Int) != (p.cells.length : Int)) = false := by simp; omega
  have HLEN := (show Hid (_ = _) from hlen)
  have HFA := (show Hid (∀ i, i < s.tasks.length → _) from hf)
  have HT := (show Hid (TasAt _ _ _) from hT)
  obtain ⟨a, cap, e, hm, hc⟩ := hC
  injection e with e1 e2 e3
  subst e1 e3
  clear hfl hf hT hlen e2
  rw [← HLEN.out]
  go_enter Try.func41, Try.ntmps41
  go_wp2_with fail
  refine (cellHolders_any s _ _ _ _ _ _ _ (by exact TasAt.mono HT.out (by repeat (first | with_reducible exact Below.refl _ _ | (with_reducible refine Below.setCell ?_ ?hs _; case hs => ((try simp); try omega)) | (with_reducible refine Below.alloc ?_ ?hs _; case hs => ((try simp); try omega)) | with_reducible refine Below.drew ?_))) hn HFA.out).mono ?_
  rintro e w1 ⟨hv, rfl, hhv, hb1⟩
  have HB : Hid (Below w.heap.size w w1) := below_then (by repeat (first | with_reducible exact Below.refl _ _ | (with_reducible refine Below.setCell ?_ ?hs _; case hs => ((try simp); try omega)) | (with_reducible refine Below.alloc ?_ ?hs _; case hs => ((try simp); try omega)) | with_reducible refine Below.drew ?_)) (by (try simp); try omega) hb1
  have b10 : w1.cell? ⟨w.heap.size + 1, 0, none⟩ = some (.slice sa0 s.cells.length sc0) := by rw [hb1.cell (p := ⟨w.heap.size + 1, 0, none⟩) (by simp)]; simp [go_sem]
  have b12 : w1.cell? ⟨w.heap.size + 1, 2, none⟩ = some (.int .i64 s.clock) := by rw [hb1.cell (p := ⟨w.heap.size + 1, 2, none⟩) (by simp)]; simp [go_sem]
  have z1 : w.heap.size + 1 < w1.heap.size := by have := hb1.size; (try simp at this); omega
  have hsz := HB.out.size
  clear hb1 HT HFA
  cases hd : holdN s.tasks (List.replicate s.cells.length (-1)) s.tasks.length with
  | none =>
    have HF : Hid (cesB p s = false) := by unfold Hid; rw [HF0.out, hd]
    clear hhv HF0
    simp only [Option.isSome_none]
    go_wp2_with fail
    go_ret
    exact ⟨by rw [HF.out]; rfl, HB.out⟩
  | some h =>
    have HI := hhv h hd
    have HF : Hid (cesB p s = (List.range s.cells.length).all (ceB s h)) := by unfold Hid; rw [HF0.out, hd]
    have hhl : h.length = s.cells.length := by
      have : ∀ (k : Nat) (g : List Int), holdN s.tasks (List.replicate s.cells.length (-1)) k = some g → g.length = s.cells.length := by
        intro k
        induction k with
        | zero => intro g e; simp [holdN] at e; subst e; simp
        | succ k ih =>
          intro g e
          simp only [holdN] at e
          cases hk : holdN s.tasks (List.replicate s.cells.length (-1)) k with
          | none => rw [hk] at e; cases e
          | some g' => rw [hk] at e; rw [hold1_len e]; exact ih g' hk
      exact this _ _ hd
    clear hhv HF0 hd
    obtain ⟨ia, icap, rfl, him, hic⟩ := HI
    rw [hhl] at him hic ⊢
    simp only [Option.isSome_some]
    go_wp2_with fail
    go_loopw [26] (fun q w' => ∃ k : Nat, k ≤ s.cells.length ∧ q = .int .i64 k ∧ Below w1.heap.size w1 w' ∧ (∀ j, j < k → ceB s h j = true)) (fun q _ => s.cells.length - (intOf q).toNat)
    case atStart => exact ⟨0, Nat.zero_le _, rfl, Below.refl _ _, fun j hj => absurd hj (Nat.not_lt_zero _)⟩
    case round =>
      obtain ⟨k, hk, rfl, hb, hall⟩ := hrel
      have e12 : wr.cell? ⟨w.heap.size + 1, 2, none⟩ = some (.int .i64 s.clock) := by rw [hb.cell (p := ⟨w.heap.size + 1, 2, none⟩) z1]; exact b12
      have hzr : w.heap.size + 1 < wr.heap.size := by have := hb.size; omega
      have hszr : w.heap.size ≤ wr.heap.size := by omega
      have HBW : Hid (Below w.heap.size w wr) := below_then HB.out HB.out.size hb
      have HBR := (show Hid (Below w1.heap.size w1 wr) from hb)
      have hs1 : w1.heap.size ≤ wr.heap.size := hb.size
      by_cases hlt : k < s.cells.length
      · have hlt' : (k : Int) < (s.cells.length : Int) := by omega
        obtain ⟨b, off, rfl, hbb, c0, c1, c2⟩ := hc k hlt
        rw [← HBW.out.cell (p := ⟨b, _, none⟩) hbb] at c0 c1 c2
        obtain ⟨b2, off2, rfl, hb2, d0⟩ := hic k hlt
        rw [← hb.cell (p := ⟨b2, _, none⟩) hb2] at d0
        have hbr : b < wr.heap.size := by omega
        have hb2r : b2 < wr.heap.size := by omega
        have HA := (show Hid (∀ j, j < k → _) from hall)
        clear hc hic hb hall b10 b12
        cases g1 : plB (nth Ce.z s.cells k).num 100
        · have HN : Hid (cesB p s = false) := by unfold Hid; rw [HF.out, List.all_eq_false]; exact ⟨k, List.mem_range.2 hlt, by simp [ceB, g1]⟩
          have G1 := (show Hid (_ = _) from g1)
          clear g1
          go_wp2_with fail
          go_quiet ((first | (go_at_call 45; with_reducible exact Calls.quiet_of_same (isPlace_b G1.out _)) | (go_at_call 39; with_reducible exact Calls.quiet_of_same (isUpTo_any _ _ _))))
          go_wp2_with fail
          go_ret
          exact ⟨by rw [HN.out]; rfl, (by repeat (first | with_reducible exact HBW.out | (with_reducible refine Below.setCell ?_ ?hs _; case hs => ((try simp); try omega)) | (with_reducible refine Below.alloc ?_ ?hs _; case hs => ((try simp); try omega)) | with_reducible refine Below.drew ?_ | with_reducible refine below_drewN ?_ _))⟩
        have G1 := (show Hid (_ = _) from g1)
        clear g1
        cases g2 : inB (nth Ce.z s.cells k).time 0 s.clock
        · have HN : Hid (cesB p s = false) := by unfold Hid; rw [HF.out, List.all_eq_false]; exact ⟨k, List.mem_range.2 hlt, by simp [ceB, g2]⟩
          have G2 := (show Hid (_ = _) from g2)
          clear g2
          go_wp2_with fail
          go_quiet ((first | (go_at_call 45; with_reducible exact Calls.quiet_of_same (isPlace_b G1.out _)) | (go_at_call 39; with_reducible exact Calls.quiet_of_same (isUpTo_b G2.out _))))
          go_wp2_with fail
          go_ret
          exact ⟨by rw [HN.out]; rfl, (by repeat (first | with_reducible exact HBW.out | (with_reducible refine Below.setCell ?_ ?hs _; case hs => ((try simp); try omega)) | (with_reducible refine Below.alloc ?_ ?hs _; case hs => ((try simp); try omega)) | with_reducible refine Below.drew ?_ | with_reducible refine below_drewN ?_ _))⟩
        have G2 := (show Hid (_ = _) from g2)
        clear g2
        by_cases g3 : (nth Ce.z s.cells k).lock = nth 0 h k
        · have g3' : ((nth Ce.z s.cells k).lock != nth 0 h k) = false := by simp [g3]
          have HA1 : Hid (∀ j, j < k + 1 → ceB s h j = true) := so_far HA.out (by unfold ceB; rw [G1.out, G2.out, decide_eq_true g3]; rfl)
          have G3 := (show Hid (_ = _) from g3)
          clear g3
          go_wp2_with fail
          go_quiet ((first | (go_at_call 45; with_reducible exact Calls.quiet_of_same (isPlace_b G1.out _)) | (go_at_call 39; with_reducible exact Calls.quiet_of_same (isUpTo_b G2.out _))))
          go_wp2_with fail
          go_roundw
          case rel => exact ⟨k + 1, by omega, by go_num, (by repeat (first | with_reducible exact HBR.out | (with_reducible refine Below.setCell ?_ ?hs _; case hs => ((try simp); try omega)) | (with_reducible refine Below.alloc ?_ ?hs _; case hs => ((try simp); try omega)) | with_reducible refine Below.drew ?_ | with_reducible refine below_drewN ?_ _)), HA1.out⟩
          case measure => simp [intOf]; omega
        · have g3' : ((nth Ce.z s.cells k).lock != nth 0 h k) = true := by simp [g3]
          have HN : Hid (cesB p s = false) := by unfold Hid; rw [HF.out, List.all_eq_false]; exact ⟨k, List.mem_range.2 hlt, by simp [ceB, g3]⟩
          go_wp2_with fail
          go_quiet ((first | (go_at_call 45; with_reducible exact Calls.quiet_of_same (isPlace_b G1.out _)) | (go_at_call 39; with_reducible exact Calls.quiet_of_same (isUpTo_b G2.out _))))
          go_wp2_with fail
          go_ret
          exact ⟨by rw [HN.out]; rfl, (by repeat (first | with_reducible exact HBW.out | (with_reducible refine Below.setCell ?_ ?hs _; case hs => ((try simp); try omega)) | (with_reducible refine Below.alloc ?_ ?hs _; case hs => ((try simp); try omega)) | with_reducible refine Below.drew ?_ | with_reducible refine below_drewN ?_ _))⟩
      · have HN : Hid (cesB p s = true) := by unfold Hid; rw [HF.out, List.all_eq_true]; intro j hj; exact hall j (by have := List.mem_range.1 hj; omega)
        clear hc hic hb hall
        go_wp2_with fail
        go_ret
        exact ⟨by rw [HN.out]; rfl, HBW.out⟩
end Go.Proofs.Ytgbgjljflgbcaaa
