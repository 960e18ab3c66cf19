import Derived.Test.YtgbgjljflgbcaaaXn15
import Derived.Test.YtgbgjljflgbcaaaXn19
namespace Go.Proofs.Ytgbgjljflgbcaaa
open Go.RowKit
set_option linter.unusedSimpArgs false
set_option linter.unusedVariables false
set_option maxRecDepth 20000
set_option maxHeartbeats 400000 in
theorem eqPut_same (x : Pu) (w : World) :
    Calls Try.prog 154 #[.agg #[.int .i64 x.c, .int .i64 x.n], .agg #[.int .i64 x.c, .int .i64 x.n]] w fun r w' => r = .returned (.bool true) ∧ Below w.heap.size w w' := by
  go_enter Try.func154, Try.ntmps154
  go_wp2_with fail
  go_ret
  exact ⟨rfl, (by repeat (first | exact Below.refl _ _ | refine Below.alloc ?_ (by simp; try omega) _ | refine Below.drew ?_ | refine Below.setCell ?_ (by simp; try omega) _))⟩
set_option maxHeartbeats 2000000 in
theorem eqPutS_same (v v' : Value) (xs : List Pu) (w : World) (h : PusAt w v xs) (h' : PusAt w v' xs) :
    Calls Try.prog 139 #[v, v'] w fun r w' => r = .returned (.bool true) ∧ Below w.heap.size w w' := by
  obtain ⟨a, cap, rfl, hm, hc⟩ := h
  obtain ⟨a', cap', rfl, hm', hc'⟩ := h'
  go_enter Try.func139, Try.ntmps139
  go_wp2_with fail
  go_loopw [5] (fun q w' => ∃ k : Nat, k ≤ xs.length ∧ q = .int .i64 k ∧ Below w.heap.size w w') (fun q _ => xs.length - (intOf q).toNat)
  case atStart => exact ⟨0, Nat.zero_le _, rfl, Below.refl _ _⟩
  case round =>
    obtain ⟨k, hk, rfl, hb⟩ := hrel
    by_cases hlt : k < xs.length
    · obtain ⟨b, off, rfl, hbw, c0, c1⟩ := hc k hlt
      obtain ⟨b', off', rfl, hbw', d0, d1⟩ := hc' k hlt
      rw [← hb.cell (p := ⟨b, _, none⟩) hbw] at c0 c1
      rw [← hb.cell (p := ⟨b', _, none⟩) hbw'] at d0 d1
      have hi : (k : Int) < (xs.length : Int) := by omega
      clear hc hc'
      go_wp2_with fail
      go_region_with (go_at_call 154; refine (eqPut_same (nth Pu.z xs k) _).mono ?_; rintro e w1 ⟨rfl, hb1⟩)
      all_goals
        have HB : Hid (Below w.heap.size w w1) := below_drewed hb hb.size hb1
        clear hb1 hb c0 c1 d0 d1
        go_wp2_with fail
        go_roundw
        case rel => exact ⟨k + 1, by omega, by go_num, HB.out⟩
        case measure => simp [intOf]; omega
    · clear hc hc'
      go_wp2_with fail
      go_ret
      exact ⟨rfl, hb⟩
set_option maxHeartbeats 400000 in
theorem eqCell_same (x : Ce) (w : World) :
    Calls Try.prog 111 #[.agg #[.int .i64 x.num, .int .i64 x.time, .int .i64 x.lock], .agg #[.int .i64 x.num, .int .i64 x.time, .int .i64 x.lock]] w fun r w' => r = .returned (.bool true) ∧ Below w.heap.size w w' := by
  go_enter Try.func111, Try.ntmps111
  go_wp2_with fail
  go_ret
  exact ⟨rfl, (by repeat (first | exact Below.refl _ _ | refine Below.alloc ?_ (by simp; try omega) _ | refine Below.drew ?_ | refine Below.setCell ?_ (by simp; try omega) _))⟩
set_option maxHeartbeats 2000000 in
theorem eqCellS_same (v v' : Value) (xs : List Ce) (w : World) (h : CesAt w v xs) (h' : CesAt w v' xs) :
    Calls Try.prog 67 #[v, v'] w fun r w' => r = .returned (.bool true) ∧ Below w.heap.size w w' := by
  obtain ⟨a, cap, rfl, hm, hc⟩ := h
  obtain ⟨a', cap', rfl, hm', hc'⟩ := h'
  go_enter Try.func67, Try.ntmps67
  go_wp2_with fail
  go_loopw [5] (fun q w' => ∃ k : Nat, k ≤ xs.length ∧ q = .int .i64 k ∧ Below w.heap.size w w') (fun q _ => xs.length - (intOf q).toNat)
  case atStart => exact ⟨0, Nat.zero_le _, rfl, Below.refl _ _⟩
  case round =>
    obtain ⟨k, hk, rfl, hb⟩ := hrel
    by_cases hlt : k < xs.length
    · obtain ⟨b, off, rfl, hbw, c0, c1, c2⟩ := hc k hlt
      obtain ⟨b', off', rfl, hbw', d0, d1, d2⟩ := hc' k hlt
      rw [← hb.cell (p := ⟨b, _, none⟩) hbw] at c0 c1 c2
      rw [← hb.cell (p := ⟨b', _, none⟩) hbw'] at d0 d1 d2
      have hi : (k : Int) < (xs.length : Int) := by omega
      clear hc hc'
      go_wp2_with fail
      go_region_with (go_at_call 111; refine (eqCell_same (nth Ce.z xs k) _).mono ?_; rintro e w1 ⟨rfl, hb1⟩)
      all_goals
        have HB : Hid (Below w.heap.size w w1) := below_drewed hb hb.size hb1
        clear hb1 hb c0 c1 c2 d0 d1 d2
        go_wp2_with fail
        go_roundw
        case rel => exact ⟨k + 1, by omega, by go_num, HB.out⟩
        case measure => simp [intOf]; omega
    · clear hc hc'
      go_wp2_with fail
      go_ret
      exact ⟨rfl, hb⟩
set_option maxHeartbeats 1000000 in
theorem eqTask_same (x : Ta) (v3 y3 v8 y8 v9 y9 v10 y10 : Value) (w : World) (h3 : IntsAt w v3 x.regs) (h8 : IntsAt w v8 x.old) (h9 : PusAt w v9 x.reads) (h10 : PusAt w v10 x.puts) (g3 : IntsAt w y3 x.regs) (g8 : IntsAt w y8 x.old) (g9 : PusAt w y9 x.reads) (g10 : PusAt w y10 x.puts) :
    Calls Try.prog 112 #[.agg #[.int .i64 x.body, .int .i64 x.pc, .int .i64 x.up, v3, .int .i64 x.way, .int .i64 x.stage, .int .i64 x.at_, .int .i64 x.since, v8, v9, v10, .int .i64 x.when_, .int .i64 x.from_], .agg #[.int .i64 x.body, .int .i64 x.pc, .int .i64 x.up, y3, .int .i64 x.way, .int .i64 x.stage, .int .i64 x.at_, .int .i64 x.since, y8, y9, y10, .int .i64 x.when_, .int .i64 x.from_]] w fun r w' => r = .returned (.bool true) ∧ Below w.heap.size w w' := by
  obtain ⟨a3, c3, rfl, hm3⟩ := h3.shape
  obtain ⟨b3, d3, rfl, hn3⟩ := g3.shape
  have H3 := (show Hid (IntsAt _ _ _) from h3)
  have G3 := (show Hid (IntsAt _ _ _) from g3)
  clear h3 g3
  obtain ⟨a8, c8, rfl, hm8⟩ := h8.shape
  obtain ⟨b8, d8, rfl, hn8⟩ := g8.shape
  have H8 := (show Hid (IntsAt _ _ _) from h8)
  have G8 := (show Hid (IntsAt _ _ _) from g8)
  clear h8 g8
  obtain ⟨a9, c9, rfl, hm9⟩ := h9.shape
  obtain ⟨b9, d9, rfl, hn9⟩ := g9.shape
  have H9 := (show Hid (PusAt _ _ _) from h9)
  have G9 := (show Hid (PusAt _ _ _) from g9)
  clear h9 g9
  obtain ⟨a10, c10, rfl, hm10⟩ := h10.shape
  obtain ⟨b10, d10, rfl, hn10⟩ := g10.shape
  have H10 := (show Hid (PusAt _ _ _) from h10)
  have G10 := (show Hid (PusAt _ _ _) from g10)
  clear h10 g10
  go_enter Try.func112, Try.ntmps112
  go_wp2_with fail
  refine (eqIntS_same _ _ x.regs _ (by exact IntsAt.mono H3.out (by repeat (first | with_reducible exact Below.refl _ _ | (with_reducible refine Below.setCell ?_ ?hs _; case hs => ((try simp); try omega)) | (with_reducible refine Below.alloc ?_ ?hs _; case hs => ((try simp); try omega)) | with_reducible refine Below.drew ?_))) (by exact IntsAt.mono G3.out (by repeat (first | with_reducible exact Below.refl _ _ | (with_reducible refine Below.setCell ?_ ?hs _; case hs => ((try simp); try omega)) | (with_reducible refine Below.alloc ?_ ?hs _; case hs => ((try simp); try omega)) | with_reducible refine Below.drew ?_)))).mono ?_
  rintro e w1 ⟨rfl, hb1⟩
  obtain ⟨hc1, hf1⟩ := bcell hb1
  have s1a : w.heap.size < w1.heap.size := by have := hb1.size; (try simp at this); omega
  have s1b : w.heap.size + 1 < w1.heap.size := by have := hb1.size; (try simp at this); omega
  have HB1 : Hid (Below w.heap.size w w1) := below_then (by repeat (first | with_reducible exact Below.refl _ _ | (with_reducible refine Below.setCell ?_ ?hs _; case hs => ((try simp); try omega)) | (with_reducible refine Below.alloc ?_ ?hs _; case hs => ((try simp); try omega)) | with_reducible refine Below.drew ?_)) (by (try simp); try omega) hb1
  clear hb1 H3 G3
  go_wp2_with fail
  refine (eqIntS_same _ _ x.old _ (by exact IntsAt.mono H8.out (by repeat (first | with_reducible exact HB1.out | (with_reducible refine Below.setCell ?_ ?hs _; case hs => ((try simp); try omega)) | (with_reducible refine Below.alloc ?_ ?hs _; case hs => ((try simp); try omega)) | with_reducible refine Below.drew ?_))) (by exact IntsAt.mono G8.out (by repeat (first | with_reducible exact HB1.out | (with_reducible refine Below.setCell ?_ ?hs _; case hs => ((try simp); try omega)) | (with_reducible refine Below.alloc ?_ ?hs _; case hs => ((try simp); try omega)) | with_reducible refine Below.drew ?_)))).mono ?_
  rintro e w2 ⟨rfl, hb2⟩
  obtain ⟨hc2, hf2⟩ := bcell hb2
  have s2a : w.heap.size < w2.heap.size := by have := hb2.size; (try simp at this); omega
  have s2b : w.heap.size + 1 < w2.heap.size := by have := hb2.size; (try simp at this); omega
  have HB2 : Hid (Below w.heap.size w w2) := below_then (by repeat (first | with_reducible exact HB1.out | (with_reducible refine Below.setCell ?_ ?hs _; case hs => ((try simp); try omega)) | (with_reducible refine Below.alloc ?_ ?hs _; case hs => ((try simp); try omega)) | with_reducible refine Below.drew ?_)) (by (try simp); try omega) hb2
  clear hb2 H8 G8 HB1
  go_wp2_with fail
  refine (eqPutS_same _ _ x.reads _ (by exact PusAt.mono H9.out (by repeat (first | with_reducible exact HB2.out | (with_reducible refine Below.setCell ?_ ?hs _; case hs => ((try simp); try omega)) | (with_reducible refine Below.alloc ?_ ?hs _; case hs => ((try simp); try omega)) | with_reducible refine Below.drew ?_))) (by exact PusAt.mono G9.out (by repeat (first | with_reducible exact HB2.out | (with_reducible refine Below.setCell ?_ ?hs _; case hs => ((try simp); try omega)) | (with_reducible refine Below.alloc ?_ ?hs _; case hs => ((try simp); try omega)) | with_reducible refine Below.drew ?_)))).mono ?_
  rintro e w3 ⟨rfl, hb3⟩
  obtain ⟨hc3, hf3⟩ := bcell hb3
  have s3a : w.heap.size < w3.heap.size := by have := hb3.size; (try simp at this); omega
  have s3b : w.heap.size + 1 < w3.heap.size := by have := hb3.size; (try simp at this); omega
  have HB3 : Hid (Below w.heap.size w w3) := below_then (by repeat (first | with_reducible exact HB2.out | (with_reducible refine Below.setCell ?_ ?hs _; case hs => ((try simp); try omega)) | (with_reducible refine Below.alloc ?_ ?hs _; case hs => ((try simp); try omega)) | with_reducible refine Below.drew ?_)) (by (try simp); try omega) hb3
  clear hb3 H9 G9 HB2
  go_wp2_with fail
  refine (eqPutS_same _ _ x.puts _ (by exact PusAt.mono H10.out (by repeat (first | with_reducible exact HB3.out | (with_reducible refine Below.setCell ?_ ?hs _; case hs => ((try simp); try omega)) | (with_reducible refine Below.alloc ?_ ?hs _; case hs => ((try simp); try omega)) | with_reducible refine Below.drew ?_))) (by exact PusAt.mono G10.out (by repeat (first | with_reducible exact HB3.out | (with_reducible refine Below.setCell ?_ ?hs _; case hs => ((try simp); try omega)) | (with_reducible refine Below.alloc ?_ ?hs _; case hs => ((try simp); try omega)) | with_reducible refine Below.drew ?_)))).mono ?_
  rintro e w4 ⟨rfl, hb4⟩
  obtain ⟨hc4, hf4⟩ := bcell hb4
  have s4a : w.heap.size < w4.heap.size := by have := hb4.size; (try simp at this); omega
  have s4b : w.heap.size + 1 < w4.heap.size := by have := hb4.size; (try simp at this); omega
  have HB4 : Hid (Below w.heap.size w w4) := below_then (by repeat (first | with_reducible exact HB3.out | (with_reducible refine Below.setCell ?_ ?hs _; case hs => ((try simp); try omega)) | (with_reducible refine Below.alloc ?_ ?hs _; case hs => ((try simp); try omega)) | with_reducible refine Below.drew ?_)) (by (try simp); try omega) hb4
  clear hb4 H10 G10 HB3
  go_wp2_with fail
  go_ret
  exact ⟨rfl, HB4.out⟩
set_option maxHeartbeats 2000000 in
theorem eqTaskS_same (v v' : Value) (xs : List Ta) (w : World) (h : TasAt w v xs) (h' : TasAt w v' xs) :
    Calls Try.prog 68 #[v, v'] w fun r w' => r = .returned (.bool true) ∧ Below w.heap.size w w' := by
  obtain ⟨a, cap, rfl, hm, hc⟩ := h
  obtain ⟨a', cap', rfl, hm', hc'⟩ := h'
  go_enter Try.func68, Try.ntmps68
  go_wp2_with fail
  go_loopw [5] (fun q w' => ∃ k : Nat, k ≤ xs.length ∧ q = .int .i64 k ∧ Below w.heap.size w w') (fun q _ => xs.length - (intOf q).toNat)
  case atStart => exact ⟨0, Nat.zero_le _, rfl, Below.refl _ _⟩
  case round =>
    obtain ⟨k, hk, rfl, hb⟩ := hrel
    by_cases hlt : k < xs.length
    · obtain ⟨b, off, v3, v8, v9, v10, rfl, hbw, c0, c1, c2, c3, c4, c5, c6, c7, c8, c9, c10, c11, c12, h3, h8, h9, h10⟩ := hc k hlt
      obtain ⟨b', off', y3, y8, y9, y10, rfl, hbw', d0, d1, d2, d3, d4, d5, d6, d7, d8, d9, d10, d11, d12, g3, g8, g9, g10⟩ := hc' k hlt
      rw [← hb.cell (p := ⟨b, _, none⟩) hbw] at c0 c1 c2 c3 c4 c5 c6 c7 c8 c9 c10 c11 c12
      rw [← hb.cell (p := ⟨b', _, none⟩) hbw'] at d0 d1 d2 d3 d4 d5 d6 d7 d8 d9 d10 d11 d12
      have hi : (k : Int) < (xs.length : Int) := by omega
      clear hc hc'
      have HP : Hid (Below w.heap.size w wr.drew) := hb.drew
      obtain ⟨aa3, ca3, rfl, ha3⟩ := h3.shape
      obtain ⟨bb3, cb3, rfl, hbb3⟩ := g3.shape
      have H3 := (show Hid (IntsAt _ _ _) from h3)
      have G3 := (show Hid (IntsAt _ _ _) from g3)
      obtain ⟨aa8, ca8, rfl, ha8⟩ := h8.shape
      obtain ⟨bb8, cb8, rfl, hbb8⟩ := g8.shape
      have H8 := (show Hid (IntsAt _ _ _) from h8)
      have G8 := (show Hid (IntsAt _ _ _) from g8)
      obtain ⟨aa9, ca9, rfl, ha9⟩ := h9.shape
      obtain ⟨bb9, cb9, rfl, hbb9⟩ := g9.shape
      have H9 := (show Hid (PusAt _ _ _) from h9)
      have G9 := (show Hid (PusAt _ _ _) from g9)
      obtain ⟨aa10, ca10, rfl, ha10⟩ := h10.shape
      obtain ⟨bb10, cb10, rfl, hbb10⟩ := g10.shape
      have H10 := (show Hid (PusAt _ _ _) from h10)
      have G10 := (show Hid (PusAt _ _ _) from g10)
      clear h3 h8 h9 h10 g3 g8 g9 g10
      go_wp2_with fail
      go_region_with (go_at_call 112; refine (eqTask_same (nth Ta.z xs k) _ _ _ _ _ _ _ _ _ (IntsAt.mono H3.out HP.out) (IntsAt.mono H8.out HP.out) (PusAt.mono H9.out HP.out) (PusAt.mono H10.out HP.out) (IntsAt.mono G3.out HP.out) (IntsAt.mono G8.out HP.out) (PusAt.mono G9.out HP.out) (PusAt.mono G10.out HP.out)).mono ?_; rintro e w1 ⟨rfl, hb1⟩)
      all_goals
        have HB : Hid (Below w.heap.size w w1) := below_drewed hb hb.size hb1
        clear hb1 hb c0 c1 c2 c3 c4 c5 c6 c7 c8 c9 c10 c11 c12 d0 d1 d2 d3 d4 d5 d6 d7 d8 d9 d10 d11 d12 H3 G3 H8 G8 H9 G9 H10 G10
        go_wp2_with fail
        go_roundw
        case rel => exact ⟨k + 1, by omega, by go_num, HB.out⟩
        case measure => simp [intOf]; omega
    · clear hc hc'
      go_wp2_with fail
      go_ret
      exact ⟨rfl, hb⟩
set_option maxHeartbeats 1000000 in
theorem eqEntry_same (x : En) (v3 y3 v4 y4 : Value) (w : World) (h3 : PusAt w v3 x.reads) (h4 : PusAt w v4 x.puts) (g3 : PusAt w y3 x.reads) (g4 : PusAt w y4 x.puts) :
    Calls Try.prog 113 #[.agg #[.int .i64 x.task, .int .i64 x.act, .int .i64 x.when_, v3, v4, .int .i64 x.from_], .agg #[.int .i64 x.task, .int .i64 x.act, .int .i64 x.when_, y3, y4, .int .i64 x.from_]] w fun r w' => r = .returned (.bool true) ∧ Below w.heap.size w w' := by
  obtain ⟨a3, c3, rfl, hm3⟩ := h3.shape
  obtain ⟨b3, d3, rfl, hn3⟩ := g3.shape
  have H3 := (show Hid (PusAt _ _ _) from h3)
  have G3 := (show Hid (PusAt _ _ _) from g3)
  clear h3 g3
  obtain ⟨a4, c4, rfl, hm4⟩ := h4.shape
  obtain ⟨b4, d4, rfl, hn4⟩ := g4.shape
  have H4 := (show Hid (PusAt _ _ _) from h4)
  have G4 := (show Hid (PusAt _ _ _) from g4)
  clear h4 g4
  go_enter Try.func113, Try.ntmps113
  go_wp2_with fail
  refine (eqPutS_same _ _ x.reads _ (by exact PusAt.mono H3.out (by repeat (first | with_reducible exact Below.refl _ _ | (with_reducible refine Below.setCell ?_ ?hs _; case hs => ((try simp); try omega)) | (with_reducible refine Below.alloc ?_ ?hs _; case hs => ((try simp); try omega)) | with_reducible refine Below.drew ?_))) (by exact PusAt.mono G3.out (by repeat (first | with_reducible exact Below.refl _ _ | (with_reducible refine Below.setCell ?_ ?hs _; case hs => ((try simp); try omega)) | (with_reducible refine Below.alloc ?_ ?hs _; case hs => ((try simp); try omega)) | with_reducible refine Below.drew ?_)))).mono ?_
  rintro e w1 ⟨rfl, hb1⟩
  obtain ⟨hc1, hf1⟩ := bcell hb1
  have s1a : w.heap.size < w1.heap.size := by have := hb1.size; (try simp at this); omega
  have s1b : w.heap.size + 1 < w1.heap.size := by have := hb1.size; (try simp at this); omega
  have HB1 : Hid (Below w.heap.size w w1) := below_then (by repeat (first | with_reducible exact Below.refl _ _ | (with_reducible refine Below.setCell ?_ ?hs _; case hs => ((try simp); try omega)) | (with_reducible refine Below.alloc ?_ ?hs _; case hs => ((try simp); try omega)) | with_reducible refine Below.drew ?_)) (by (try simp); try omega) hb1
  clear hb1 H3 G3
  go_wp2_with fail
  refine (eqPutS_same _ _ x.puts _ (by exact PusAt.mono H4.out (by repeat (first | with_reducible exact HB1.out | (with_reducible refine Below.setCell ?_ ?hs _; case hs => ((try simp); try omega)) | (with_reducible refine Below.alloc ?_ ?hs _; case hs => ((try simp); try omega)) | with_reducible refine Below.drew ?_))) (by exact PusAt.mono G4.out (by repeat (first | with_reducible exact HB1.out | (with_reducible refine Below.setCell ?_ ?hs _; case hs => ((try simp); try omega)) | (with_reducible refine Below.alloc ?_ ?hs _; case hs => ((try simp); try omega)) | with_reducible refine Below.drew ?_)))).mono ?_
  rintro e w2 ⟨rfl, hb2⟩
  obtain ⟨hc2, hf2⟩ := bcell hb2
  have s2a : w.heap.size < w2.heap.size := by have := hb2.size; (try simp at this); omega
  have s2b : w.heap.size + 1 < w2.heap.size := by have := hb2.size; (try simp at this); omega
  have HB2 : Hid (Below w.heap.size w w2) := below_then (by repeat (first | with_reducible exact HB1.out | (with_reducible refine Below.setCell ?_ ?hs _; case hs => ((try simp); try omega)) | (with_reducible refine Below.alloc ?_ ?hs _; case hs => ((try simp); try omega)) | with_reducible refine Below.drew ?_)) (by (try simp); try omega) hb2
  clear hb2 H4 G4 HB1
  go_wp2_with fail
  go_ret
  exact ⟨rfl, HB2.out⟩
set_option maxHeartbeats 2000000 in
theorem eqEntryS_same (v v' : Value) (xs : List En) (w : World) (h : EnsAt w v xs) (h' : EnsAt w v' xs) :
    Calls Try.prog 69 #[v, v'] w fun r w' => r = .returned (.bool true) ∧ Below w.heap.size w w' := by
  obtain ⟨a, cap, rfl, hm, hc⟩ := h
  obtain ⟨a', cap', rfl, hm', hc'⟩ := h'
  go_enter Try.func69, Try.ntmps69
  go_wp2_with fail
  go_loopw [5] (fun q w' => ∃ k : Nat, k ≤ xs.length ∧ q = .int .i64 k ∧ Below w.heap.size w w') (fun q _ => xs.length - (intOf q).toNat)
  case atStart => exact ⟨0, Nat.zero_le _, rfl, Below.refl _ _⟩
  case round =>
    obtain ⟨k, hk, rfl, hb⟩ := hrel
    by_cases hlt : k < xs.length
    · obtain ⟨b, off, v3, v4, rfl, hbw, c0, c1, c2, c3, c4, c5, h3, h4⟩ := hc k hlt
      obtain ⟨b', off', y3, y4, rfl, hbw', d0, d1, d2, d3, d4, d5, g3, g4⟩ := hc' k hlt
      rw [← hb.cell (p := ⟨b, _, none⟩) hbw] at c0 c1 c2 c3 c4 c5
      rw [← hb.cell (p := ⟨b', _, none⟩) hbw'] at d0 d1 d2 d3 d4 d5
      have hi : (k : Int) < (xs.length : Int) := by omega
      clear hc hc'
      have HP : Hid (Below w.heap.size w wr.drew) := hb.drew
      obtain ⟨aa3, ca3, rfl, ha3⟩ := h3.shape
      obtain ⟨bb3, cb3, rfl, hbb3⟩ := g3.shape
      have H3 := (show Hid (PusAt _ _ _) from h3)
      have G3 := (show Hid (PusAt _ _ _) from g3)
      obtain ⟨aa4, ca4, rfl, ha4⟩ := h4.shape
      obtain ⟨bb4, cb4, rfl, hbb4⟩ := g4.shape
      have H4 := (show Hid (PusAt _ _ _) from h4)
      have G4 := (show Hid (PusAt _ _ _) from g4)
      clear h3 h4 g3 g4
      go_wp2_with fail
      go_region_with (go_at_call 113; refine (eqEntry_same (nth En.z xs k) _ _ _ _ _ (PusAt.mono H3.out HP.out) (PusAt.mono H4.out HP.out) (PusAt.mono G3.out HP.out) (PusAt.mono G4.out HP.out)).mono ?_; rintro e w1 ⟨rfl, hb1⟩)
      all_goals
        have HB : Hid (Below w.heap.size w w1) := below_drewed hb hb.size hb1
        clear hb1 hb c0 c1 c2 c3 c4 c5 d0 d1 d2 d3 d4 d5 H3 G3 H4 G4
        go_wp2_with fail
        go_roundw
        case rel => exact ⟨k + 1, by omega, by go_num, HB.out⟩
        case measure => simp [intOf]; omega
    · clear hc hc'
      go_wp2_with fail
      go_ret
      exact ⟨rfl, hb⟩
set_option maxHeartbeats 1000000 in
theorem eqSys_same (s : Sy) (cv tv lv cv' tv' lv' : Value) (w : World) (hc : CesAt w cv s.cells) (ht : TasAt w tv s.tasks) (hl : EnsAt w lv s.log) (hc' : CesAt w cv' s.cells) (ht' : TasAt w tv' s.tasks) (hl' : EnsAt w lv' s.log) :
    Calls Try.prog 26 #[.agg #[cv, tv, .int .i64 s.clock, lv], .agg #[cv', tv', .int .i64 s.clock, lv']] w fun r w' => r = .returned (.bool true) ∧ Below w.heap.size w w' := by
  obtain ⟨a1, c1, rfl, _⟩ := hc.shape
  obtain ⟨a2, c2, rfl, _⟩ := ht.shape
  obtain ⟨a3, c3, rfl, _⟩ := hl.shape
  obtain ⟨b1, d1, rfl, _⟩ := hc'.shape
  obtain ⟨b2, d2, rfl, _⟩ := ht'.shape
  obtain ⟨b3, d3, rfl, _⟩ := hl'.shape
  have H1 := (show Hid (CesAt _ _ _) from hc)
  have H2 := (show Hid (TasAt _ _ _) from ht)
  have H3 := (show Hid (EnsAt _ _ _) from hl)
  have G1 := (show Hid (CesAt _ _ _) from hc')
  have G2 := (show Hid (TasAt _ _ _) from ht')
  have G3 := (show Hid (EnsAt _ _ _) from hl')
  clear hc ht hl hc' ht' hl'
  go_enter Try.func26, Try.ntmps26
  go_wp2_with fail
  refine (eqCellS_same _ _ s.cells _ (by exact CesAt.mono H1.out (by repeat (first | exact Below.refl _ _ | refine Below.alloc ?_ (by simp; try omega) _ | refine Below.drew ?_ | refine Below.setCell ?_ (by simp; try omega) _))) (by exact CesAt.mono G1.out (by repeat (first | exact Below.refl _ _ | refine Below.alloc ?_ (by simp; try omega) _ | refine Below.drew ?_ | refine Below.setCell ?_ (by simp; try omega) _)))).mono ?_
  rintro e w1 ⟨rfl, hb1⟩
  obtain ⟨hc1, hf1⟩ := bcell hb1
  have s1a : w.heap.size < w1.heap.size := by have := hb1.size; (try simp at this); omega
  have s1b : w.heap.size + 1 < w1.heap.size := by have := hb1.size; (try simp at this); omega
  have HB1 : Hid (Below w.heap.size w w1) := below_then (by repeat (first | exact Below.refl _ _ | refine Below.alloc ?_ (by simp; try omega) _ | refine Below.drew ?_ | refine Below.setCell ?_ (by simp; try omega) _)) (by (try simp); try omega) hb1
  clear hb1 H1 G1
  go_wp2_with fail
  refine (eqTaskS_same _ _ s.tasks _ (TasAt.mono H2.out HB1.out) (TasAt.mono G2.out HB1.out)).mono ?_
  rintro e w2 ⟨rfl, hb2⟩
  obtain ⟨hc2, hf2⟩ := bcell hb2
  have s2a : w.heap.size < w2.heap.size := by have := hb2.size; omega
  have s2b : w.heap.size + 1 < w2.heap.size := by have := hb2.size; omega
  have HB2 : Hid (Below w.heap.size w w2) := below_then HB1.out HB1.out.size hb2
  clear hb2 H2 G2 HB1
  go_wp2_with fail
  refine (eqEntryS_same _ _ s.log _ (EnsAt.mono H3.out HB2.out) (EnsAt.mono G3.out HB2.out)).mono ?_
  rintro e w3 ⟨rfl, hb3⟩
  have HB3 : Hid (Below w.heap.size w w3) := below_then HB2.out HB2.out.size hb3
  clear hb3 H3 G3 HB2
  go_wp2_with fail
  go_ret
  exact ⟨rfl, HB3.out⟩
end Go.Proofs.Ytgbgjljflgbcaaa
