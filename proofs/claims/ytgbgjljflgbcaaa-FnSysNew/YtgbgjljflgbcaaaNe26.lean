import Derived.Test.YtgbgjljflgbcaaaNe07
namespace Go.Proofs.Ytgbgjljflgbcaaa
open Go.RowKit
set_option linter.unusedSimpArgs false
set_option linter.unusedVariables false
set_option maxRecDepth 20000
theorem puts_b {v : Value} {xs : List Pu} {c : Int} {b : Bool} (h : puB xs c = b) (w : World) (hi : PusAt w v xs) : Calls Try.prog 93 #[v, .int .i64 c] w fun r w' => r = .returned (.bool b) ∧ Below w.heap.size w w' := by subst h; exact putsInForm_any v xs c w hi
theorem at_v (t : Ta) (n : Nat) {bb : Bool} (x0 x1 x2 x4 x5 x6 x7 x11 x12 : Int) (n3 n8 n9 n10 : Nat) (a3 a8 a9 a10 : Option Addr) (c3 c8 c9 c10 : Nat) (w : World) (hs : t.stage = 0 ∨ t.stage = 1 ∨ t.stage = 2 ∨ t.stage = 3 ∨ t.stage = 4 ∨ t.stage = 5) (h : atB t n = bb) (h5 : x5 = t.stage) (h6 : x6 = t.at_) (h9 : n9 = t.reads.length) (h10 : n10 = t.puts.length) : Calls Try.prog 126 #[.agg #[.int .i64 x0, .int .i64 x1, .int .i64 x2, .slice a3 n3 c3, .int .i64 x4, .int .i64 x5, .int .i64 x6, .int .i64 x7, .slice a8 n8 c8, .slice a9 n9 c9, .slice a10 n10 c10, .int .i64 x11, .int .i64 x12], .int .i64 (n : Int)] w fun r w' => r = .returned (.bool bb) ∧ Below w.heap.size w w' := by
  subst h h5 h6 h9 h10
  have := atInForm_any ⟨x0, x1, x2, List.replicate n3 0, x4, t.stage, t.at_, x7, List.replicate n8 0, t.reads, t.puts, x11, x12⟩ a3 a8 a9 a10 c3 c8 c9 c10 n w hs
  simp only [List.length_replicate] at this
  exact this
theorem when_v (t : Ta) (clock : Int) {bb : Bool} (x0 x1 x2 x4 x5 x6 x7 x11 x12 : Int) (n3 n8 n9 n10 : Nat) (a3 a8 a9 a10 : Option Addr) (c3 c8 c9 c10 : Nat) (w : World) (hs : t.stage = 0 ∨ t.stage = 1 ∨ t.stage = 2 ∨ t.stage = 3 ∨ t.stage = 4 ∨ t.stage = 5) (h0 : 0 ≤ clock) (h1 : clock ≤ 200) (h : whB t clock = bb) (h5 : x5 = t.stage) (h7 : x7 = t.since) (h11 : x11 = t.when_) : Calls Try.prog 127 #[.agg #[.int .i64 x0, .int .i64 x1, .int .i64 x2, .slice a3 n3 c3, .int .i64 x4, .int .i64 x5, .int .i64 x6, .int .i64 x7, .slice a8 n8 c8, .slice a9 n9 c9, .slice a10 n10 c10, .int .i64 x11, .int .i64 x12], .int .i64 clock] w fun r w' => r = .returned (.bool bb) ∧ Below w.heap.size w w' := by
  subst h h5 h7 h11
  have := whenInForm_any ⟨x0, x1, x2, List.replicate n3 0, x4, t.stage, x6, t.since, List.replicate n8 0, List.replicate n9 Pu.z, List.replicate n10 Pu.z, t.when_, x12⟩ a3 a8 a9 a10 c3 c8 c9 c10 clock w hs h0 h1
  simp only [List.length_replicate] at this
  exact this
set_option maxHeartbeats 20000000 in
theorem changeInForm_any (p : Pr) (pa0 pa1 : Option Addr) (pc0 pc1 : Nat) (s : Sy) (sa0 sa1 sa3 : Option Addr) (sc0 sc1 sc3 : Nat) (t : Ta) (a3 a8 a9 a10 : Option Addr) (c3 c8 c9 c10 : Nat) (bn pn : Nat) (w : World) (hp : PrAt w (.slice pa0 p.cells.length pc0) (.slice pa1 p.bodies.length pc1) p) (h9 : PusAt w (.slice a9 t.reads.length c9) t.reads) (h10 : PusAt w (.slice a10 t.puts.length c10) t.puts) (hb : t.body = (bn : Int)) (hbn : bn < p.bodies.length) (hpc : t.pc = (pn : Int)) (hpn : pn ≤ (nth [] p.bodies bn).length)
    (hs : t.stage = 0 ∨ t.stage = 1 ∨ t.stage = 2 ∨ t.stage = 3 ∨ t.stage = 4 ∨ t.stage = 5) (h0 : 0 ≤ s.clock) (h200 : s.clock ≤ 200) (nr : t.reads.length ≤ 1048576) (nu : t.puts.length ≤ 1048576) :
    Calls Try.prog 91 #[.agg #[.slice pa0 p.cells.length pc0, .slice pa1 p.bodies.length pc1], .agg #[.slice sa0 s.cells.length sc0, .slice sa1 s.tasks.length sc1, .int .i64 s.clock, .slice sa3 s.log.length sc3], .agg #[.int .i64 t.body, .int .i64 t.pc, .int .i64 t.up, .slice a3 t.regs.length c3, .int .i64 t.way, .int .i64 t.stage, .int .i64 t.at_, .int .i64 t.since, .slice a8 t.old.length c8, .slice a9 t.reads.length c9, .slice a10 t.puts.length c10, .int .i64 t.when_, .int .i64 t.from_]] w fun r w' => r = .returned (.bool (cgB p s t)) ∧ Below w.heap.size w w' := by
  have HP := (show Hid (PrAt _ _ _ _) from hp)
  have HR := (show Hid (PusAt _ _ _) from h9)
  have HU := (show Hid (PusAt _ _ _) from h10)
  have HB0 := (show Hid (_ = _) from hb)
  have HC0 := (show Hid (_ = _) from hpc)
  have HS := (show Hid (t.stage = 0 ∨ _) from hs)
  clear hp h9 h10 hb hpc hs
  by_cases k1 : t.stage = 0
  · have k1' : (t.stage != 0) = false := by simp [k1]
    have k1'' : (t.stage == 0) = true := by simp [k1]
    have K1 := (show Hid (_ = _) from k1)
    by_cases k2 : 0 < t.reads.length + t.puts.length
    · have HF : Hid (cgB p s t = false) := by unfold Hid cgB; simp [k1, k2]
      have k2' : (0 : Int) < (t.reads.length : Int) + (t.puts.length : Int) := by omega
      clear k1
      go_enter Try.func91, Try.ntmps91
      go_wp2_with fail
      refine (actNext_v p _ _ _ _ t _ _ _ _ _ _ _ _ _ _ _ _ _ _ _ _ _ _ _ _ _ bn pn _ (by exact PrAt.mono HP.out (by repeat (first | with_reducible exact Below.refl _ _ | (with_reducible refine Below.setCell ?_ ?hs _; case hs => ((try simp); try omega)) | (with_reducible refine Below.alloc ?_ ?hs _; case hs => ((try simp); try omega)) | with_reducible refine Below.drew ?_))) HB0.out hbn HC0.out hpn HB0.out HC0.out).mono ?_
      rintro e w1 ⟨ad, cd, ak, ck, rfl, hb1⟩
      have HB : Hid (Below w.heap.size w w1) := below_then (by repeat (first | with_reducible exact Below.refl _ _ | (with_reducible refine Below.setCell ?_ ?hs _; case hs => ((try simp); try omega)) | (with_reducible refine Below.alloc ?_ ?hs _; case hs => ((try simp); try omega)) | with_reducible refine Below.drew ?_)) (by (try simp); try omega) hb1
      obtain ⟨hq1, hq2⟩ := bcell hb1
      have s1 : w.heap.size < w1.heap.size := by have := hb1.size; (try simp at this); omega
      have s2 : w.heap.size + 1 < w1.heap.size := by have := hb1.size; (try simp at this); omega
      have s3 : w.heap.size + 1 + 1 < w1.heap.size := by have := hb1.size; (try simp at this); omega
      have hsz := HB.out.size
      clear hb1 hq2
      go_wp2_with fail
      go_ret
      exact ⟨by rw [HF.out]; rfl, (by repeat (first | with_reducible exact HB.out | (with_reducible refine Below.setCell ?_ ?hs _; case hs => ((try simp); try omega)) | (with_reducible refine Below.alloc ?_ ?hs _; case hs => ((try simp); try omega)) | with_reducible refine Below.drew ?_))⟩
    · have k2' : ¬ (0 : Int) < (t.reads.length : Int) + (t.puts.length : Int) := by omega
      have K2 := (show Hid (¬ 0 < t.reads.length + t.puts.length) from k2)
      have hn1 : t.reads.length = 0 := by omega
      have hn2 : t.puts.length = 0 := by omega
      have HN1 := (show Hid (_ = _) from hn1)
      have HN2 := (show Hid (_ = _) from hn2)
      clear k1 k2 hn1 hn2
      cases g1 : puB t.reads p.cells.length
      · have HF : Hid (cgB p s t = false) := by unfold Hid cgB; simp [K1.out, K2.out, HN1.out, HN2.out, g1]
        have G1 := (show Hid (_ = _) from g1)
        clear g1
        go_enter Try.func91, Try.ntmps91
        go_wp2_with fail
        refine (actNext_v p _ _ _ _ t _ _ _ _ _ _ _ _ _ _ _ _ _ _ _ _ _ _ _ _ _ bn pn _ (by exact PrAt.mono HP.out (by repeat (first | with_reducible exact Below.refl _ _ | (with_reducible refine Below.setCell ?_ ?hs _; case hs => ((try simp); try omega)) | (with_reducible refine Below.alloc ?_ ?hs _; case hs => ((try simp); try omega)) | with_reducible refine Below.drew ?_))) HB0.out hbn HC0.out hpn HB0.out HC0.out).mono ?_
        rintro e w1 ⟨ad, cd, ak, ck, rfl, hb1⟩
        have HB : Hid (Below w.heap.size w w1) := below_then (by repeat (first | with_reducible exact Below.refl _ _ | (with_reducible refine Below.setCell ?_ ?hs _; case hs => ((try simp); try omega)) | (with_reducible refine Below.alloc ?_ ?hs _; case hs => ((try simp); try omega)) | with_reducible refine Below.drew ?_)) (by (try simp); try omega) hb1
        obtain ⟨hq1, hq2⟩ := bcell hb1
        have s1 : w.heap.size < w1.heap.size := by have := hb1.size; (try simp at this); omega
        have s2 : w.heap.size + 1 < w1.heap.size := by have := hb1.size; (try simp at this); omega
        have s3 : w.heap.size + 1 + 1 < w1.heap.size := by have := hb1.size; (try simp at this); omega
        have hsz := HB.out.size
        clear hb1 hq2
        go_wp2_with fail
        refine (puts_b G1.out _ (by exact PusAt.mono HR.out (by repeat (first | with_reducible exact HB.out | (with_reducible refine Below.setCell ?_ ?hs _; case hs => ((try simp); try omega)) | (with_reducible refine Below.alloc ?_ ?hs _; case hs => ((try simp); try omega)) | with_reducible refine Below.drew ?_)))).mono ?_
        rintro e w2 ⟨rfl, hc2⟩
        have HB2 : Hid (Below w.heap.size w w2) := below_then (by repeat (first | with_reducible exact HB.out | (with_reducible refine Below.setCell ?_ ?hs _; case hs => ((try simp); try omega)) | (with_reducible refine Below.alloc ?_ ?hs _; case hs => ((try simp); try omega)) | with_reducible refine Below.drew ?_)) (by (try simp); try omega) hc2
        obtain ⟨hx2, hy2⟩ := bcell hc2
        have t2a : w.heap.size < w2.heap.size := by have := hc2.size; (try simp at this); omega
        have t2b : w.heap.size + 1 < w2.heap.size := by have := hc2.size; (try simp at this); omega
        have t2c : w.heap.size + 1 + 1 < w2.heap.size := by have := hc2.size; (try simp at this); omega
        have t2d : w1.heap.size < w2.heap.size := by have := hc2.size; (try simp at this); omega
        have hsz2 := HB2.out.size
        clear hc2 hy2
        go_wp2_with fail
        go_ret
        exact ⟨by rw [HF.out]; rfl, (by repeat (first | with_reducible exact HB2.out | (with_reducible refine Below.setCell ?_ ?hs _; case hs => ((try simp); try omega)) | (with_reducible refine Below.alloc ?_ ?hs _; case hs => ((try simp); try omega)) | with_reducible refine Below.drew ?_))⟩
      have G1 := (show Hid (_ = _) from g1)
      clear g1
      cases g2 : puB t.puts p.cells.length
      · have HF : Hid (cgB p s t = false) := by unfold Hid cgB; simp [K1.out, K2.out, HN1.out, HN2.out, g2]
        have G2 := (show Hid (_ = _) from g2)
        clear g2
        go_enter Try.func91, Try.ntmps91
        go_wp2_with fail
        refine (actNext_v p _ _ _ _ t _ _ _ _ _ _ _ _ _ _ _ _ _ _ _ _ _ _ _ _ _ bn pn _ (by exact PrAt.mono HP.out (by repeat (first | with_reducible exact Below.refl _ _ | (with_reducible refine Below.setCell ?_ ?hs _; case hs => ((try simp); try omega)) | (with_reducible refine Below.alloc ?_ ?hs _; case hs => ((try simp); try omega)) | with_reducible refine Below.drew ?_))) HB0.out hbn HC0.out hpn HB0.out HC0.out).mono ?_
        rintro e w1 ⟨ad, cd, ak, ck, rfl, hb1⟩
        have HB : Hid (Below w.heap.size w w1) := below_then (by repeat (first | with_reducible exact Below.refl _ _ | (with_reducible refine Below.setCell ?_ ?hs _; case hs => ((try simp); try omega)) | (with_reducible refine Below.alloc ?_ ?hs _; case hs => ((try simp); try omega)) | with_reducible refine Below.drew ?_)) (by (try simp); try omega) hb1
        obtain ⟨hq1, hq2⟩ := bcell hb1
        have s1 : w.heap.size < w1.heap.size := by have := hb1.size; (try simp at this); omega
        have s2 : w.heap.size + 1 < w1.heap.size := by have := hb1.size; (try simp at this); omega
        have s3 : w.heap.size + 1 + 1 < w1.heap.size := by have := hb1.size; (try simp at this); omega
        have hsz := HB.out.size
        clear hb1 hq2
        go_wp2_with fail
        refine (puts_b G1.out _ (by exact PusAt.mono HR.out (by repeat (first | with_reducible exact HB.out | (with_reducible refine Below.setCell ?_ ?hs _; case hs => ((try simp); try omega)) | (with_reducible refine Below.alloc ?_ ?hs _; case hs => ((try simp); try omega)) | with_reducible refine Below.drew ?_)))).mono ?_
        rintro e w2 ⟨rfl, hc2⟩
        have HB2 : Hid (Below w.heap.size w w2) := below_then (by repeat (first | with_reducible exact HB.out | (with_reducible refine Below.setCell ?_ ?hs _; case hs => ((try simp); try omega)) | (with_reducible refine Below.alloc ?_ ?hs _; case hs => ((try simp); try omega)) | with_reducible refine Below.drew ?_)) (by (try simp); try omega) hc2
        obtain ⟨hx2, hy2⟩ := bcell hc2
        have t2a : w.heap.size < w2.heap.size := by have := hc2.size; (try simp at this); omega
        have t2b : w.heap.size + 1 < w2.heap.size := by have := hc2.size; (try simp at this); omega
        have t2c : w.heap.size + 1 + 1 < w2.heap.size := by have := hc2.size; (try simp at this); omega
        have t2d : w1.heap.size < w2.heap.size := by have := hc2.size; (try simp at this); omega
        have hsz2 := HB2.out.size
        clear hc2 hy2
        go_wp2_with fail
        refine (puts_b G2.out _ (by exact PusAt.mono HU.out (by repeat (first | with_reducible exact HB2.out | (with_reducible refine Below.setCell ?_ ?hs _; case hs => ((try simp); try omega)) | (with_reducible refine Below.alloc ?_ ?hs _; case hs => ((try simp); try omega)) | with_reducible refine Below.drew ?_)))).mono ?_
        rintro e w3 ⟨rfl, hc3⟩
        have HB3 : Hid (Below w.heap.size w w3) := below_then (by repeat (first | with_reducible exact HB2.out | (with_reducible refine Below.setCell ?_ ?hs _; case hs => ((try simp); try omega)) | (with_reducible refine Below.alloc ?_ ?hs _; case hs => ((try simp); try omega)) | with_reducible refine Below.drew ?_)) (by (try simp); try omega) hc3
        obtain ⟨hx3, hy3⟩ := bcell hc3
        have t3a : w.heap.size < w3.heap.size := by have := hc3.size; (try simp at this); omega
        have t3b : w.heap.size + 1 < w3.heap.size := by have := hc3.size; (try simp at this); omega
        have t3c : w.heap.size + 1 + 1 < w3.heap.size := by have := hc3.size; (try simp at this); omega
        have t3d : w1.heap.size < w3.heap.size := by have := hc3.size; (try simp at this); omega
        have hsz3 := HB3.out.size
        clear hc3 hy3
        go_wp2_with fail
        go_ret
        exact ⟨by rw [HF.out]; rfl, (by repeat (first | with_reducible exact HB3.out | (with_reducible refine Below.setCell ?_ ?hs _; case hs => ((try simp); try omega)) | (with_reducible refine Below.alloc ?_ ?hs _; case hs => ((try simp); try omega)) | with_reducible refine Below.drew ?_))⟩
      have G2 := (show Hid (_ = _) from g2)
      clear g2
      cases g3 : atB t (acN p t).ds.length
      · have HF : Hid (cgB p s t = false) := by unfold Hid cgB; simp [K1.out, K2.out, HN1.out, HN2.out, g3]
        have G3 := (show Hid (_ = _) from g3)
        clear g3
        go_enter Try.func91, Try.ntmps91
        go_wp2_with fail
        refine (actNext_v p _ _ _ _ t _ _ _ _ _ _ _ _ _ _ _ _ _ _ _ _ _ _ _ _ _ bn pn _ (by exact PrAt.mono HP.out (by repeat (first | with_reducible exact Below.refl _ _ | (with_reducible refine Below.setCell ?_ ?hs _; case hs => ((try simp); try omega)) | (with_reducible refine Below.alloc ?_ ?hs _; case hs => ((try simp); try omega)) | with_reducible refine Below.drew ?_))) HB0.out hbn HC0.out hpn HB0.out HC0.out).mono ?_
        rintro e w1 ⟨ad, cd, ak, ck, rfl, hb1⟩
        have HB : Hid (Below w.heap.size w w1) := below_then (by repeat (first | with_reducible exact Below.refl _ _ | (with_reducible refine Below.setCell ?_ ?hs _; case hs => ((try simp); try omega)) | (with_reducible refine Below.alloc ?_ ?hs _; case hs => ((try simp); try omega)) | with_reducible refine Below.drew ?_)) (by (try simp); try omega) hb1
        obtain ⟨hq1, hq2⟩ := bcell hb1
        have s1 : w.heap.size < w1.heap.size := by have := hb1.size; (try simp at this); omega
        have s2 : w.heap.size + 1 < w1.heap.size := by have := hb1.size; (try simp at this); omega
        have s3 : w.heap.size + 1 + 1 < w1.heap.size := by have := hb1.size; (try simp at this); omega
        have hsz := HB.out.size
        clear hb1 hq2
        go_wp2_with fail
        refine (puts_b G1.out _ (by exact PusAt.mono HR.out (by repeat (first | with_reducible exact HB.out | (with_reducible refine Below.setCell ?_ ?hs _; case hs => ((try simp); try omega)) | (with_reducible refine Below.alloc ?_ ?hs _; case hs => ((try simp); try omega)) | with_reducible refine Below.drew ?_)))).mono ?_
        rintro e w2 ⟨rfl, hc2⟩
        have HB2 : Hid (Below w.heap.size w w2) := below_then (by repeat (first | with_reducible exact HB.out | (with_reducible refine Below.setCell ?_ ?hs _; case hs => ((try simp); try omega)) | (with_reducible refine Below.alloc ?_ ?hs _; case hs => ((try simp); try omega)) | with_reducible refine Below.drew ?_)) (by (try simp); try omega) hc2
        obtain ⟨hx2, hy2⟩ := bcell hc2
        have t2a : w.heap.size < w2.heap.size := by have := hc2.size; (try simp at this); omega
        have t2b : w.heap.size + 1 < w2.heap.size := by have := hc2.size; (try simp at this); omega
        have t2c : w.heap.size + 1 + 1 < w2.heap.size := by have := hc2.size; (try simp at this); omega
        have t2d : w1.heap.size < w2.heap.size := by have := hc2.size; (try simp at this); omega
        have hsz2 := HB2.out.size
        clear hc2 hy2
        go_wp2_with fail
        refine (puts_b G2.out _ (by exact PusAt.mono HU.out (by repeat (first | with_reducible exact HB2.out | (with_reducible refine Below.setCell ?_ ?hs _; case hs => ((try simp); try omega)) | (with_reducible refine Below.alloc ?_ ?hs _; case hs => ((try simp); try omega)) | with_reducible refine Below.drew ?_)))).mono ?_
        rintro e w3 ⟨rfl, hc3⟩
        have HB3 : Hid (Below w.heap.size w w3) := below_then (by repeat (first | with_reducible exact HB2.out | (with_reducible refine Below.setCell ?_ ?hs _; case hs => ((try simp); try omega)) | (with_reducible refine Below.alloc ?_ ?hs _; case hs => ((try simp); try omega)) | with_reducible refine Below.drew ?_)) (by (try simp); try omega) hc3
        obtain ⟨hx3, hy3⟩ := bcell hc3
        have t3a : w.heap.size < w3.heap.size := by have := hc3.size; (try simp at this); omega
        have t3b : w.heap.size + 1 < w3.heap.size := by have := hc3.size; (try simp at this); omega
        have t3c : w.heap.size + 1 + 1 < w3.heap.size := by have := hc3.size; (try simp at this); omega
        have t3d : w1.heap.size < w3.heap.size := by have := hc3.size; (try simp at this); omega
        have hsz3 := HB3.out.size
        clear hc3 hy3
        go_wp2_with fail
        refine (at_v t _ _ _ _ _ _ _ _ _ _ _ _ _ _ _ _ _ _ _ _ _ _ _ HS.out G3.out (by first | rfl | exact K1.out.symm) rfl rfl rfl).mono ?_
        rintro e w4 ⟨rfl, hc4⟩
        have HB4 : Hid (Below w.heap.size w w4) := below_then (by repeat (first | with_reducible exact HB3.out | (with_reducible refine Below.setCell ?_ ?hs _; case hs => ((try simp); try omega)) | (with_reducible refine Below.alloc ?_ ?hs _; case hs => ((try simp); try omega)) | with_reducible refine Below.drew ?_)) (by (try simp); try omega) hc4
        obtain ⟨hx4, hy4⟩ := bcell hc4
        have t4a : w.heap.size < w4.heap.size := by have := hc4.size; (try simp at this); omega
        have t4b : w.heap.size + 1 < w4.heap.size := by have := hc4.size; (try simp at this); omega
        have t4c : w.heap.size + 1 + 1 < w4.heap.size := by have := hc4.size; (try simp at this); omega
        have t4d : w1.heap.size < w4.heap.size := by have := hc4.size; (try simp at this); omega
        have hsz4 := HB4.out.size
        clear hc4 hy4
        go_wp2_with fail
        go_ret
        exact ⟨by rw [HF.out]; rfl, (by repeat (first | with_reducible exact HB4.out | (with_reducible refine Below.setCell ?_ ?hs _; case hs => ((try simp); try omega)) | (with_reducible refine Below.alloc ?_ ?hs _; case hs => ((try simp); try omega)) | with_reducible refine Below.drew ?_))⟩
      have G3 := (show Hid (_ = _) from g3)
      clear g3
      cases g4 : inB t.since 0 s.clock
      · have HF : Hid (cgB p s t = false) := by unfold Hid cgB; simp [K1.out, K2.out, HN1.out, HN2.out, g4]
        have G4 := (show Hid (_ = _) from g4)
        clear g4
        go_enter Try.func91, Try.ntmps91
        go_wp2_with fail
        refine (actNext_v p _ _ _ _ t _ _ _ _ _ _ _ _ _ _ _ _ _ _ _ _ _ _ _ _ _ bn pn _ (by exact PrAt.mono HP.out (by repeat (first | with_reducible exact Below.refl _ _ | (with_reducible refine Below.setCell ?_ ?hs _; case hs => ((try simp); try omega)) | (with_reducible refine Below.alloc ?_ ?hs _; case hs => ((try simp); try omega)) | with_reducible refine Below.drew ?_))) HB0.out hbn HC0.out hpn HB0.out HC0.out).mono ?_
        rintro e w1 ⟨ad, cd, ak, ck, rfl, hb1⟩
        have HB : Hid (Below w.heap.size w w1) := below_then (by repeat (first | with_reducible exact Below.refl _ _ | (with_reducible refine Below.setCell ?_ ?hs _; case hs => ((try simp); try omega)) | (with_reducible refine Below.alloc ?_ ?hs _; case hs => ((try simp); try omega)) | with_reducible refine Below.drew ?_)) (by (try simp); try omega) hb1
        obtain ⟨hq1, hq2⟩ := bcell hb1
        have s1 : w.heap.size < w1.heap.size := by have := hb1.size; (try simp at this); omega
        have s2 : w.heap.size + 1 < w1.heap.size := by have := hb1.size; (try simp at this); omega
        have s3 : w.heap.size + 1 + 1 < w1.heap.size := by have := hb1.size; (try simp at this); omega
        have hsz := HB.out.size
        clear hb1 hq2
        go_wp2_with fail
        refine (puts_b G1.out _ (by exact PusAt.mono HR.out (by repeat (first | with_reducible exact HB.out | (with_reducible refine Below.setCell ?_ ?hs _; case hs => ((try simp); try omega)) | (with_reducible refine Below.alloc ?_ ?hs _; case hs => ((try simp); try omega)) | with_reducible refine Below.drew ?_)))).mono ?_
        rintro e w2 ⟨rfl, hc2⟩
        have HB2 : Hid (Below w.heap.size w w2) := below_then (by repeat (first | with_reducible exact HB.out | (with_reducible refine Below.setCell ?_ ?hs _; case hs => ((try simp); try omega)) | (with_reducible refine Below.alloc ?_ ?hs _; case hs => ((try simp); try omega)) | with_reducible refine Below.drew ?_)) (by (try simp); try omega) hc2
        obtain ⟨hx2, hy2⟩ := bcell hc2
        have t2a : w.heap.size < w2.heap.size := by have := hc2.size; (try simp at this); omega
        have t2b : w.heap.size + 1 < w2.heap.size := by have := hc2.size; (try simp at this); omega
        have t2c : w.heap.size + 1 + 1 < w2.heap.size := by have := hc2.size; (try simp at this); omega
        have t2d : w1.heap.size < w2.heap.size := by have := hc2.size; (try simp at this); omega
        have hsz2 := HB2.out.size
        clear hc2 hy2
        go_wp2_with fail
        refine (puts_b G2.out _ (by exact PusAt.mono HU.out (by repeat (first | with_reducible exact HB2.out | (with_reducible refine Below.setCell ?_ ?hs _; case hs => ((try simp); try omega)) | (with_reducible refine Below.alloc ?_ ?hs _; case hs => ((try simp); try omega)) | with_reducible refine Below.drew ?_)))).mono ?_
        rintro e w3 ⟨rfl, hc3⟩
        have HB3 : Hid (Below w.heap.size w w3) := below_then (by repeat (first | with_reducible exact HB2.out | (with_reducible refine Below.setCell ?_ ?hs _; case hs => ((try simp); try omega)) | (with_reducible refine Below.alloc ?_ ?hs _; case hs => ((try simp); try omega)) | with_reducible refine Below.drew ?_)) (by (try simp); try omega) hc3
        obtain ⟨hx3, hy3⟩ := bcell hc3
        have t3a : w.heap.size < w3.heap.size := by have := hc3.size; (try simp at this); omega
        have t3b : w.heap.size + 1 < w3.heap.size := by have := hc3.size; (try simp at this); omega
        have t3c : w.heap.size + 1 + 1 < w3.heap.size := by have := hc3.size; (try simp at this); omega
        have t3d : w1.heap.size < w3.heap.size := by have := hc3.size; (try simp at this); omega
        have hsz3 := HB3.out.size
        clear hc3 hy3
        go_wp2_with fail
        refine (at_v t _ _ _ _ _ _ _ _ _ _ _ _ _ _ _ _ _ _ _ _ _ _ _ HS.out G3.out (by first | rfl | exact K1.out.symm) rfl rfl rfl).mono ?_
        rintro e w4 ⟨rfl, hc4⟩
        have HB4 : Hid (Below w.heap.size w w4) := below_then (by repeat (first | with_reducible exact HB3.out | (with_reducible refine Below.setCell ?_ ?hs _; case hs => ((try simp); try omega)) | (with_reducible refine Below.alloc ?_ ?hs _; case hs => ((try simp); try omega)) | with_reducible refine Below.drew ?_)) (by (try simp); try omega) hc4
        obtain ⟨hx4, hy4⟩ := bcell hc4
        have t4a : w.heap.size < w4.heap.size := by have := hc4.size; (try simp at this); omega
        have t4b : w.heap.size + 1 < w4.heap.size := by have := hc4.size; (try simp at this); omega
        have t4c : w.heap.size + 1 + 1 < w4.heap.size := by have := hc4.size; (try simp at this); omega
        have t4d : w1.heap.size < w4.heap.size := by have := hc4.size; (try simp at this); omega
        have hsz4 := HB4.out.size
        clear hc4 hy4
        go_wp2_with fail
        refine (isUpTo_b G4.out _).mono ?_
        rintro e wq ⟨rfl, hw⟩
        have hw := hw.symm
        subst hw
        go_wp2_with fail
        go_ret
        exact ⟨by rw [HF.out]; rfl, (by repeat (first | with_reducible exact HB4.out | (with_reducible refine Below.setCell ?_ ?hs _; case hs => ((try simp); try omega)) | (with_reducible refine Below.alloc ?_ ?hs _; case hs => ((try simp); try omega)) | with_reducible refine Below.drew ?_))⟩
      have G4 := (show Hid (_ = _) from g4)
      clear g4
      cases g5 : inB t.from_ 0 s.log.length
      · have HF : Hid (cgB p s t = false) := by unfold Hid cgB; simp [K1.out, K2.out, HN1.out, HN2.out, g5]
        have G5 := (show Hid (_ = _) from g5)
        clear g5
        go_enter Try.func91, Try.ntmps91
        go_wp2_with fail
        refine (actNext_v p _ _ _ _ t _ _ _ _ _ _ _ _ _ _ _ _ _ _ _ _ _ _ _ _ _ bn pn _ (by exact PrAt.mono HP.out (by repeat (first | with_reducible exact Below.refl _ _ | (with_reducible refine Below.setCell ?_ ?hs _; case hs => ((try simp); try omega)) | (with_reducible refine Below.alloc ?_ ?hs _; case hs => ((try simp); try omega)) | with_reducible refine Below.drew ?_))) HB0.out hbn HC0.out hpn HB0.out HC0.out).mono ?_
        rintro e w1 ⟨ad, cd, ak, ck, rfl, hb1⟩
        have HB : Hid (Below w.heap.size w w1) := below_then (by repeat (first | with_reducible exact Below.refl _ _ | (with_reducible refine Below.setCell ?_ ?hs _; case hs => ((try simp); try omega)) | (with_reducible refine Below.alloc ?_ ?hs _; case hs => ((try simp); try omega)) | with_reducible refine Below.drew ?_)) (by (try simp); try omega) hb1
        obtain ⟨hq1, hq2⟩ := bcell hb1
        have s1 : w.heap.size < w1.heap.size := by have := hb1.size; (try simp at this); omega
        have s2 : w.heap.size + 1 < w1.heap.size := by have := hb1.size; (try simp at this); omega
        have s3 : w.heap.size + 1 + 1 < w1.heap.size := by have := hb1.size; (try simp at this); omega
        have hsz := HB.out.size
        clear hb1 hq2
        go_wp2_with fail
        refine (puts_b G1.out _ (by exact PusAt.mono HR.out (by repeat (first | with_reducible exact HB.out | (with_reducible refine Below.setCell ?_ ?hs _; case hs => ((try simp); try omega)) | (with_reducible refine Below.alloc ?_ ?hs _; case hs => ((try simp); try omega)) | with_reducible refine Below.drew ?_)))).mono ?_
        rintro e w2 ⟨rfl, hc2⟩
        have HB2 : Hid (Below w.heap.size w w2) := below_then (by repeat (first | with_reducible exact HB.out | (with_reducible refine Below.setCell ?_ ?hs _; case hs => ((try simp); try omega)) | (with_reducible refine Below.alloc ?_ ?hs _; case hs => ((try simp); try omega)) | with_reducible refine Below.drew ?_)) (by (try simp); try omega) hc2
        obtain ⟨hx2, hy2⟩ := bcell hc2
        have t2a : w.heap.size < w2.heap.size := by have := hc2.size; (try simp at this); omega
        have t2b : w.heap.size + 1 < w2.heap.size := by have := hc2.size; (try simp at this); omega
        have t2c : w.heap.size + 1 + 1 < w2.heap.size := by have := hc2.size; (try simp at this); omega
        have t2d : w1.heap.size < w2.heap.size := by have := hc2.size; (try simp at this); omega
        have hsz2 := HB2.out.size
        clear hc2 hy2
        go_wp2_with fail
        refine (puts_b G2.out _ (by exact PusAt.mono HU.out (by repeat (first | with_reducible exact HB2.out | (with_reducible refine Below.setCell ?_ ?hs _; case hs => ((try simp); try omega)) | (with_reducible refine Below.alloc ?_ ?hs _; case hs => ((try simp); try omega)) | with_reducible refine Below.drew ?_)))).mono ?_
        rintro e w3 ⟨rfl, hc3⟩
        have HB3 : Hid (Below w.heap.size w w3) := below_then (by repeat (first | with_reducible exact HB2.out | (with_reducible refine Below.setCell ?_ ?hs _; case hs => ((try simp); try omega)) | (with_reducible refine Below.alloc ?_ ?hs _; case hs => ((try simp); try omega)) | with_reducible refine Below.drew ?_)) (by (try simp); try omega) hc3
        obtain ⟨hx3, hy3⟩ := bcell hc3
        have t3a : w.heap.size < w3.heap.size := by have := hc3.size; (try simp at this); omega
        have t3b : w.heap.size + 1 < w3.heap.size := by have := hc3.size; (try simp at this); omega
        have t3c : w.heap.size + 1 + 1 < w3.heap.size := by have := hc3.size; (try simp at this); omega
        have t3d : w1.heap.size < w3.heap.size := by have := hc3.size; (try simp at this); omega
        have hsz3 := HB3.out.size
        clear hc3 hy3
        go_wp2_with fail
        refine (at_v t _ _ _ _ _ _ _ _ _ _ _ _ _ _ _ _ _ _ _ _ _ _ _ HS.out G3.out (by first | rfl | exact K1.out.symm) rfl rfl rfl).mono ?_
        rintro e w4 ⟨rfl, hc4⟩
        have HB4 : Hid (Below w.heap.size w w4) := below_then (by repeat (first | with_reducible exact HB3.out | (with_reducible refine Below.setCell ?_ ?hs _; case hs => ((try simp); try omega)) | (with_reducible refine Below.alloc ?_ ?hs _; case hs => ((try simp); try omega)) | with_reducible refine Below.drew ?_)) (by (try simp); try omega) hc4
        obtain ⟨hx4, hy4⟩ := bcell hc4
        have t4a : w.heap.size < w4.heap.size := by have := hc4.size; (try simp at this); omega
        have t4b : w.heap.size + 1 < w4.heap.size := by have := hc4.size; (try simp at this); omega
        have t4c : w.heap.size + 1 + 1 < w4.heap.size := by have := hc4.size; (try simp at this); omega
        have t4d : w1.heap.size < w4.heap.size := by have := hc4.size; (try simp at this); omega
        have hsz4 := HB4.out.size
        clear hc4 hy4
        go_wp2_with fail
        refine (isUpTo_b G4.out _).mono ?_
        rintro e wq ⟨rfl, hw⟩
        have hw := hw.symm
        subst hw
        go_wp2_with fail
        refine (isUpTo_b G5.out _).mono ?_
        rintro e wq ⟨rfl, hw⟩
        have hw := hw.symm
        subst hw
        go_wp2_with fail
        go_ret
        exact ⟨by rw [HF.out]; rfl, (by repeat (first | with_reducible exact HB4.out | (with_reducible refine Below.setCell ?_ ?hs _; case hs => ((try simp); try omega)) | (with_reducible refine Below.alloc ?_ ?hs _; case hs => ((try simp); try omega)) | with_reducible refine Below.drew ?_))⟩
      have G5 := (show Hid (_ = _) from g5)
      clear g5
      have HF : Hid (cgB p s t = whB t s.clock) := by unfold Hid cgB; simp [K1.out, K2.out, HN1.out, HN2.out, G1.out, G2.out, G3.out, G4.out, G5.out]
      go_enter Try.func91, Try.ntmps91
      go_wp2_with fail
      refine (actNext_v p _ _ _ _ t _ _ _ _ _ _ _ _ _ _ _ _ _ _ _ _ _ _ _ _ _ bn pn _ (by exact PrAt.mono HP.out (by repeat (first | with_reducible exact Below.refl _ _ | (with_reducible refine Below.setCell ?_ ?hs _; case hs => ((try simp); try omega)) | (with_reducible refine Below.alloc ?_ ?hs _; case hs => ((try simp); try omega)) | with_reducible refine Below.drew ?_))) HB0.out hbn HC0.out hpn HB0.out HC0.out).mono ?_
      rintro e w1 ⟨ad, cd, ak, ck, rfl, hb1⟩
      have HB : Hid (Below w.heap.size w w1) := below_then (by repeat (first | with_reducible exact Below.refl _ _ | (with_reducible refine Below.setCell ?_ ?hs _; case hs => ((try simp); try omega)) | (with_reducible refine Below.alloc ?_ ?hs _; case hs => ((try simp); try omega)) | with_reducible refine Below.drew ?_)) (by (try simp); try omega) hb1
      obtain ⟨hq1, hq2⟩ := bcell hb1
      have s1 : w.heap.size < w1.heap.size := by have := hb1.size; (try simp at this); omega
      have s2 : w.heap.size + 1 < w1.heap.size := by have := hb1.size; (try simp at this); omega
      have s3 : w.heap.size + 1 + 1 < w1.heap.size := by have := hb1.size; (try simp at this); omega
      have hsz := HB.out.size
      clear hb1 hq2
      go_wp2_with fail
      refine (puts_b G1.out _ (by exact PusAt.mono HR.out (by repeat (first | with_reducible exact HB.out | (with_reducible refine Below.setCell ?_ ?hs _; case hs => ((try simp); try omega)) | (with_reducible refine Below.alloc ?_ ?hs _; case hs => ((try simp); try omega)) | with_reducible refine Below.drew ?_)))).mono ?_
      rintro e w2 ⟨rfl, hc2⟩
      have HB2 : Hid (Below w.heap.size w w2) := below_then (by repeat (first | with_reducible exact HB.out | (with_reducible refine Below.setCell ?_ ?hs _; case hs => ((try simp); try omega)) | (with_reducible refine Below.alloc ?_ ?hs _; case hs => ((try simp); try omega)) | with_reducible refine Below.drew ?_)) (by (try simp); try omega) hc2
      obtain ⟨hx2, hy2⟩ := bcell hc2
      have t2a : w.heap.size < w2.heap.size := by have := hc2.size; (try simp at this); omega
      have t2b : w.heap.size + 1 < w2.heap.size := by have := hc2.size; (try simp at this); omega
      have t2c : w.heap.size + 1 + 1 < w2.heap.size := by have := hc2.size; (try simp at this); omega
      have t2d : w1.heap.size < w2.heap.size := by have := hc2.size; (try simp at this); omega
      have hsz2 := HB2.out.size
      clear hc2 hy2
      go_wp2_with fail
      refine (puts_b G2.out _ (by exact PusAt.mono HU.out (by repeat (first | with_reducible exact HB2.out | (with_reducible refine Below.setCell ?_ ?hs _; case hs => ((try simp); try omega)) | (with_reducible refine Below.alloc ?_ ?hs _; case hs => ((try simp); try omega)) | with_reducible refine Below.drew ?_)))).mono ?_
      rintro e w3 ⟨rfl, hc3⟩
      have HB3 : Hid (Below w.heap.size w w3) := below_then (by repeat (first | with_reducible exact HB2.out | (with_reducible refine Below.setCell ?_ ?hs _; case hs => ((try simp); try omega)) | (with_reducible refine Below.alloc ?_ ?hs _; case hs => ((try simp); try omega)) | with_reducible refine Below.drew ?_)) (by (try simp); try omega) hc3
      obtain ⟨hx3, hy3⟩ := bcell hc3
      have t3a : w.heap.size < w3.heap.size := by have := hc3.size; (try simp at this); omega
      have t3b : w.heap.size + 1 < w3.heap.size := by have := hc3.size; (try simp at this); omega
      have t3c : w.heap.size + 1 + 1 < w3.heap.size := by have := hc3.size; (try simp at this); omega
      have t3d : w1.heap.size < w3.heap.size := by have := hc3.size; (try simp at this); omega
      have hsz3 := HB3.out.size
      clear hc3 hy3
      go_wp2_with fail
      refine (at_v t _ _ _ _ _ _ _ _ _ _ _ _ _ _ _ _ _ _ _ _ _ _ _ HS.out G3.out (by first | rfl | exact K1.out.symm) rfl rfl rfl).mono ?_
      rintro e w4 ⟨rfl, hc4⟩
      have HB4 : Hid (Below w.heap.size w w4) := below_then (by repeat (first | with_reducible exact HB3.out | (with_reducible refine Below.setCell ?_ ?hs _; case hs => ((try simp); try omega)) | (with_reducible refine Below.alloc ?_ ?hs _; case hs => ((try simp); try omega)) | with_reducible refine Below.drew ?_)) (by (try simp); try omega) hc4
      obtain ⟨hx4, hy4⟩ := bcell hc4
      have t4a : w.heap.size < w4.heap.size := by have := hc4.size; (try simp at this); omega
      have t4b : w.heap.size + 1 < w4.heap.size := by have := hc4.size; (try simp at this); omega
      have t4c : w.heap.size + 1 + 1 < w4.heap.size := by have := hc4.size; (try simp at this); omega
      have t4d : w1.heap.size < w4.heap.size := by have := hc4.size; (try simp at this); omega
      have hsz4 := HB4.out.size
      clear hc4 hy4
      go_wp2_with fail
      refine (isUpTo_b G4.out _).mono ?_
      rintro e wq ⟨rfl, hw⟩
      have hw := hw.symm
      subst hw
      go_wp2_with fail
      refine (isUpTo_b G5.out _).mono ?_
      rintro e wq ⟨rfl, hw⟩
      have hw := hw.symm
      subst hw
      go_wp2_with fail
      refine (when_v t _ _ _ _ _ _ _ _ _ _ _ _ _ _ _ _ _ _ _ _ _ _ _ HS.out h0 h200 rfl (by first | rfl | exact K1.out.symm) rfl rfl).mono ?_
      rintro e w5 ⟨rfl, hc5⟩
      have HB5 : Hid (Below w.heap.size w w5) := below_then (by repeat (first | with_reducible exact HB4.out | (with_reducible refine Below.setCell ?_ ?hs _; case hs => ((try simp); try omega)) | (with_reducible refine Below.alloc ?_ ?hs _; case hs => ((try simp); try omega)) | with_reducible refine Below.drew ?_)) (by (try simp); try omega) hc5
      obtain ⟨hx5, hy5⟩ := bcell hc5
      have t5a : w.heap.size < w5.heap.size := by have := hc5.size; (try simp at this); omega
      have t5b : w.heap.size + 1 < w5.heap.size := by have := hc5.size; (try simp at this); omega
      have t5c : w.heap.size + 1 + 1 < w5.heap.size := by have := hc5.size; (try simp at this); omega
      have t5d : w1.heap.size < w5.heap.size := by have := hc5.size; (try simp at this); omega
      have hsz5 := HB5.out.size
      clear hc5 hy5
      go_wp2_with fail
      go_ret
      exact ⟨by rw [HF.out]; rfl, (by repeat (first | with_reducible exact HB5.out | (with_reducible refine Below.setCell ?_ ?hs _; case hs => ((try simp); try omega)) | (with_reducible refine Below.alloc ?_ ?hs _; case hs => ((try simp); try omega)) | with_reducible refine Below.drew ?_))⟩
  · have k1' : (t.stage != 0) = true := by simp [k1]
    have k1'' : (t.stage == 0) = false := by simp [k1]
    have K1 : Hid (t.stage = t.stage) := rfl
    have K1n := (show Hid (¬ _) from k1)
    by_cases k2 : t.way = 0
    · have k2' : (t.way != 0) = false := by simp [k2]
      have K2 := (show Hid (_ = _) from k2)
      clear k2
      by_cases k3 : (acN p t).k = 1
      · have k3' : ((acN p t).k != 1) = false := by simp [k3]
        have K3 := (show Hid (_ = _) from k3)
        clear k3
        cases g1 : puB t.reads p.cells.length
        · have HF : Hid (cgB p s t = false) := by unfold Hid cgB; simp [K1n.out, K2.out, K3.out, g1]
          have G1 := (show Hid (_ = _) from g1)
          clear g1
          go_enter Try.func91, Try.ntmps91
          go_wp2_with fail
          refine (actNext_v p _ _ _ _ t _ _ _ _ _ _ _ _ _ _ _ _ _ _ _ _ _ _ _ _ _ bn pn _ (by exact PrAt.mono HP.out (by repeat (first | with_reducible exact Below.refl _ _ | (with_reducible refine Below.setCell ?_ ?hs _; case hs => ((try simp); try omega)) | (with_reducible refine Below.alloc ?_ ?hs _; case hs => ((try simp); try omega)) | with_reducible refine Below.drew ?_))) HB0.out hbn HC0.out hpn HB0.out HC0.out).mono ?_
          rintro e w1 ⟨ad, cd, ak, ck, rfl, hb1⟩
          have HB : Hid (Below w.heap.size w w1) := below_then (by repeat (first | with_reducible exact Below.refl _ _ | (with_reducible refine Below.setCell ?_ ?hs _; case hs => ((try simp); try omega)) | (with_reducible refine Below.alloc ?_ ?hs _; case hs => ((try simp); try omega)) | with_reducible refine Below.drew ?_)) (by (try simp); try omega) hb1
          obtain ⟨hq1, hq2⟩ := bcell hb1
          have s1 : w.heap.size < w1.heap.size := by have := hb1.size; (try simp at this); omega
          have s2 : w.heap.size + 1 < w1.heap.size := by have := hb1.size; (try simp at this); omega
          have s3 : w.heap.size + 1 + 1 < w1.heap.size := by have := hb1.size; (try simp at this); omega
          have hsz := HB.out.size
          clear hb1 hq2
          go_wp2_with fail
          refine (puts_b G1.out _ (by exact PusAt.mono HR.out (by repeat (first | with_reducible exact HB.out | (with_reducible refine Below.setCell ?_ ?hs _; case hs => ((try simp); try omega)) | (with_reducible refine Below.alloc ?_ ?hs _; case hs => ((try simp); try omega)) | with_reducible refine Below.drew ?_)))).mono ?_
          rintro e w2 ⟨rfl, hc2⟩
          have HB2 : Hid (Below w.heap.size w w2) := below_then (by repeat (first | with_reducible exact HB.out | (with_reducible refine Below.setCell ?_ ?hs _; case hs => ((try simp); try omega)) | (with_reducible refine Below.alloc ?_ ?hs _; case hs => ((try simp); try omega)) | with_reducible refine Below.drew ?_)) (by (try simp); try omega) hc2
          obtain ⟨hx2, hy2⟩ := bcell hc2
          have t2a : w.heap.size < w2.heap.size := by have := hc2.size; (try simp at this); omega
          have t2b : w.heap.size + 1 < w2.heap.size := by have := hc2.size; (try simp at this); omega
          have t2c : w.heap.size + 1 + 1 < w2.heap.size := by have := hc2.size; (try simp at this); omega
          have t2d : w1.heap.size < w2.heap.size := by have := hc2.size; (try simp at this); omega
          have hsz2 := HB2.out.size
          clear hc2 hy2
          go_wp2_with fail
          go_ret
          exact ⟨by rw [HF.out]; rfl, (by repeat (first | with_reducible exact HB2.out | (with_reducible refine Below.setCell ?_ ?hs _; case hs => ((try simp); try omega)) | (with_reducible refine Below.alloc ?_ ?hs _; case hs => ((try simp); try omega)) | with_reducible refine Below.drew ?_))⟩
        have G1 := (show Hid (_ = _) from g1)
        clear g1
        cases g2 : puB t.puts p.cells.length
        · have HF : Hid (cgB p s t = false) := by unfold Hid cgB; simp [K1n.out, K2.out, K3.out, g2]
          have G2 := (show Hid (_ = _) from g2)
          clear g2
          go_enter Try.func91, Try.ntmps91
          go_wp2_with fail
          refine (actNext_v p _ _ _ _ t _ _ _ _ _ _ _ _ _ _ _ _ _ _ _ _ _ _ _ _ _ bn pn _ (by exact PrAt.mono HP.out (by repeat (first | with_reducible exact Below.refl _ _ | (with_reducible refine Below.setCell ?_ ?hs _; case hs => ((try simp); try omega)) | (with_reducible refine Below.alloc ?_ ?hs _; case hs => ((try simp); try omega)) | with_reducible refine Below.drew ?_))) HB0.out hbn HC0.out hpn HB0.out HC0.out).mono ?_
          rintro e w1 ⟨ad, cd, ak, ck, rfl, hb1⟩
          have HB : Hid (Below w.heap.size w w1) := below_then (by repeat (first | with_reducible exact Below.refl _ _ | (with_reducible refine Below.setCell ?_ ?hs _; case hs => ((try simp); try omega)) | (with_reducible refine Below.alloc ?_ ?hs _; case hs => ((try simp); try omega)) | with_reducible refine Below.drew ?_)) (by (try simp); try omega) hb1
          obtain ⟨hq1, hq2⟩ := bcell hb1
          have s1 : w.heap.size < w1.heap.size := by have := hb1.size; (try simp at this); omega
          have s2 : w.heap.size + 1 < w1.heap.size := by have := hb1.size; (try simp at this); omega
          have s3 : w.heap.size + 1 + 1 < w1.heap.size := by have := hb1.size; (try simp at this); omega
          have hsz := HB.out.size
          clear hb1 hq2
          go_wp2_with fail
          refine (puts_b G1.out _ (by exact PusAt.mono HR.out (by repeat (first | with_reducible exact HB.out | (with_reducible refine Below.setCell ?_ ?hs _; case hs => ((try simp); try omega)) | (with_reducible refine Below.alloc ?_ ?hs _; case hs => ((try simp); try omega)) | with_reducible refine Below.drew ?_)))).mono ?_
          rintro e w2 ⟨rfl, hc2⟩
          have HB2 : Hid (Below w.heap.size w w2) := below_then (by repeat (first | with_reducible exact HB.out | (with_reducible refine Below.setCell ?_ ?hs _; case hs => ((try simp); try omega)) | (with_reducible refine Below.alloc ?_ ?hs _; case hs => ((try simp); try omega)) | with_reducible refine Below.drew ?_)) (by (try simp); try omega) hc2
          obtain ⟨hx2, hy2⟩ := bcell hc2
          have t2a : w.heap.size < w2.heap.size := by have := hc2.size; (try simp at this); omega
          have t2b : w.heap.size + 1 < w2.heap.size := by have := hc2.size; (try simp at this); omega
          have t2c : w.heap.size + 1 + 1 < w2.heap.size := by have := hc2.size; (try simp at this); omega
          have t2d : w1.heap.size < w2.heap.size := by have := hc2.size; (try simp at this); omega
          have hsz2 := HB2.out.size
          clear hc2 hy2
          go_wp2_with fail
          refine (puts_b G2.out _ (by exact PusAt.mono HU.out (by repeat (first | with_reducible exact HB2.out | (with_reducible refine Below.setCell ?_ ?hs _; case hs => ((try simp); try omega)) | (with_reducible refine Below.alloc ?_ ?hs _; case hs => ((try simp); try omega)) | with_reducible refine Below.drew ?_)))).mono ?_
          rintro e w3 ⟨rfl, hc3⟩
          have HB3 : Hid (Below w.heap.size w w3) := below_then (by repeat (first | with_reducible exact HB2.out | (with_reducible refine Below.setCell ?_ ?hs _; case hs => ((try simp); try omega)) | (with_reducible refine Below.alloc ?_ ?hs _; case hs => ((try simp); try omega)) | with_reducible refine Below.drew ?_)) (by (try simp); try omega) hc3
          obtain ⟨hx3, hy3⟩ := bcell hc3
          have t3a : w.heap.size < w3.heap.size := by have := hc3.size; (try simp at this); omega
          have t3b : w.heap.size + 1 < w3.heap.size := by have := hc3.size; (try simp at this); omega
          have t3c : w.heap.size + 1 + 1 < w3.heap.size := by have := hc3.size; (try simp at this); omega
          have t3d : w1.heap.size < w3.heap.size := by have := hc3.size; (try simp at this); omega
          have hsz3 := HB3.out.size
          clear hc3 hy3
          go_wp2_with fail
          go_ret
          exact ⟨by rw [HF.out]; rfl, (by repeat (first | with_reducible exact HB3.out | (with_reducible refine Below.setCell ?_ ?hs _; case hs => ((try simp); try omega)) | (with_reducible refine Below.alloc ?_ ?hs _; case hs => ((try simp); try omega)) | with_reducible refine Below.drew ?_))⟩
        have G2 := (show Hid (_ = _) from g2)
        clear g2
        cases g3 : atB t (acN p t).ds.length
        · have HF : Hid (cgB p s t = false) := by unfold Hid cgB; simp [K1n.out, K2.out, K3.out, g3]
          have G3 := (show Hid (_ = _) from g3)
          clear g3
          go_enter Try.func91, Try.ntmps91
          go_wp2_with fail
          refine (actNext_v p _ _ _ _ t _ _ _ _ _ _ _ _ _ _ _ _ _ _ _ _ _ _ _ _ _ bn pn _ (by exact PrAt.mono HP.out (by repeat (first | with_reducible exact Below.refl _ _ | (with_reducible refine Below.setCell ?_ ?hs _; case hs => ((try simp); try omega)) | (with_reducible refine Below.alloc ?_ ?hs _; case hs => ((try simp); try omega)) | with_reducible refine Below.drew ?_))) HB0.out hbn HC0.out hpn HB0.out HC0.out).mono ?_
          rintro e w1 ⟨ad, cd, ak, ck, rfl, hb1⟩
          have HB : Hid (Below w.heap.size w w1) := below_then (by repeat (first | with_reducible exact Below.refl _ _ | (with_reducible refine Below.setCell ?_ ?hs _; case hs => ((try simp); try omega)) | (with_reducible refine Below.alloc ?_ ?hs _; case hs => ((try simp); try omega)) | with_reducible refine Below.drew ?_)) (by (try simp); try omega) hb1
          obtain ⟨hq1, hq2⟩ := bcell hb1
          have s1 : w.heap.size < w1.heap.size := by have := hb1.size; (try simp at this); omega
          have s2 : w.heap.size + 1 < w1.heap.size := by have := hb1.size; (try simp at this); omega
          have s3 : w.heap.size + 1 + 1 < w1.heap.size := by have := hb1.size; (try simp at this); omega
          have hsz := HB.out.size
          clear hb1 hq2
          go_wp2_with fail
          refine (puts_b G1.out _ (by exact PusAt.mono HR.out (by repeat (first | with_reducible exact HB.out | (with_reducible refine Below.setCell ?_ ?hs _; case hs => ((try simp); try omega)) | (with_reducible refine Below.alloc ?_ ?hs _; case hs => ((try simp); try omega)) | with_reducible refine Below.drew ?_)))).mono ?_
          rintro e w2 ⟨rfl, hc2⟩
          have HB2 : Hid (Below w.heap.size w w2) := below_then (by repeat (first | with_reducible exact HB.out | (with_reducible refine Below.setCell ?_ ?hs _; case hs => ((try simp); try omega)) | (with_reducible refine Below.alloc ?_ ?hs _; case hs => ((try simp); try omega)) | with_reducible refine Below.drew ?_)) (by (try simp); try omega) hc2
          obtain ⟨hx2, hy2⟩ := bcell hc2
          have t2a : w.heap.size < w2.heap.size := by have := hc2.size; (try simp at this); omega
          have t2b : w.heap.size + 1 < w2.heap.size := by have := hc2.size; (try simp at this); omega
          have t2c : w.heap.size + 1 + 1 < w2.heap.size := by have := hc2.size; (try simp at this); omega
          have t2d : w1.heap.size < w2.heap.size := by have := hc2.size; (try simp at this); omega
          have hsz2 := HB2.out.size
          clear hc2 hy2
          go_wp2_with fail
          refine (puts_b G2.out _ (by exact PusAt.mono HU.out (by repeat (first | with_reducible exact HB2.out | (with_reducible refine Below.setCell ?_ ?hs _; case hs => ((try simp); try omega)) | (with_reducible refine Below.alloc ?_ ?hs _; case hs => ((try simp); try omega)) | with_reducible refine Below.drew ?_)))).mono ?_
          rintro e w3 ⟨rfl, hc3⟩
          have HB3 : Hid (Below w.heap.size w w3) := below_then (by repeat (first | with_reducible exact HB2.out | (with_reducible refine Below.setCell ?_ ?hs _; case hs => ((try simp); try omega)) | (with_reducible refine Below.alloc ?_ ?hs _; case hs => ((try simp); try omega)) | with_reducible refine Below.drew ?_)) (by (try simp); try omega) hc3
          obtain ⟨hx3, hy3⟩ := bcell hc3
          have t3a : w.heap.size < w3.heap.size := by have := hc3.size; (try simp at this); omega
          have t3b : w.heap.size + 1 < w3.heap.size := by have := hc3.size; (try simp at this); omega
          have t3c : w.heap.size + 1 + 1 < w3.heap.size := by have := hc3.size; (try simp at this); omega
          have t3d : w1.heap.size < w3.heap.size := by have := hc3.size; (try simp at this); omega
          have hsz3 := HB3.out.size
          clear hc3 hy3
          go_wp2_with fail
          refine (at_v t _ _ _ _ _ _ _ _ _ _ _ _ _ _ _ _ _ _ _ _ _ _ _ HS.out G3.out (by first | rfl | exact K1.out.symm) rfl rfl rfl).mono ?_
          rintro e w4 ⟨rfl, hc4⟩
          have HB4 : Hid (Below w.heap.size w w4) := below_then (by repeat (first | with_reducible exact HB3.out | (with_reducible refine Below.setCell ?_ ?hs _; case hs => ((try simp); try omega)) | (with_reducible refine Below.alloc ?_ ?hs _; case hs => ((try simp); try omega)) | with_reducible refine Below.drew ?_)) (by (try simp); try omega) hc4
          obtain ⟨hx4, hy4⟩ := bcell hc4
          have t4a : w.heap.size < w4.heap.size := by have := hc4.size; (try simp at this); omega
          have t4b : w.heap.size + 1 < w4.heap.size := by have := hc4.size; (try simp at this); omega
          have t4c : w.heap.size + 1 + 1 < w4.heap.size := by have := hc4.size; (try simp at this); omega
          have t4d : w1.heap.size < w4.heap.size := by have := hc4.size; (try simp at this); omega
          have hsz4 := HB4.out.size
          clear hc4 hy4
          go_wp2_with fail
          go_ret
          exact ⟨by rw [HF.out]; rfl, (by repeat (first | with_reducible exact HB4.out | (with_reducible refine Below.setCell ?_ ?hs _; case hs => ((try simp); try omega)) | (with_reducible refine Below.alloc ?_ ?hs _; case hs => ((try simp); try omega)) | with_reducible refine Below.drew ?_))⟩
        have G3 := (show Hid (_ = _) from g3)
        clear g3
        cases g4 : inB t.since 0 s.clock
        · have HF : Hid (cgB p s t = false) := by unfold Hid cgB; simp [K1n.out, K2.out, K3.out, g4]
          have G4 := (show Hid (_ = _) from g4)
          clear g4
          go_enter Try.func91, Try.ntmps91
          go_wp2_with fail
          refine (actNext_v p _ _ _ _ t _ _ _ _ _ _ _ _ _ _ _ _ _ _ _ _ _ _ _ _ _ bn pn _ (by exact PrAt.mono HP.out (by repeat (first | with_reducible exact Below.refl _ _ | (with_reducible refine Below.setCell ?_ ?hs _; case hs => ((try simp); try omega)) | (with_reducible refine Below.alloc ?_ ?hs _; case hs => ((try simp); try omega)) | with_reducible refine Below.drew ?_))) HB0.out hbn HC0.out hpn HB0.out HC0.out).mono ?_
          rintro e w1 ⟨ad, cd, ak, ck, rfl, hb1⟩
          have HB : Hid (Below w.heap.size w w1) := below_then (by repeat (first | with_reducible exact Below.refl _ _ | (with_reducible refine Below.setCell ?_ ?hs _; case hs => ((try simp); try omega)) | (with_reducible refine Below.alloc ?_ ?hs _; case hs => ((try simp); try omega)) | with_reducible refine Below.drew ?_)) (by (try simp); try omega) hb1
          obtain ⟨hq1, hq2⟩ := bcell hb1
          have s1 : w.heap.size < w1.heap.size := by have := hb1.size; (try simp at this); omega
          have s2 : w.heap.size + 1 < w1.heap.size := by have := hb1.size; (try simp at this); omega
          have s3 : w.heap.size + 1 + 1 < w1.heap.size := by have := hb1.size; (try simp at this); omega
          have hsz := HB.out.size
          clear hb1 hq2
          go_wp2_with fail
          refine (puts_b G1.out _ (by exact PusAt.mono HR.out (by repeat (first | with_reducible exact HB.out | (with_reducible refine Below.setCell ?_ ?hs _; case hs => ((try simp); try omega)) | (with_reducible refine Below.alloc ?_ ?hs _; case hs => ((try simp); try omega)) | with_reducible refine Below.drew ?_)))).mono ?_
          rintro e w2 ⟨rfl, hc2⟩
          have HB2 : Hid (Below w.heap.size w w2) := below_then (by repeat (first | with_reducible exact HB.out | (with_reducible refine Below.setCell ?_ ?hs _; case hs => ((try simp); try omega)) | (with_reducible refine Below.alloc ?_ ?hs _; case hs => ((try simp); try omega)) | with_reducible refine Below.drew ?_)) (by (try simp); try omega) hc2
          obtain ⟨hx2, hy2⟩ := bcell hc2
          have t2a : w.heap.size < w2.heap.size := by have := hc2.size; (try simp at this); omega
          have t2b : w.heap.size + 1 < w2.heap.size := by have := hc2.size; (try simp at this); omega
          have t2c : w.heap.size + 1 + 1 < w2.heap.size := by have := hc2.size; (try simp at this); omega
          have t2d : w1.heap.size < w2.heap.size := by have := hc2.size; (try simp at this); omega
          have hsz2 := HB2.out.size
          clear hc2 hy2
          go_wp2_with fail
          refine (puts_b G2.out _ (by exact PusAt.mono HU.out (by repeat (first | with_reducible exact HB2.out | (with_reducible refine Below.setCell ?_ ?hs _; case hs => ((try simp); try omega)) | (with_reducible refine Below.alloc ?_ ?hs _; case hs => ((try simp); try omega)) | with_reducible refine Below.drew ?_)))).mono ?_
          rintro e w3 ⟨rfl, hc3⟩
          have HB3 : Hid (Below w.heap.size w w3) := below_then (by repeat (first | with_reducible exact HB2.out | (with_reducible refine Below.setCell ?_ ?hs _; case hs => ((try simp); try omega)) | (with_reducible refine Below.alloc ?_ ?hs _; case hs => ((try simp); try omega)) | with_reducible refine Below.drew ?_)) (by (try simp); try omega) hc3
          obtain ⟨hx3, hy3⟩ := bcell hc3
          have t3a : w.heap.size < w3.heap.size := by have := hc3.size; (try simp at this); omega
          have t3b : w.heap.size + 1 < w3.heap.size := by have := hc3.size; (try simp at this); omega
          have t3c : w.heap.size + 1 + 1 < w3.heap.size := by have := hc3.size; (try simp at this); omega
          have t3d : w1.heap.size < w3.heap.size := by have := hc3.size; (try simp at this); omega
          have hsz3 := HB3.out.size
          clear hc3 hy3
          go_wp2_with fail
          refine (at_v t _ _ _ _ _ _ _ _ _ _ _ _ _ _ _ _ _ _ _ _ _ _ _ HS.out G3.out (by first | rfl | exact K1.out.symm) rfl rfl rfl).mono ?_
          rintro e w4 ⟨rfl, hc4⟩
          have HB4 : Hid (Below w.heap.size w w4) := below_then (by repeat (first | with_reducible exact HB3.out | (with_reducible refine Below.setCell ?_ ?hs _; case hs => ((try simp); try omega)) | (with_reducible refine Below.alloc ?_ ?hs _; case hs => ((try simp); try omega)) | with_reducible refine Below.drew ?_)) (by (try simp); try omega) hc4
          obtain ⟨hx4, hy4⟩ := bcell hc4
          have t4a : w.heap.size < w4.heap.size := by have := hc4.size; (try simp at this); omega
          have t4b : w.heap.size + 1 < w4.heap.size := by have := hc4.size; (try simp at this); omega
          have t4c : w.heap.size + 1 + 1 < w4.heap.size := by have := hc4.size; (try simp at this); omega
          have t4d : w1.heap.size < w4.heap.size := by have := hc4.size; (try simp at this); omega
          have hsz4 := HB4.out.size
          clear hc4 hy4
          go_wp2_with fail
          refine (isUpTo_b G4.out _).mono ?_
          rintro e wq ⟨rfl, hw⟩
          have hw := hw.symm
          subst hw
          go_wp2_with fail
          go_ret
          exact ⟨by rw [HF.out]; rfl, (by repeat (first | with_reducible exact HB4.out | (with_reducible refine Below.setCell ?_ ?hs _; case hs => ((try simp); try omega)) | (with_reducible refine Below.alloc ?_ ?hs _; case hs => ((try simp); try omega)) | with_reducible refine Below.drew ?_))⟩
        have G4 := (show Hid (_ = _) from g4)
        clear g4
        cases g5 : inB t.from_ 0 s.log.length
        · have HF : Hid (cgB p s t = false) := by unfold Hid cgB; simp [K1n.out, K2.out, K3.out, g5]
          have G5 := (show Hid (_ = _) from g5)
          clear g5
          go_enter Try.func91, Try.ntmps91
          go_wp2_with fail
          refine (actNext_v p _ _ _ _ t _ _ _ _ _ _ _ _ _ _ _ _ _ _ _ _ _ _ _ _ _ bn pn _ (by exact PrAt.mono HP.out (by repeat (first | with_reducible exact Below.refl _ _ | (with_reducible refine Below.setCell ?_ ?hs _; case hs => ((try simp); try omega)) | (with_reducible refine Below.alloc ?_ ?hs _; case hs => ((try simp); try omega)) | with_reducible refine Below.drew ?_))) HB0.out hbn HC0.out hpn HB0.out HC0.out).mono ?_
          rintro e w1 ⟨ad, cd, ak, ck, rfl, hb1⟩
          have HB : Hid (Below w.heap.size w w1) := below_then (by repeat (first | with_reducible exact Below.refl _ _ | (with_reducible refine Below.setCell ?_ ?hs _; case hs => ((try simp); try omega)) | (with_reducible refine Below.alloc ?_ ?hs _; case hs => ((try simp); try omega)) | with_reducible refine Below.drew ?_)) (by (try simp); try omega) hb1
          obtain ⟨hq1, hq2⟩ := bcell hb1
          have s1 : w.heap.size < w1.heap.size := by have := hb1.size; (try simp at this); omega
          have s2 : w.heap.size + 1 < w1.heap.size := by have := hb1.size; (try simp at this); omega
          have s3 : w.heap.size + 1 + 1 < w1.heap.size := by have := hb1.size; (try simp at this); omega
          have hsz := HB.out.size
          clear hb1 hq2
          go_wp2_with fail
          refine (puts_b G1.out _ (by exact PusAt.mono HR.out (by repeat (first | with_reducible exact HB.out | (with_reducible refine Below.setCell ?_ ?hs _; case hs => ((try simp); try omega)) | (with_reducible refine Below.alloc ?_ ?hs _; case hs => ((try simp); try omega)) | with_reducible refine Below.drew ?_)))).mono ?_
          rintro e w2 ⟨rfl, hc2⟩
          have HB2 : Hid (Below w.heap.size w w2) := below_then (by repeat (first | with_reducible exact HB.out | (with_reducible refine Below.setCell ?_ ?hs _; case hs => ((try simp); try omega)) | (with_reducible refine Below.alloc ?_ ?hs _; case hs => ((try simp); try omega)) | with_reducible refine Below.drew ?_)) (by (try simp); try omega) hc2
          obtain ⟨hx2, hy2⟩ := bcell hc2
          have t2a : w.heap.size < w2.heap.size := by have := hc2.size; (try simp at this); omega
          have t2b : w.heap.size + 1 < w2.heap.size := by have := hc2.size; (try simp at this); omega
          have t2c : w.heap.size + 1 + 1 < w2.heap.size := by have := hc2.size; (try simp at this); omega
          have t2d : w1.heap.size < w2.heap.size := by have := hc2.size; (try simp at this); omega
          have hsz2 := HB2.out.size
          clear hc2 hy2
          go_wp2_with fail
          refine (puts_b G2.out _ (by exact PusAt.mono HU.out (by repeat (first | with_reducible exact HB2.out | (with_reducible refine Below.setCell ?_ ?hs _; case hs => ((try simp); try omega)) | (with_reducible refine Below.alloc ?_ ?hs _; case hs => ((try simp); try omega)) | with_reducible refine Below.drew ?_)))).mono ?_
          rintro e w3 ⟨rfl, hc3⟩
          have HB3 : Hid (Below w.heap.size w w3) := below_then (by repeat (first | with_reducible exact HB2.out | (with_reducible refine Below.setCell ?_ ?hs _; case hs => ((try simp); try omega)) | (with_reducible refine Below.alloc ?_ ?hs _; case hs => ((try simp); try omega)) | with_reducible refine Below.drew ?_)) (by (try simp); try omega) hc3
          obtain ⟨hx3, hy3⟩ := bcell hc3
          have t3a : w.heap.size < w3.heap.size := by have := hc3.size; (try simp at this); omega
          have t3b : w.heap.size + 1 < w3.heap.size := by have := hc3.size; (try simp at this); omega
          have t3c : w.heap.size + 1 + 1 < w3.heap.size := by have := hc3.size; (try simp at this); omega
          have t3d : w1.heap.size < w3.heap.size := by have := hc3.size; (try simp at this); omega
          have hsz3 := HB3.out.size
          clear hc3 hy3
          go_wp2_with fail
          refine (at_v t _ _ _ _ _ _ _ _ _ _ _ _ _ _ _ _ _ _ _ _ _ _ _ HS.out G3.out (by first | rfl | exact K1.out.symm) rfl rfl rfl).mono ?_
          rintro e w4 ⟨rfl, hc4⟩
          have HB4 : Hid (Below w.heap.size w w4) := below_then (by repeat (first | with_reducible exact HB3.out | (with_reducible refine Below.setCell ?_ ?hs _; case hs => ((try simp); try omega)) | (with_reducible refine Below.alloc ?_ ?hs _; case hs => ((try simp); try omega)) | with_reducible refine Below.drew ?_)) (by (try simp); try omega) hc4
          obtain ⟨hx4, hy4⟩ := bcell hc4
          have t4a : w.heap.size < w4.heap.size := by have := hc4.size; (try simp at this); omega
          have t4b : w.heap.size + 1 < w4.heap.size := by have := hc4.size; (try simp at this); omega
          have t4c : w.heap.size + 1 + 1 < w4.heap.size := by have := hc4.size; (try simp at this); omega
          have t4d : w1.heap.size < w4.heap.size := by have := hc4.size; (try simp at this); omega
          have hsz4 := HB4.out.size
          clear hc4 hy4
          go_wp2_with fail
          refine (isUpTo_b G4.out _).mono ?_
          rintro e wq ⟨rfl, hw⟩
          have hw := hw.symm
          subst hw
          go_wp2_with fail
          refine (isUpTo_b G5.out _).mono ?_
          rintro e wq ⟨rfl, hw⟩
          have hw := hw.symm
          subst hw
          go_wp2_with fail
          go_ret
          exact ⟨by rw [HF.out]; rfl, (by repeat (first | with_reducible exact HB4.out | (with_reducible refine Below.setCell ?_ ?hs _; case hs => ((try simp); try omega)) | (with_reducible refine Below.alloc ?_ ?hs _; case hs => ((try simp); try omega)) | with_reducible refine Below.drew ?_))⟩
        have G5 := (show Hid (_ = _) from g5)
        clear g5
        have HF : Hid (cgB p s t = whB t s.clock) := by unfold Hid cgB; simp [K1n.out, K2.out, K3.out, G1.out, G2.out, G3.out, G4.out, G5.out]
        go_enter Try.func91, Try.ntmps91
        go_wp2_with fail
        refine (actNext_v p _ _ _ _ t _ _ _ _ _ _ _ _ _ _ _ _ _ _ _ _ _ _ _ _ _ bn pn _ (by exact PrAt.mono HP.out (by repeat (first | with_reducible exact Below.refl _ _ | (with_reducible refine Below.setCell ?_ ?hs _; case hs => ((try simp); try omega)) | (with_reducible refine Below.alloc ?_ ?hs _; case hs => ((try simp); try omega)) | with_reducible refine Below.drew ?_))) HB0.out hbn HC0.out hpn HB0.out HC0.out).mono ?_
        rintro e w1 ⟨ad, cd, ak, ck, rfl, hb1⟩
        have HB : Hid (Below w.heap.size w w1) := below_then (by repeat (first | with_reducible exact Below.refl _ _ | (with_reducible refine Below.setCell ?_ ?hs _; case hs => ((try simp); try omega)) | (with_reducible refine Below.alloc ?_ ?hs _; case hs => ((try simp); try omega)) | with_reducible refine Below.drew ?_)) (by (try simp); try omega) hb1
        obtain ⟨hq1, hq2⟩ := bcell hb1
        have s1 : w.heap.size < w1.heap.size := by have := hb1.size; (try simp at this); omega
        have s2 : w.heap.size + 1 < w1.heap.size := by have := hb1.size; (try simp at this); omega
        have s3 : w.heap.size + 1 + 1 < w1.heap.size := by have := hb1.size; (try simp at this); omega
        have hsz := HB.out.size
        clear hb1 hq2
        go_wp2_with fail
        refine (puts_b G1.out _ (by exact PusAt.mono HR.out (by repeat (first | with_reducible exact HB.out | (with_reducible refine Below.setCell ?_ ?hs _; case hs => ((try simp); try omega)) | (with_reducible refine Below.alloc ?_ ?hs _; case hs => ((try simp); try omega)) | with_reducible refine Below.drew ?_)))).mono ?_
        rintro e w2 ⟨rfl, hc2⟩
        have HB2 : Hid (Below w.heap.size w w2) := below_then (by repeat (first | with_reducible exact HB.out | (with_reducible refine Below.setCell ?_ ?hs _; case hs => ((try simp); try omega)) | (with_reducible refine Below.alloc ?_ ?hs _; case hs => ((try simp); try omega)) | with_reducible refine Below.drew ?_)) (by (try simp); try omega) hc2
        obtain ⟨hx2, hy2⟩ := bcell hc2
        have t2a : w.heap.size < w2.heap.size := by have := hc2.size; (try simp at this); omega
        have t2b : w.heap.size + 1 < w2.heap.size := by have := hc2.size; (try simp at this); omega
        have t2c : w.heap.size + 1 + 1 < w2.heap.size := by have := hc2.size; (try simp at this); omega
        have t2d : w1.heap.size < w2.heap.size := by have := hc2.size; (try simp at this); omega
        have hsz2 := HB2.out.size
        clear hc2 hy2
        go_wp2_with fail
        refine (puts_b G2.out _ (by exact PusAt.mono HU.out (by repeat (first | with_reducible exact HB2.out | (with_reducible refine Below.setCell ?_ ?hs _; case hs => ((try simp); try omega)) | (with_reducible refine Below.alloc ?_ ?hs _; case hs => ((try simp); try omega)) | with_reducible refine Below.drew ?_)))).mono ?_
        rintro e w3 ⟨rfl, hc3⟩
        have HB3 : Hid (Below w.heap.size w w3) := below_then (by repeat (first | with_reducible exact HB2.out | (with_reducible refine Below.setCell ?_ ?hs _; case hs => ((try simp); try omega)) | (with_reducible refine Below.alloc ?_ ?hs _; case hs => ((try simp); try omega)) | with_reducible refine Below.drew ?_)) (by (try simp); try omega) hc3
        obtain ⟨hx3, hy3⟩ := bcell hc3
        have t3a : w.heap.size < w3.heap.size := by have := hc3.size; (try simp at this); omega
        have t3b : w.heap.size + 1 < w3.heap.size := by have := hc3.size; (try simp at this); omega
        have t3c : w.heap.size + 1 + 1 < w3.heap.size := by have := hc3.size; (try simp at this); omega
        have t3d : w1.heap.size < w3.heap.size := by have := hc3.size; (try simp at this); omega
        have hsz3 := HB3.out.size
        clear hc3 hy3
        go_wp2_with fail
        refine (at_v t _ _ _ _ _ _ _ _ _ _ _ _ _ _ _ _ _ _ _ _ _ _ _ HS.out G3.out (by first | rfl | exact K1.out.symm) rfl rfl rfl).mono ?_
        rintro e w4 ⟨rfl, hc4⟩
        have HB4 : Hid (Below w.heap.size w w4) := below_then (by repeat (first | with_reducible exact HB3.out | (with_reducible refine Below.setCell ?_ ?hs _; case hs => ((try simp); try omega)) | (with_reducible refine Below.alloc ?_ ?hs _; case hs => ((try simp); try omega)) | with_reducible refine Below.drew ?_)) (by (try simp); try omega) hc4
        obtain ⟨hx4, hy4⟩ := bcell hc4
        have t4a : w.heap.size < w4.heap.size := by have := hc4.size; (try simp at this); omega
        have t4b : w.heap.size + 1 < w4.heap.size := by have := hc4.size; (try simp at this); omega
        have t4c : w.heap.size + 1 + 1 < w4.heap.size := by have := hc4.size; (try simp at this); omega
        have t4d : w1.heap.size < w4.heap.size := by have := hc4.size; (try simp at this); omega
        have hsz4 := HB4.out.size
        clear hc4 hy4
        go_wp2_with fail
        refine (isUpTo_b G4.out _).mono ?_
        rintro e wq ⟨rfl, hw⟩
        have hw := hw.symm
        subst hw
        go_wp2_with fail
        refine (isUpTo_b G5.out _).mono ?_
        rintro e wq ⟨rfl, hw⟩
        have hw := hw.symm
        subst hw
        go_wp2_with fail
        refine (when_v t _ _ _ _ _ _ _ _ _ _ _ _ _ _ _ _ _ _ _ _ _ _ _ HS.out h0 h200 rfl (by first | rfl | exact K1.out.symm) rfl rfl).mono ?_
        rintro e w5 ⟨rfl, hc5⟩
        have HB5 : Hid (Below w.heap.size w w5) := below_then (by repeat (first | with_reducible exact HB4.out | (with_reducible refine Below.setCell ?_ ?hs _; case hs => ((try simp); try omega)) | (with_reducible refine Below.alloc ?_ ?hs _; case hs => ((try simp); try omega)) | with_reducible refine Below.drew ?_)) (by (try simp); try omega) hc5
        obtain ⟨hx5, hy5⟩ := bcell hc5
        have t5a : w.heap.size < w5.heap.size := by have := hc5.size; (try simp at this); omega
        have t5b : w.heap.size + 1 < w5.heap.size := by have := hc5.size; (try simp at this); omega
        have t5c : w.heap.size + 1 + 1 < w5.heap.size := by have := hc5.size; (try simp at this); omega
        have t5d : w1.heap.size < w5.heap.size := by have := hc5.size; (try simp at this); omega
        have hsz5 := HB5.out.size
        clear hc5 hy5
        go_wp2_with fail
        go_ret
        exact ⟨by rw [HF.out]; rfl, (by repeat (first | with_reducible exact HB5.out | (with_reducible refine Below.setCell ?_ ?hs _; case hs => ((try simp); try omega)) | (with_reducible refine Below.alloc ?_ ?hs _; case hs => ((try simp); try omega)) | with_reducible refine Below.drew ?_))⟩
      · have HF : Hid (cgB p s t = false) := by unfold Hid cgB; simp [k1, K2.out, k3]
        have k3' : ((acN p t).k != 1) = true := by simp [k3]
        go_enter Try.func91, Try.ntmps91
        go_wp2_with fail
        refine (actNext_v p _ _ _ _ t _ _ _ _ _ _ _ _ _ _ _ _ _ _ _ _ _ _ _ _ _ bn pn _ (by exact PrAt.mono HP.out (by repeat (first | with_reducible exact Below.refl _ _ | (with_reducible refine Below.setCell ?_ ?hs _; case hs => ((try simp); try omega)) | (with_reducible refine Below.alloc ?_ ?hs _; case hs => ((try simp); try omega)) | with_reducible refine Below.drew ?_))) HB0.out hbn HC0.out hpn HB0.out HC0.out).mono ?_
        rintro e w1 ⟨ad, cd, ak, ck, rfl, hb1⟩
        have HB : Hid (Below w.heap.size w w1) := below_then (by repeat (first | with_reducible exact Below.refl _ _ | (with_reducible refine Below.setCell ?_ ?hs _; case hs => ((try simp); try omega)) | (with_reducible refine Below.alloc ?_ ?hs _; case hs => ((try simp); try omega)) | with_reducible refine Below.drew ?_)) (by (try simp); try omega) hb1
        obtain ⟨hq1, hq2⟩ := bcell hb1
        have s1 : w.heap.size < w1.heap.size := by have := hb1.size; (try simp at this); omega
        have s2 : w.heap.size + 1 < w1.heap.size := by have := hb1.size; (try simp at this); omega
        have s3 : w.heap.size + 1 + 1 < w1.heap.size := by have := hb1.size; (try simp at this); omega
        have hsz := HB.out.size
        clear hb1 hq2
        go_wp2_with fail
        go_ret
        exact ⟨by rw [HF.out]; rfl, (by repeat (first | with_reducible exact HB.out | (with_reducible refine Below.setCell ?_ ?hs _; case hs => ((try simp); try omega)) | (with_reducible refine Below.alloc ?_ ?hs _; case hs => ((try simp); try omega)) | with_reducible refine Below.drew ?_))⟩
    · have HF : Hid (cgB p s t = false) := by unfold Hid cgB; simp [k1, k2]
      have k2' : (t.way != 0) = true := by simp [k2]
      go_enter Try.func91, Try.ntmps91
      go_wp2_with fail
      refine (actNext_v p _ _ _ _ t _ _ _ _ _ _ _ _ _ _ _ _ _ _ _ _ _ _ _ _ _ bn pn _ (by exact PrAt.mono HP.out (by repeat (first | with_reducible exact Below.refl _ _ | (with_reducible refine Below.setCell ?_ ?hs _; case hs => ((try simp); try omega)) | (with_reducible refine Below.alloc ?_ ?hs _; case hs => ((try simp); try omega)) | with_reducible refine Below.drew ?_))) HB0.out hbn HC0.out hpn HB0.out HC0.out).mono ?_
      rintro e w1 ⟨ad, cd, ak, ck, rfl, hb1⟩
      have HB : Hid (Below w.heap.size w w1) := below_then (by repeat (first | with_reducible exact Below.refl _ _ | (with_reducible refine Below.setCell ?_ ?hs _; case hs => ((try simp); try omega)) | (with_reducible refine Below.alloc ?_ ?hs _; case hs => ((try simp); try omega)) | with_reducible refine Below.drew ?_)) (by (try simp); try omega) hb1
      obtain ⟨hq1, hq2⟩ := bcell hb1
      have s1 : w.heap.size < w1.heap.size := by have := hb1.size; (try simp at this); omega
      have s2 : w.heap.size + 1 < w1.heap.size := by have := hb1.size; (try simp at this); omega
      have s3 : w.heap.size + 1 + 1 < w1.heap.size := by have := hb1.size; (try simp at this); omega
      have hsz := HB.out.size
      clear hb1 hq2
      go_wp2_with fail
      go_ret
      exact ⟨by rw [HF.out]; rfl, (by repeat (first | with_reducible exact HB.out | (with_reducible refine Below.setCell ?_ ?hs _; case hs => ((try simp); try omega)) | (with_reducible refine Below.alloc ?_ ?hs _; case hs => ((try simp); try omega)) | with_reducible refine Below.drew ?_))⟩
end Go.Proofs.Ytgbgjljflgbcaaa
