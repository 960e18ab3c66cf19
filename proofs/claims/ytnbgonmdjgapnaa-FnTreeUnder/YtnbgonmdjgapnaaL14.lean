/-
  Who is under another one is not above (by mkl9.py).
-/
import Derived.Test.YtnbgonmdjgapnaaL13
namespace Go.Proofs.Ytnbgonmdjgapnaa
open Go.RowKit
set_option linter.unusedSimpArgs false
set_option linter.unusedVariables false
set_option maxRecDepth 20000

theorem und_lt (s : Sy) : ∀ (n : Nat) (a b : Int), a.toNat ≤ n → undB s a b = true → 0 ≤ b ∧ b < a ∧ plB a s.tasks.length = true ∧ (upOf s a = b ∨ undB s (upOf s a) b = true) := by
  intro n
  induction n with
  | zero =>
    intro a b hn h
    rw [undB] at h
    split at h
    · rename_i hc
      have h1 := plB_iff.1 hc.2
      omega
    · cases h
  | succ n ih =>
    intro a b hn h
    rw [undB] at h
    split at h
    · rename_i hc
      have h1 := plB_iff.1 hc.2
      split at h
      · rename_i he
        exact ⟨by omega, by omega, hc.1, .inl he⟩
      · have h2 := ih (upOf s a) b (by omega) h
        exact ⟨h2.1, by omega, hc.1, .inr h⟩
    · cases h
theorem und_lt' {s : Sy} {a b : Int} (h : undB s a b = true) : 0 ≤ b ∧ b < a ∧ plB a s.tasks.length = true ∧ (upOf s a = b ∨ undB s (upOf s a) b = true) := und_lt s _ a b (Nat.le_refl _) h
theorem und_not {s : Sy} {a b : Int} (h : b ≤ a) : undB s b a = false := by
  cases e : undB s b a
  · rfl
  · have := und_lt' e; omega
theorem und_step {s : Sy} {a b : Int} (h1 : plB a s.tasks.length = true) (h2 : plB (upOf s a) a = true) (h3 : upOf s a = b ∨ undB s (upOf s a) b = true) : undB s a b = true := by
  rw [undB, dif_pos ⟨h1, h2⟩]
  rcases h3 with h3 | h3
  · rw [if_pos h3]
  · split
    · rfl
    · exact h3
theorem und_head {s : Sy} {a b : Int} (h : undB s a b = true) : plB (upOf s a) a = true := by
  rw [undB] at h
  split at h
  · rename_i hc; exact hc.2
  · cases h
theorem und_trans (s : Sy) : ∀ (n : Nat) (a b c : Int), a.toNat ≤ n → undB s a b = true → undB s b c = true → undB s a c = true := by
  intro n
  induction n with
  | zero =>
    intro a b c hn h1 h2
    have := und_lt' h1
    omega
  | succ n ih =>
    intro a b c hn h1 h2
    have h3 := und_lt' h1
    have h4 := und_head h1
    refine und_step h3.2.2.1 h4 ?_
    have h5 := plB_iff.1 h4
    rcases h3.2.2.2 with e | e
    · rw [e]; exact .inr h2
    · exact .inr (ih (upOf s a) b c (by omega) e h2)
theorem treeUnder_b {s : Sy} {task up : Int} {q : Bool} (hq : undB s task up = q) (ac at' al : Option Addr) (cc ct cl : Nat) (w : World) (h : TasAt w (.slice at' s.tasks.length ct) s.tasks) :
    Calls Try.prog 43 #[.agg #[.slice ac s.cells.length cc, .slice at' s.tasks.length ct, .int .i64 s.clock, .slice al s.log.length cl], .int .i64 task, .int .i64 up] w fun r w' => r = .returned (.bool q) ∧ Below w.heap.size w w' := by subst hq; exact treeUnder_any s ac at' al cc ct cl task up w h
theorem sTreeUnder_b {s : Sy} {task up : Int} {q : Bool} (hq : undB s task up = q) (ac at' al : Option Addr) (cc ct cl : Nat) (w : World) (h : TasAt w (.slice at' s.tasks.length ct) s.tasks) (hn : s.tasks.length ≤ 1048576) :
    Calls Try.prog 44 #[.agg #[.slice ac s.cells.length cc, .slice at' s.tasks.length ct, .int .i64 s.clock, .slice al s.log.length cl], .int .i64 task, .int .i64 up] w fun r w' => r = .returned (.bool q) ∧ Below w.heap.size w w' := by subst hq; exact sTreeUnder_any s ac at' al cc ct cl task up w h hn
set_option maxHeartbeats 4000000 in
theorem fnTreeUnder_walk (a : Option Addr) (n cap : Nat) (w : World) (h : Bytes w a n) (hc : n ≤ cap) (hn : cap ≤ 9223372036854775807) :
    Calls Try.prog 12 #[.slice a n cap] w fun e w' => e = .returned (.bool true) ∧ Below w.heap.size w w' := by
  by_cases hbig : 1048576 < n
  · have hb' : (1048576 : Int) < (n : Int) := by omega
    clear h
    go_enter Try.func12, Try.ntmps12
    go_wp2_with fail
    go_ret
    exact ⟨rfl, Below.refl _ _⟩
  have hb' : ¬ (1048576 : Int) < (n : Int) := by omega
  have HY := (show Hid (Bytes _ _ _) from h)
  clear h
  go_enter Try.func12, Try.ntmps12
  go_wp2_with fail
  refine (drawTreeUnder_any a n cap w HY.out hc hn).mono ?_
  rintro e w1 ⟨pr, s, c, t, l, av, bv, rfl, hS, hO, hb1⟩
  obtain ⟨xa, xc, ya, yc, za, zc, rfl, rfl, rfl⟩ := hS.shapes
  have hc3 := hO.cs
  have hn7 := hO.n
  have HSV : Hid (SyAt (w1.alloc (.cells #[.slice xa s.cells.length xc, .slice ya s.tasks.length yc, .int .i64 s.clock, .slice za s.log.length zc] 32)) (.slice xa s.cells.length xc) (.slice ya s.tasks.length yc) (.slice za s.log.length zc) s ∧ SBox (w1.alloc (.cells #[.slice xa s.cells.length xc, .slice ya s.tasks.length yc, .int .i64 s.clock, .slice za s.log.length zc] 32)) w1.heap.size (.slice xa s.cells.length xc) (.slice ya s.tasks.length yc) (.slice za s.log.length zc) s.clock ∧ Below w.heap.size w (w1.alloc (.cells #[.slice xa s.cells.length xc, .slice ya s.tasks.length yc, .int .i64 s.clock, .slice za s.log.length zc] 32))) :=
    ⟨hS.at.mono ((Below.refl _ _).alloc (Nat.le_refl _) _), heap_alloc_new w1 _, hb1.alloc hb1.size _⟩
  clear hS hO hb1 HY
  go_wp2_with fail
  revert HSV
  generalize (w1.alloc (.cells #[.slice xa s.cells.length xc, .slice ya s.tasks.length yc, .int .i64 s.clock, .slice za s.log.length zc] 32)) = V
  generalize w1.heap.size = X
  intro HSV
  have HS := (show Hid (SyAt _ _ _ _ _) from HSV.out.1)
  have HX := (show Hid (SBox _ _ _ _ _ _) from HSV.out.2.1)
  have HB := (show Hid (Below _ _ _) from HSV.out.2.2)
  clear HSV
  have hXl := HX.out.lt
  obtain ⟨q, hq⟩ : ∃ q, undB s av bv = q := ⟨_, rfl⟩
  have HQ := (show Hid (_ = _) from hq)
  clear hq
  refine (treeUnder_b HQ.out _ _ _ _ _ _ _ (HS.out.2.1.mono (Below.refl V.heap.size V))).mono ?_
  rintro e w2 ⟨rfl, hb2⟩
  have H2 : Hid (Below V.heap.size V w2) := ((Below.refl V.heap.size V)).trans (hb2.mono ((Below.refl V.heap.size V)).size)
  clear hb2
  (try clear x0 x1 x2 x3)
  obtain ⟨⟨x0, x1, x2, x3⟩, _, _⟩ := (HX.out.heap (H2.out.block X hXl)).cells
  go_wp2_with fail
  refine (sTreeUnder_b HQ.out _ _ _ _ _ _ _ (HS.out.2.1.mono H2.out) (by omega)).mono ?_
  rintro e w3 ⟨rfl, hb3⟩
  have H3 : Hid (Below V.heap.size V w3) := (H2.out).trans (hb3.mono (H2.out).size)
  clear hb3
  (try clear x0 x1 x2 x3)
  obtain ⟨⟨x0, x1, x2, x3⟩, _, _⟩ := (HX.out.heap (H3.out.block X hXl)).cells
  cases q
  case false =>
    go_wp2_with fail
    refine (sTreeUnder_b HQ.out _ _ _ _ _ _ _ (HS.out.2.1.mono H3.out) (by omega)).mono ?_
    rintro e w4 ⟨rfl, hb4⟩
    have H4 : Hid (Below V.heap.size V w4) := (H3.out).trans (hb4.mono (H3.out).size)
    clear hb4
    (try clear x0 x1 x2 x3)
    obtain ⟨⟨x0, x1, x2, x3⟩, _, _⟩ := (HX.out.heap (H4.out.block X hXl)).cells
    have HF : Hid (Below w.heap.size w w4) := HB.out.trans (H4.out.mono HB.out.size)
    go_wp2_with fail
    go_ret
    exact ⟨rfl, HF.out⟩
  case true =>
  obtain ⟨g0, g1, g2, g3⟩ := und_lt' HQ.out
  have g2' := plB_iff.1 g2
  have HN : Hid (undB s bv av = false) := und_not (by omega)
  obtain ⟨i, rfl⟩ : ∃ i : Nat, av = (i : Int) := ⟨av.toNat, by omega⟩
  have hi : i < s.tasks.length := by omega
  have hi' : (i : Int) < (s.tasks.length : Int) := by omega
  have H3' := H3.out
  obtain ⟨_, _, e1, _, hcc⟩ := HS.out.2.1.mono H3'
  injection e1 with e2 e3 e4
  subst e4
  obtain ⟨b2, off2, v3, v8, v9, v10, e5, hb2, c0, c1, c2, c3, c4, c5, c6, c7, c8, c9, c10, c11, c12, h3, h8, h9, h10⟩ := hcc i hi
  rw [← e2] at e5
  subst e5
  have HUP : Hid ((nth Ta.z s.tasks i).up = bv ∨ undB s (nth Ta.z s.tasks i).up bv = true) := g3
  clear hcc e2 e3 h3 h8 h9 h10 c0 c1 c3 c4 c5 c6 c7 c8 c9 c10 c11 c12 g2 g2' g3 H3'
  revert c2 HUP
  generalize (nth Ta.z s.tasks i).up = up
  intro c2 HUP
  go_wp2_with fail
  refine (treeUnder_b HN.out _ _ _ _ _ _ _ (HS.out.2.1.mono H3.out)).mono ?_
  rintro e w5 ⟨rfl, hb5⟩
  have H5 : Hid (Below V.heap.size V w5) := (H3.out).trans (hb5.mono (H3.out).size)
  clear hb5
  (try clear x0 x1 x2 x3)
  obtain ⟨⟨x0, x1, x2, x3⟩, _, _⟩ := (HX.out.heap (H5.out.block X hXl)).cells
  clear c2
  by_cases he : up = bv
  · subst he
    have HF : Hid (Below w.heap.size w w5) := HB.out.trans (H5.out.mono HB.out.size)
    go_wp2_with fail
    go_ret
    exact ⟨rfl, HF.out⟩
  · have heb : (up == bv) = false := by simp [he]
    have HU2 : Hid (undB s up bv = true) := by rcases HUP.out with h | h; exact absurd h he; exact h
    go_wp2_with fail
    refine (treeUnder_b HU2.out _ _ _ _ _ _ _ (HS.out.2.1.mono H5.out)).mono ?_
    rintro e w6 ⟨rfl, hb6⟩
    have H6 : Hid (Below V.heap.size V w6) := (H5.out).trans (hb6.mono (H5.out).size)
    clear hb6
    (try clear x0 x1 x2 x3)
    obtain ⟨⟨x0, x1, x2, x3⟩, _, _⟩ := (HX.out.heap (H6.out.block X hXl)).cells
    have HF : Hid (Below w.heap.size w w6) := HB.out.trans (H6.out.mono HB.out.size)
    go_wp2_with fail
    go_ret
    exact ⟨rfl, HF.out⟩

end Go.Proofs.Ytnbgonmdjgapnaa
