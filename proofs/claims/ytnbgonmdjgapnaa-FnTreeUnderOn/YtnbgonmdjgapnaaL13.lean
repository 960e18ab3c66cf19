import Derived.Test.YtnbgonmdjgapnaaBase36
import Derived.Test.YtnbgonmdjgapnaaA6
import Derived.Test.YtnbgonmdjgapnaaA6b
namespace Go.Proofs.Ytnbgonmdjgapnaa
open Go.RowKit
set_option linter.unusedSimpArgs false
set_option linter.unusedVariables false
set_option maxRecDepth 20000
structure TuB (B R Z Y C q : Nat) (w : World) (s : Sy) (c t l : Value) (wx : World) : Prop where
  z : SBox wx Z (.slice none 0 0) (.slice none 0 0) (.slice none 0 0) 0
  y : SBox wx Y c t l s.clock
  s : SyOn (fun b => C ≤ b) wx c t l s
  rd : RdAt B wx R q
  fr : Below w.heap.size w wx
  od : w.heap.size ≤ Z ∧ Z < R ∧ R < C ∧ C ≤ Y
theorem TuB.move {B R Z Y C q q' : Nat} {w wx W : World} {s : Sy} {c t l : Value} (h : TuB B R Z Y C q w s c t l wx) (hf : Fr R wx.heap.size wx W) (hr : RdAt B W R q') : TuB B R Z Y C q' w s c t l W := by
  have ho := h.od
  have hs := h.fr.size
  exact ⟨h.z.heap (hf.block _ h.z.lt (by omega)), h.y.heap (hf.block _ h.y.lt (by omega)), h.s.kept ⟨hf.size, fun b o hb hlt => hf.cell hlt (by have hb : C ≤ b := hb; omega)⟩, hr, h.fr.trans ((hf.mono hs).below (by omega)), ho⟩
theorem TuB.bel {B R Z Y C q : Nat} {w wx W : World} {s : Sy} {c t l : Value} (h : TuB B R Z Y C q w s c t l wx) (hf : Below wx.heap.size wx W) : TuB B R Z Y C q w s c t l W := h.move (Fr.of_below hf) (h.rd.below (hf.mono h.rd.le))
theorem TuB.fin {B R Z Y C q : Nat} {w wx : World} {s : Sy} {c t l c' t' l' : Value} {k' : Value} (h : TuB B R Z Y C q w s c t l wx) : SyOn (fun b => w.heap.size ≤ b) ((((wx.setCell ⟨Z, 0, none⟩ c').setCell ⟨Z, 1, none⟩ t').setCell ⟨Z, 2, none⟩ k').setCell ⟨Z, 3, none⟩ l') c t l s := by
  have ho := h.od
  have hn0 : ¬ (fun b => C ≤ b) Z := by show ¬ C ≤ Z; omega
  exact ((((h.s.kept (Kept.set _ _ _ _ hn0)).kept (Kept.set _ _ _ _ hn0)).kept (Kept.set _ _ _ _ hn0)).kept (Kept.set _ _ _ _ hn0)).wide (fun b hb => by have : C ≤ b := hb; show w.heap.size ≤ b; omega)
theorem TuB.fin2 {B R Z Y C q : Nat} {w wx : World} {s : Sy} {c t l c' t' l' : Value} {k' : Value} (h : TuB B R Z Y C q w s c t l wx) : Below w.heap.size w ((((wx.setCell ⟨Z, 0, none⟩ c').setCell ⟨Z, 1, none⟩ t').setCell ⟨Z, 2, none⟩ k').setCell ⟨Z, 3, none⟩ l') := by
  have ho := h.od
  exact (((h.fr.setCell ho.1 _).setCell ho.1 _).setCell ho.1 _).setCell ho.1 _
def UndR (w : World) (e : Ending) (w' : World) : Prop :=
  ∃ (pr : Pr) (s : Sy) (c t l : Value) (a b : Int), e = .returned (.tuple #[.agg #[c, t, .int .i64 s.clock, l], .int .i64 a, .int .i64 b]) ∧ SyOn (fun b => w.heap.size ≤ b) w' c t l s ∧ Off pr s ∧ Below w.heap.size w w'
set_option maxHeartbeats 8000000 in
theorem drawTreeUnder_any (a : Option Addr) (n cap : Nat) (w : World) (h : Bytes w a n) (hc : n ≤ cap) (hn : cap ≤ 9223372036854775807) :
    Calls Try.prog 42 #[.slice a n cap] w (UndR w) := by
  have HY : Hid (Bytes (w.alloc (.cells #[.slice none 0 0, .slice none 0 0, .int .i64 0, .slice none 0 0] 32)) a n) := fun i hi => by
    obtain ⟨b, off, u, e, h1, h2, h3, h4⟩ := h i hi
    exact ⟨b, off, u, e, by simp; omega, h2, h3, by rw [World.cell?_alloc_past _ _ _ h1]; exact h4⟩
  have HZ0 : Hid (SBox (w.alloc (.cells #[.slice none 0 0, .slice none 0 0, .int .i64 0, .slice none 0 0] 32)) w.heap.size (.slice none 0 0) (.slice none 0 0) (.slice none 0 0) 0) := heap_alloc_new w _
  clear h
  go_enter Try.func42, Try.ntmps42
  go_wp2_with fail
  refine (l6Open_any a n cap _ HY.out hc hn).mono ?_
  rintro e w0 ⟨rfl, hR0, hB0⟩
  have hRe : (w.alloc (.cells #[.slice none 0 0, .slice none 0 0, .int .i64 0, .slice none 0 0] 32)).heap.size = w.heap.size + 1 := by simp
  rw [hRe] at hR0 hB0
  clear hRe
  have HZ1 : Hid (SBox w0 w.heap.size (.slice none 0 0) (.slice none 0 0) (.slice none 0 0) 0) := HZ0.out.heap (hB0.block _ (by omega))
  have hs0 : w.heap.size + 2 ≤ w0.heap.size := hR0.le
  have HB0 : Hid (Below w.heap.size w w0) := ((Below.refl w.heap.size w).alloc (Nat.le_refl _) _).trans (hB0.mono (by omega))
  clear hB0 HY HZ0
  go_wp2_with fail
  refine (l71Off_any (w.heap.size + 1 + 1) (w.heap.size + 1) 0 w0 hR0 (by omega)).mono ?_
  rintro e w1 ⟨pr, s, cv, bv, c, t, l, p', rfl, hP, hS, hok, hc1, ho, _, hp2, hR1, hF1⟩
  have hn7 := ho.n
  obtain ⟨ac, cc, rfl, _⟩ := hP.1.shape
  obtain ⟨ab, cb, rfl, _⟩ := hP.2.shape
  obtain ⟨xa, xc, ya, yc, za, zc, rfl, rfl, rfl⟩ := hS.shapes
  have HO := (show Hid (Off _ _) from ho)
  have hs1 := hF1.size
  have HT0 : Hid (TuB (w.heap.size + 1 + 1) (w.heap.size + 1) w.heap.size (w1.heap.size + 1) w0.heap.size p' w s (.slice xa s.cells.length xc) (.slice ya s.tasks.length yc) (.slice za s.log.length zc) ((w1.alloc (.cells #[.slice ac pr.cells.length cc, .slice ab pr.bodies.length cb] 26)).alloc (.cells #[.slice xa s.cells.length xc, .slice ya s.tasks.length yc, .int .i64 s.clock, .slice za s.log.length zc] 32))) := by
    have hb12 : Below w1.heap.size w1 ((w1.alloc (.cells #[.slice ac pr.cells.length cc, .slice ab pr.bodies.length cb] 26)).alloc (.cells #[.slice xa s.cells.length xc, .slice ya s.tasks.length yc, .int .i64 s.clock, .slice za s.log.length zc] 32)) := ((Below.refl w1.heap.size w1).alloc (Nat.le_refl _) _).alloc (by simp) _
    have hZ2 : SBox w1 w.heap.size (.slice none 0 0) (.slice none 0 0) (.slice none 0 0) 0 := HZ1.out.heap (hF1.block _ HZ1.out.lt (by omega))
    refine ⟨hZ2.heap (hb12.block _ hZ2.lt), ?_, hS.kept (Kept.below hb12), hR1.below (hb12.mono hR1.le), (HB0.out.trans ((hF1.mono (B' := w.heap.size) (by omega)).below (by omega))).trans (hb12.mono (by omega)), by omega, by omega, by omega, by omega⟩
    unfold SBox
    simpa using heap_alloc_new (w1.alloc (.cells #[.slice ac pr.cells.length cc, .slice ab pr.bodies.length cb] 26)) (.cells #[.slice xa s.cells.length xc, .slice ya s.tasks.length yc, .int .i64 s.clock, .slice za s.log.length zc] 32)
  clear hP hS hok hc1 ho hR1 hF1 hR0 HB0 HZ1
  go_wp2_with fail
  revert HT0
  generalize ((w1.alloc (.cells #[.slice ac pr.cells.length cc, .slice ab pr.bodies.length cb] 26)).alloc (.cells #[.slice xa s.cells.length xc, .slice ya s.tasks.length yc, .int .i64 s.clock, .slice za s.log.length zc] 32)) = w2
  generalize w1.heap.size + 1 = Y
  intro HT0
  have hwn : IntKind.i64.wrap ((s.tasks.length : Int) + 1) = (s.tasks.length : Int) + 1 := by rw [IntKind.wrap_i64]; omega
  have hwm : IntKind.i64.wrap ((s.tasks.length : Int) - 1) = (s.tasks.length : Int) - 1 := by rw [IntKind.wrap_i64]; omega
  obtain ⟨⟨y0, y1, y2, y3⟩, _, hYl⟩ := HT0.out.y.cells
  go_wp2_with fail
  refine (pick_any (w.heap.size + 1 + 1) (w.heap.size + 1) p' ((s.tasks.length : Int) + 1) _ HT0.out.rd (by omega) (by omega) (by omega)).mono ?_
  rintro e wA ⟨qA, rfl, qA0, qA1, hRA, hFA⟩
  have HTA := (show Hid (TuB _ _ _ _ _ _ _ _ _ _ _ _) from HT0.out.move hFA hRA)
  clear hRA hFA
  go_wp2_with fail
  refine (pick_any (w.heap.size + 1 + 1) (w.heap.size + 1) (p' + 1) 9 _ HTA.out.rd (by omega) (by omega) (by omega)).mono ?_
  rintro e wB ⟨qB, rfl, qB0, qB1, hRB, hFB⟩
  have HTB := (show Hid (TuB _ _ _ _ _ _ _ _ _ _ _ _) from HTA.out.move hFB hRB)
  clear hRB hFB
  clear y0 y1 y2 y3 hYl
  obtain ⟨⟨y0, y1, y2, y3⟩, _, hYl⟩ := HTB.out.y.cells
  go_wp2_with fail
  refine (pick_any (w.heap.size + 1 + 1) (w.heap.size + 1) (p' + 1 + 1) ((s.tasks.length : Int) + 1) _ HTB.out.rd (by omega) (by omega) (by omega)).mono ?_
  rintro e wC ⟨qC, rfl, qC0, qC1, hRC, hFC⟩
  have HTC := (show Hid (TuB _ _ _ _ _ _ _ _ _ _ _ _) from HTB.out.move hFC hRC)
  clear hRC hFC
  go_wp2_with fail
  refine (pick_any (w.heap.size + 1 + 1) (w.heap.size + 1) (p' + 1 + 1 + 1) 9 _ HTC.out.rd (by omega) (by omega) (by omega)).mono ?_
  rintro e wD ⟨qD, rfl, qD0, qD1, hRD, hFD⟩
  have HTD := (show Hid (TuB _ _ _ _ _ _ _ _ _ _ _ _) from HTC.out.move hFD hRD)
  clear hRD hFD
  clear y0 y1 y2 y3 hYl
  have hp6 : p' ≤ 20010 := by omega
  go_wp2_with fail
  go_loopw [8, 9, 10] (fun a b i w' => ∃ (j q : Nat) (av bv : Int), i = .int .i64 j ∧ a = .int .i64 av ∧ b = .int .i64 bv ∧ j ≤ 10 ∧ q ≤ 21000 + 10 * j ∧ TuB (w.heap.size + 1 + 1) (w.heap.size + 1) w.heap.size Y w0.heap.size q w s (.slice xa s.cells.length xc) (.slice ya s.tasks.length yc) (.slice za s.log.length zc) w') (fun _ _ i _ => 10 - (intOf i).toNat)
  case atStart => exact ⟨0, _, _, _, rfl, rfl, rfl, by omega, by omega, HTD.out⟩
  clear HT0 HTA HTB HTC HTD
  case round =>
    obtain ⟨j, q, av, bv, rfl, rfl, rfl, hj, hq, ht⟩ := hrel
    have HT1 := (show Hid (TuB _ _ _ _ _ _ _ _ _ _ _ _) from ht)
    clear ht
    by_cases hj10 : j < 10
    case neg =>
      have hj' : ¬ (j : Int) < 10 := by omega
      obtain ⟨⟨z0, z1, z2, z3⟩, ⟨fz0, fz1, fz2, fz3⟩, hZl⟩ := HT1.out.z.cells
      obtain ⟨⟨y0, y1, y2, y3⟩, _, hYl⟩ := HT1.out.y.cells
      go_wp2_with fail
      (try simp only [Exit.inBlock, Exit.then])
      obtain ⟨⟨d0, d1, d2, d3⟩, _, _⟩ := (SBox.put (c' := .slice xa s.cells.length xc) (t' := .slice ya s.tasks.length yc) (l' := .slice za s.log.length zc) (k' := s.clock) HT1.out.z).cells
      clear z0 z1 z2 z3 fz0 fz1 fz2 fz3 y0 y1 y2 y3
      refine bodyPost_ret (v := .tuple #[.agg #[.slice xa s.cells.length xc, .slice ya s.tasks.length yc, .int .i64 s.clock, .slice za s.log.length zc], .int .i64 av, .int .i64 bv]) (by simp [results, Try.results42, go_sem, d0, d1, d2, d3]) rfl ?_
      exact ⟨pr, s, _, _, _, av, bv, rfl, HT1.out.fin, HO.out, HT1.out.fin2⟩
    case pos =>
    have hj' : (j : Int) < 10 := by omega
    go_wp2_with fail
    refine (pick_any (w.heap.size + 1 + 1) (w.heap.size + 1) q 12 _ HT1.out.rd (by omega) (by omega) (by omega)).mono ?_
    rintro e wE ⟨qE, rfl, qE0, qE1, hRE, hFE⟩
    have HTE := (show Hid (TuB _ _ _ _ _ _ _ _ _ _ _ _) from HT1.out.move hFE hRE)
    clear hRE hFE
    by_cases hqE : 0 < qE
    case neg =>
      obtain ⟨⟨z0, z1, z2, z3⟩, ⟨fz0, fz1, fz2, fz3⟩, hZl⟩ := HTE.out.z.cells
      obtain ⟨⟨y0, y1, y2, y3⟩, _, hYl⟩ := HTE.out.y.cells
      go_wp2_with fail
      (try simp only [Exit.inBlock, Exit.then])
      obtain ⟨⟨d0, d1, d2, d3⟩, _, _⟩ := (SBox.put (c' := .slice xa s.cells.length xc) (t' := .slice ya s.tasks.length yc) (l' := .slice za s.log.length zc) (k' := s.clock) HTE.out.z).cells
      clear z0 z1 z2 z3 fz0 fz1 fz2 fz3 y0 y1 y2 y3
      refine bodyPost_ret (v := .tuple #[.agg #[.slice xa s.cells.length xc, .slice ya s.tasks.length yc, .int .i64 s.clock, .slice za s.log.length zc], .int .i64 av, .int .i64 bv]) (by simp [results, Try.results42, go_sem, d0, d1, d2, d3]) rfl ?_
      exact ⟨pr, s, _, _, _, av, bv, rfl, HTE.out.fin, HO.out, HTE.out.fin2⟩
    case pos =>
    obtain ⟨⟨y0, y1, y2, y3⟩, _, hYl⟩ := HTE.out.y.cells
    go_wp2_with fail
    refine (sTreeUnder_any s _ _ _ _ _ _ av bv _ HTE.out.s.at.2.1 (by omega)).mono ?_
    rintro e wF ⟨rfl, hbF⟩
    have HTF := (show Hid (TuB _ _ _ _ _ _ _ _ _ _ _ _) from HTE.out.bel hbF)
    clear hbF
    clear y0 y1 y2 y3 hYl
    cases hu : undB s av bv
    case true =>
      clear hu
      obtain ⟨⟨z0, z1, z2, z3⟩, ⟨fz0, fz1, fz2, fz3⟩, hZl⟩ := HTF.out.z.cells
      obtain ⟨⟨y0, y1, y2, y3⟩, _, hYl⟩ := HTF.out.y.cells
      go_wp2_with fail
      (try simp only [Exit.inBlock, Exit.then])
      obtain ⟨⟨d0, d1, d2, d3⟩, _, _⟩ := (SBox.put (c' := .slice xa s.cells.length xc) (t' := .slice ya s.tasks.length yc) (l' := .slice za s.log.length zc) (k' := s.clock) HTF.out.z).cells
      clear z0 z1 z2 z3 fz0 fz1 fz2 fz3 y0 y1 y2 y3
      refine bodyPost_ret (v := .tuple #[.agg #[.slice xa s.cells.length xc, .slice ya s.tasks.length yc, .int .i64 s.clock, .slice za s.log.length zc], .int .i64 av, .int .i64 bv]) (by simp [results, Try.results42, go_sem, d0, d1, d2, d3]) rfl ?_
      exact ⟨pr, s, _, _, _, av, bv, rfl, HTF.out.fin, HO.out, HTF.out.fin2⟩
    case false =>
    clear hu
    obtain ⟨⟨y0, y1, y2, y3⟩, _, hYl⟩ := HTF.out.y.cells
    go_wp2_with fail
    refine (pick_any (w.heap.size + 1 + 1) (w.heap.size + 1) (q + 1) (s.tasks.length : Int) _ HTF.out.rd (by omega) (by omega) (by omega)).mono ?_
    rintro e wG ⟨qG, rfl, qG0, qG1, hRG, hFG⟩
    have HTG := (show Hid (TuB _ _ _ _ _ _ _ _ _ _ _ _) from HTF.out.move hFG hRG)
    clear hRG hFG
    obtain ⟨i, rfl⟩ : ∃ i : Nat, qG = (i : Int) := ⟨qG.toNat, by omega⟩
    have hi : i < s.tasks.length := by omega
    clear y0 y1 y2 y3 hYl
    obtain ⟨⟨y0, y1, y2, y3⟩, _, hYl⟩ := HTG.out.y.cells
    obtain ⟨_, _, e1, _, hcc⟩ := HTG.out.s.at.2.1
    injection e1 with e2 e3 e4
    subst e2 e4
    obtain ⟨b2, off2, v3, v8, v9, v10, rfl, hb2, c0, c1, c2, c3, c4, c5, c6, c7, c8, c9, c10, c11, c12, h3, h8, h9, h10⟩ := hcc i hi
    clear hcc e3 h3 h8 h9 h10 c0 c1 c3 c4 c5 c6 c7 c8 c9 c10 c11 c12
    generalize (nth Ta.z s.tasks i).up = up at c2
    go_wp2_with fail
    refine (l6In_any up 0 _ _).mono ?_
    rintro e wH ⟨rfl, hw⟩
    have hw := hw.symm
    subst hw
    cases hin : inB up 0 ((s.tasks.length : Int) - 1)
    case false =>
      clear hin
      go_wp2_with fail
      go_roundw
      case rel => exact ⟨j + 1, q + 1 + 1, i, up, by go_num, rfl, rfl, by omega, by omega, HTG.out⟩
      case measure => simp [intOf]; omega
    case true =>
    have hin2 := (inB_iff _ _ _).1 hin
    obtain ⟨k, rfl⟩ : ∃ k : Nat, up = (k : Int) := ⟨up.toNat, by omega⟩
    have hk : k < s.tasks.length := by omega
    clear hin c2
    go_wp2_with fail
    refine (pick_any (w.heap.size + 1 + 1) (w.heap.size + 1) (q + 1 + 1) 3 _ HTG.out.rd (by omega) (by omega) (by omega)).mono ?_
    rintro e wH ⟨qH, rfl, qH0, qH1, hRH, hFH⟩
    have HTH := (show Hid (TuB _ _ _ _ _ _ _ _ _ _ _ _) from HTG.out.move hFH hRH)
    clear hRH hFH
    clear y0 y1 y2 y3 hYl
    by_cases hq3 : qH = 0
    case neg =>
      have hq3b : (qH == 0) = false := by simp [hq3]
      go_wp2_with fail
      go_roundw
      case rel => exact ⟨j + 1, q + 1 + 1 + 1, i, (k : Int), by go_num, rfl, rfl, by omega, by omega, HTH.out⟩
      case measure => simp [intOf]; omega
    case pos =>
    subst hq3
    obtain ⟨⟨y0, y1, y2, y3⟩, _, hYl⟩ := HTH.out.y.cells
    obtain ⟨_, _, e1, _, hcc⟩ := HTH.out.s.at.2.1
    injection e1 with e2 e3 e4
    subst e4
    obtain ⟨b3, off3, v3, v8, v9, v10, e5, hb3, c0, c1, c2, c3, c4, c5, c6, c7, c8, c9, c10, c11, c12, h3, h8, h9, h10⟩ := hcc k hk
    rw [← e2] at e5
    injection e5 with e5
    injection e5 with e5 e6
    subst e5 e6
    clear hcc e2 e3 h3 h8 h9 h10 c0 c1 c3 c4 c5 c6 c7 c8 c9 c10 c11 c12
    have hk' : (k : Int) < (s.tasks.length : Int) := by omega
    go_wp2_with fail
    go_roundw
    case rel => exact ⟨j + 1, q + 1 + 1 + 1, i, _, by go_num, rfl, rfl, by omega, by omega, HTH.out⟩
    case measure => simp [intOf]; omega
end Go.Proofs.Ytnbgonmdjgapnaa
