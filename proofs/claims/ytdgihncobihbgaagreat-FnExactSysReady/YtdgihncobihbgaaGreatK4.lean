/-
  Tasks in form: the program (by mky.py).
-/
import Derived.Test.YtdgihncobihbgaaGreatK3
import Derived.Test.YtdgihncobihbgaaGreatJ3
namespace Go.Proofs.YtdgihncobihbgaaGreat
open Go.RowKit
set_option linter.unusedSimpArgs false
set_option linter.unusedVariables false
set_option maxRecDepth 20000

theorem isPlace_b {n e : Int} {b : Bool} (h : plB n e = b) (w : World) : Calls Tryz.prog 77 #[.int .i64 n, .int .i64 e] w fun r w' => r = .returned (.bool b) ∧ w' = w := by subst h; exact isPlace_any n e w
theorem isUpTo_b {n e : Int} {b : Bool} (h : inB n 0 e = b) (w : World) : Calls Tryz.prog 39 #[.int .i64 n, .int .i64 e] w fun r w' => r = .returned (.bool b) ∧ w' = w := by subst h; exact isUpTo_any n e w
theorem regs_b {v : Value} {xs : List Int} {b : Bool} (h : rgB xs = b) (w : World) (hi : IntsAt w v xs) : Calls Tryz.prog 97 #[v] w fun r w' => r = .returned (.bool b) ∧ w' = w := by subst h; exact regsInForm_rg v xs w hi

set_option maxHeartbeats 1000000 in
theorem actNext_g (p : Pr) (pa0 pa1 : Option Addr) (pc0 pc1 : Nat) (t : Ta) (x2 x4 x5 x6 x7 x11 x12 : Int) (n3 n8 n9 n10 : Nat) (a3 a8 a9 a10 : Option Addr) (c3 c8 c9 c10 : Nat) (bn pn : Nat) (w : World) (hp : PrAt w (.slice pa0 p.cells.length pc0) (.slice pa1 p.bodies.length pc1) p) (hb : t.body = (bn : Int)) (hbn : bn < p.bodies.length) (hpc : t.pc = (pn : Int)) (hpn : pn ≤ (nth [] p.bodies bn).length) :
    Calls Tryz.prog 99 #[.agg #[.slice pa0 p.cells.length pc0, .slice pa1 p.bodies.length pc1], .agg #[.int .i64 (bn : Int), .int .i64 (pn : Int), .int .i64 x2, .slice a3 n3 c3, .int .i64 x4, .int .i64 x5, .int .i64 x6, .int .i64 x7, .slice a8 n8 c8, .slice a9 n9 c9, .slice a10 n10 c10, .int .i64 x11, .int .i64 x12]] w fun r w' => ∃ ad cd ak ck, r = .returned (.agg #[.int .i64 (acN p t).k, .slice ad (acN p t).ds.length cd, .slice ak (acN p t).ks.length ck, .int .i64 (acN p t).r]) ∧ Below w.heap.size w w' := by
  obtain ⟨a, cap, e, hm, hc⟩ := hp.2
  injection e with e1 e2 e3
  subst e1 e3
  obtain ⟨b, off, av, rfl, hbw, c0, ha⟩ := hc bn hbn
  obtain ⟨aa, ac, hav, hma, hac⟩ := ha
  subst hav
  have hA : acts p t = nth [] p.bodies bn := by unfold acts; rw [hb]; rfl
  have hbw1 : b < w.heap.size + 1 := by omega
  have hbw2' : b < w.heap.size + 1 + 1 := by omega
  have hbl : (bn : Int) < (p.bodies.length : Int) := by omega
  have hal : (nth [] p.bodies bn).length ≤ 9223372036854775807 := hma
  clear hc hp
  by_cases he : pn = (nth [] p.bodies bn).length
  · have HN : Hid (acN p t = Ac.z) := by unfold Hid acN; rw [if_pos (by rw [hA, hpc, he])]
    have he' : ((pn : Int) == ((nth [] p.bodies bn).length : Int)) = true := by rw [he]; simp
    have he2 : (pn : Int) = ((nth [] p.bodies bn).length : Int) := by rw [he]
    clear hac hpc hA he
    rw [HN.out]
    go_enter Tryz.func99, Tryz.ntmps99
    go_wp2_with fail
    refine bodyPost_ret (v := .agg #[.int .i64 0, .slice none 0 0, .slice none 0 0, .int .i64 0]) (by simp [results, Tryz.results99, go_sem]) rfl ⟨⟨none, 0, none, 0, rfl⟩, (by repeat (first | with_reducible exact Below.refl _ _ | (with_reducible refine Below.setCell ?_ ?hs _; case hs => ((try simp); try omega)) | (with_reducible refine Below.alloc ?_ ?hs _; case hs => ((try simp); try omega)) | with_reducible refine Below.drew ?_))⟩
  · have hlt : pn < (nth [] p.bodies bn).length := by omega
    obtain ⟨b2, off2, dv, kv, rfl, hbw2, d0, d1, d2, d3, hd, hk⟩ := hac pn hlt
    obtain ⟨ad, cd, rfl, _⟩ := hd.shape
    obtain ⟨ak, ck, rfl, _⟩ := hk.shape
    have hbx1 : b2 < w.heap.size + 1 := by omega
    have hbx2 : b2 < w.heap.size + 1 + 1 := by omega
    have HN : Hid (acN p t = nth Ac.z (nth [] p.bodies bn) pn) := by unfold Hid acN; rw [if_neg (by rw [hA, hpc]; omega), hA, hpc]; rfl
    have he' : ((pn : Int) == ((nth [] p.bodies bn).length : Int)) = false := by simp; omega
    have he2 : ¬ (pn : Int) = ((nth [] p.bodies bn).length : Int) := by omega
    have hlt' : (pn : Int) < ((nth [] p.bodies bn).length : Int) := by omega
    clear hac hA hd hk he
    rw [HN.out]
    go_enter Tryz.func99, Tryz.ntmps99
    go_wp2_with fail
    refine bodyPost_ret (v := .agg #[.int .i64 (nth Ac.z (nth [] p.bodies bn) pn).k, .slice ad (nth Ac.z (nth [] p.bodies bn) pn).ds.length cd, .slice ak (nth Ac.z (nth [] p.bodies bn) pn).ks.length ck, .int .i64 (nth Ac.z (nth [] p.bodies bn) pn).r]) (by simp [results, Tryz.results99, go_sem]) rfl ⟨⟨ad, cd, ak, ck, rfl⟩, (by repeat (first | with_reducible exact Below.refl _ _ | (with_reducible refine Below.setCell ?_ ?hs _; case hs => ((try simp); try omega)) | (with_reducible refine Below.alloc ?_ ?hs _; case hs => ((try simp); try omega)) | with_reducible refine Below.drew ?_))⟩

theorem actNext_v (p : Pr) (pa0 pa1 : Option Addr) (pc0 pc1 : Nat) (t : Ta) (x0 x1 x2 x4 x5 x6 x7 x11 x12 : Int) (n3 n8 n9 n10 : Nat) (a3 a8 a9 a10 : Option Addr) (c3 c8 c9 c10 : Nat) (bn pn : Nat) (w : World) (hp : PrAt w (.slice pa0 p.cells.length pc0) (.slice pa1 p.bodies.length pc1) p) (hb : t.body = (bn : Int)) (hbn : bn < p.bodies.length) (hpc : t.pc = (pn : Int)) (hpn : pn ≤ (nth [] p.bodies bn).length) (h0 : x0 = (bn : Int)) (h1 : x1 = (pn : Int)) :
    Calls Tryz.prog 99 #[.agg #[.slice pa0 p.cells.length pc0, .slice pa1 p.bodies.length pc1], .agg #[.int .i64 x0, .int .i64 x1, .int .i64 x2, .slice a3 n3 c3, .int .i64 x4, .int .i64 x5, .int .i64 x6, .int .i64 x7, .slice a8 n8 c8, .slice a9 n9 c9, .slice a10 n10 c10, .int .i64 x11, .int .i64 x12]] w fun r w' => ∃ ad cd ak ck, r = .returned (.agg #[.int .i64 (acN p t).k, .slice ad (acN p t).ds.length cd, .slice ak (acN p t).ks.length ck, .int .i64 (acN p t).r]) ∧ Below w.heap.size w w' := by
  subst h0 h1
  exact actNext_g p pa0 pa1 pc0 pc1 t x2 x4 x5 x6 x7 x11 x12 n3 n8 n9 n10 a3 a8 a9 a10 c3 c8 c9 c10 bn pn w hp hb hbn hpc hpn


end Go.Proofs.YtdgihncobihbgaaGreat
