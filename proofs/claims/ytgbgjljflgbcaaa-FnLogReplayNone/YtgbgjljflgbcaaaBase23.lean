import Derived.Test.YtgbgjljflgbcaaaBase22
import Derived.Deep.LoopGhost
import Derived.Test.YtgbgjljflgbcaaaBase05
namespace Go.Proofs.Ytgbgjljflgbcaaa
open Go.RowKit
set_option linter.unusedSimpArgs false
set_option linter.unusedVariables false
set_option maxRecDepth 20000
theorem okB_cells {p : Pr} (h : okB p = true) : p.cells.length ≤ 4 := by
  simp only [okB, foB, csB, Bool.and_eq_true, inB_iff, decide_eq_true_eq] at h
  omega
theorem wr_left {s : Sy} {i : Nat} (hi : i < s.tasks.length) (h5 : (tkN (writeS s i) i).stage = 5) : (tkN (writeS s i) i).puts = (tkN s i).puts ∧ (tkN (writeS s i) i).at_ = (tkN s i).at_ + 1 := by
  have ET : tkN (write1 s i) i = { tkN s i with at_ := (tkN s i).at_ + 1 } := tkN_same (s := { s with cells := _ }) hi
  have hl : i < (write1 s i).tasks.length := by unfold write1; rw [setTk_len]; exact hi
  unfold writeS at h5 ⊢
  by_cases e : (tkN s i).at_ + 1 = (tkN s i).puts.length
  · rw [if_pos e] at h5
    have e2 : tkN (endS (write1 s i) i (tkN s i).when_) i = endT (tkN (write1 s i) i) := tkN_same (s := { write1 s i with log := _ }) hl
    rw [e2] at h5
    exact absurd h5 (by show ¬ (0 : Int) = 5; omega)
  · rw [if_neg e, ET]; exact ⟨rfl, rfl⟩
theorem wrAll_stop {s : Sy} {i : Nat} (h : (tkN s i).stage ≠ 5) (n : Nat) : wrAll n s i = s := by
  cases n with
  | zero => rfl
  | succ n => unfold wrAll; rw [if_neg h]
set_option maxHeartbeats 8000000 in
theorem off_any (X B : Nat) (pc pb : Value) (p : Pr) (fu : Nat) : ∀ (s : Sy) (i : Nat) (w : World) (h : SW X B w pc pb p s) (hi : i < s.tasks.length) (hnp : Np p s) (hbd : Bd p s) (hf : s.tasks.length ≤ i + fu),
    Calls Try.prog 157 #[.pointer (some ⟨X, 0, none⟩), .int .i64 (i : Int)] w fun r w' => r = .returned (.tuple #[]) ∧ SW X B w' pc pb p (offS fu s i) ∧ FrS (SX X B) w w' := by
  induction fu with
  | zero => intro s i w h hi hnp hbd hf; omega
  | succ fu ih =>
    intro s i w h hi hnp hbd hf
    have IH := (show Hid (∀ s, _) from ih)
    have HS0 := (show Hid (SW _ _ _ _ _ _ _) from h)
    have HNP := (show Hid (Np _ _) from hnp)
    have HBD := (show Hid (Bd _ _) from hbd)
    have hl30 : s.tasks.length ≤ 7 := hbd.n7
    clear ih h hnp hbd
    go_enter Try.func157, Try.ntmps157
    go_wp2_with fail
    go_loopw [4] (fun q w' => ∃ k : Nat, k ≤ s.tasks.length ∧ q = .int .i64 k ∧ SW X B w' pc pb p (kidsS (offS fu) s i k) ∧ FrS (SX X B) w w') (fun q _ => s.tasks.length - (intOf q).toNat)
    case atStart => exact ⟨0, Nat.zero_le _, rfl, by rw [show kidsS (offS fu) s i 0 = s from rfl]; exact HS0.out, FrS.refl _ _⟩
    case round =>
      obtain ⟨k, hk, rfl, hs, hfr⟩ := hrel
      have hl : (kidsS (offS fu) s i k).tasks.length = s.tasks.length := kidsS_len (offS_len fu) s i k
      have n1 : Hid (Np p (kidsS (offS fu) s i k)) := Np.kids (offS_len fu) (fun s k h hk => h.offS fu hk) HNP.out i k hk
      have b1 : Hid (Bd p (kidsS (offS fu) s i k)) := HBD.out.mono (Lq.kids (offS_len fu) (fun s k h hk => h.offS fu hk) (fun s k h hk => Lq.offS fu h hk) HNP.out i k hk)
      have HE : Hid (kidsS (offS fu) s i (k + 1) = if (tkN (kidsS (offS fu) s i k) k).up = i then offS fu (kidsS (offS fu) s i k) k else kidsS (offS fu) s i k) := kidsS_succ _ _ _ _
      have HO : Hid (k = s.tasks.length → offS (fu + 1) s i = offB (kidsS (offS fu) s i k) i) := fun e => by rw [e]; rfl
      have HFR := (show Hid (FrS _ _ _) from hfr)
      clear hfr HS0 HNP HBD
      revert hs hl n1 b1 HE HO
      generalize kidsS (offS fu) s i k = s1
      intro hs hl n1 b1 HE HO
      have hi1 : i < s1.tasks.length := by omega
      by_cases hlt : k < s.tasks.length
      · have hk1 : k < s1.tasks.length := by omega
        have hk1' : (k : Int) < (s1.tasks.length : Int) := by omega
        have hup : Hid ((tkN s1 k).up = i → i < k) := fun e => by
          have := (n1.out.t k hk1).up
          by_cases hz : k = 0
          · have := this.1 hz; omega
          · have := (this.2 (by omega)).2; omega
        obtain ⟨f, cv, g, cap, lv, T, L, V, h1, h2, h3, h4, h5, h6, h7, h8, h9⟩ := hs.tk hk1
        obtain ⟨a3, c3, a8, c8, a9, c9, a10, c10, rfl⟩ := h7.ti.shapes
        obtain ⟨t0, t1, t2, t3, t4, t5, t6, t7, t8, t9, t10, t11, t12⟩ := h7.cells
        simp only at t3 t8 t9 t10
        have tz := h7.fz
        have hi' : (i : Int) < (s1.tasks.length : Int) := by omega
        have hX := hs.lt
        have hB := hs.le
        have hgB := h7.ge
        have hgl := h7.lt
        have hXl : X < wr.heap.size := by omega
        have hXg : X ≠ g := by omega
        have HTI := (show Hid (TIn _ _ _ _ _) from h7.ti)
        have HK := (show Hid (f g = .t ∧ ∀ b, cv.ownBlock = some b → f b = .c) from ⟨h7.key, h1.c.2⟩)
        have HS := (show Hid (SW _ _ _ _ _ _ _) from hs)
        clear h1 h2 h3 h7 h8 h9 hs
        clear t0 t1 t3 t4 t5 t6 t7 t8 t9 t10 t11 t12
        have hwr : IntKind.i64.wrap ((k : Int) + 1) = (k : Int) + 1 := by rw [IntKind.wrap_i64]; omega
        by_cases qu : (tkN s1 k).up = (i : Int)
        · have qu' : ((tkN s1 k).up == (i : Int)) = true := by simp [qu]
          have QU := (show Hid (_ = _) from qu)
          clear qu
          go_wp2_with fail
          refine (IH.out s1 k _ HS.out hk1 n1.out b1.out (by have := hup.out QU.out; omega)).mono ?_
          rintro e w2 ⟨rfl, hs2, hf2⟩
          have HS2 := (show Hid (SW _ _ _ _ _ _ _) from hs2)
          have HF2 : Hid (FrS (SX X B) w w2) := HFR.out.trans hf2
          clear hs2 hf2
          go_wp2_with fail
          go_roundw
          case rel => exact ⟨k + 1, by omega, by go_num, by rw [HE.out, if_pos QU.out]; exact HS2.out, HF2.out⟩
          case measure => simp [intOf]; omega
        · have qu' : ((tkN s1 k).up == (i : Int)) = false := by simp [qu]
          have QU := (show Hid (¬ _) from qu)
          clear qu
          go_wp2_with fail
          go_roundw
          case rel => exact ⟨k + 1, by omega, by go_num, by rw [HE.out, if_neg QU.out]; exact HS.out, HFR.out⟩
          case measure => simp [intOf]; omega
      · have HO1 : Hid (offS (fu + 1) s i = offB s1 i) := HO.out (by omega)
        have hk2 : ¬ (k : Int) < (s1.tasks.length : Int) := by omega
        have hp4 : Hid ((tkN s1 i).puts.length ≤ 4) := by have := puB_len (n1.out.t i hi1).puts; have := okB_cells n1.out.ok; unfold Hid; omega
        clear HE HO
        obtain ⟨f, cv, g, cap, lv, T, L, V, h1, h2, h3, h4, h5, h6, h7, h8, h9⟩ := hs.tk hi1
        obtain ⟨a3, c3, a8, c8, a9, c9, a10, c10, rfl⟩ := h7.ti.shapes
        obtain ⟨t0, t1, t2, t3, t4, t5, t6, t7, t8, t9, t10, t11, t12⟩ := h7.cells
        simp only at t3 t8 t9 t10
        have tz := h7.fz
        have hi' : (i : Int) < (s1.tasks.length : Int) := by omega
        have hX := hs.lt
        have hB := hs.le
        have hgB := h7.ge
        have hgl := h7.lt
        have hXl : X < wr.heap.size := by omega
        have hXg : X ≠ g := by omega
        have HTI := (show Hid (TIn _ _ _ _ _) from h7.ti)
        have HK := (show Hid (f g = .t ∧ ∀ b, cv.ownBlock = some b → f b = .c) from ⟨h7.key, h1.c.2⟩)
        have HS := (show Hid (SW _ _ _ _ _ _ _) from hs)
        clear h1 h2 h3 h7 h8 h9 hs
        clear t0 t1 t2 t3 t6 t7 t8 t9 t10 t11 t12
        by_cases qw : (tkN s1 i).way ≠ 0 ∧ (tkN s1 i).way ≠ 1
        · have HF : Hid (offS (fu + 1) s i = s1) := by unfold Hid; rw [HO1.out]; unfold offB; rw [if_pos qw]
          have qw0 : ((tkN s1 i).way != 0) = true := by simp [qw.1]
          have qw1 : ((tkN s1 i).way != 1) = true := by simp [qw.2]
          clear qw HO1
          go_wp2_with fail
          ((try simp only [Exit.inBlock, Exit.then]); refine bodyPost_ret (results_none rfl _ _ _) rfl ?_)
          exact ⟨rfl, by rw [HF.out]; exact HS.out, HFR.out⟩
        · have HF : Hid (offS (fu + 1) s i = setTk (if (tkN (wrAll 4 s1 i) i).stage ≠ 0 then againS (wrAll 4 s1 i) i else wrAll 4 s1 i) i { tkN (if (tkN (wrAll 4 s1 i) i).stage ≠ 0 then againS (wrAll 4 s1 i) i else wrAll 4 s1 i) i with way := 4 }) := by unfold Hid; rw [HO1.out]; unfold offB; rw [if_neg qw]
          have qw2 : (tkN s1 i).way = 0 ∨ (tkN s1 i).way = 1 := by omega
          clear qw HO1
          rcases qw2 with qw | qw
          all_goals
            rw [qw] at t4
            clear qw
            go_wp2_with fail
            go_loopg [] 4 (fun gk w' => ∃ s2 : Sy, SW X B w' pc pb p s2 ∧ FrS (SX X B) w w' ∧ wrAll gk s2 i = wrAll 4 s1 i ∧ Np p s2 ∧ Bd p s2 ∧ s2.tasks.length = s1.tasks.length ∧ ((tkN s2 i).stage = 5 → (tkN s2 i).puts.length ≤ gk + (tkN s2 i).at_.toNat))
            case atStart => exact ⟨s1, HS.out, HFR.out, rfl, n1.out, b1.out, rfl, fun _ => by have := hp4.out; omega⟩
            case round =>
              obtain ⟨s2, hs2, hf2, hw2, n2, b2, l2, m2⟩ := hrel
              clear t4 t5 tz h4 h5 h6 hi' hX hB hgB hgl hXl hXg HTI HK HS
              have HN2 := (show Hid (Np _ _) from n2)
              have HB2 := (show Hid (Bd _ _) from b2)
              have HF2 := (show Hid (FrS _ _ _) from hf2)
              have hT := n2.t i (by omega)
              have M2 := (show Hid (_ → _) from m2)
              have H55 := (show Hid (_ → _) from fun e => (hT.five e).2)
              have hold : Hid ((tkN s2 i).old.length = 3) := (rgB_iff.1 hT.old).1
              have hn2 : s2.cells.length ≤ 1048576 := by have := n2.cs; have := okB_cells n2.ok; omega
              have hln2 : s2.log.length ≤ 1048576 := by have := n2.l28 b2; omega
              have HW2 := (show Hid (_ = _) from hw2)
              have hi2 : i < s2.tasks.length := by omega
              clear n2 b2 hf2 hT m2 hw2
              obtain ⟨fr, cvr, gr, capr, lvr, Tr, Lr, Vr, h1, h2, h3, h4r, h5r, h6r, h7, h8, h9⟩ := hs2.tk hi2
              obtain ⟨a3r, c3r, a8r, c8r, a9r, c9r, a10r, c10r, rfl⟩ := h7.ti.shapes
              obtain ⟨t0r, t1r, t2r, t3r, t4r, t5r, t6r, t7r, t8r, t9r, t10r, t11r, t12r⟩ := h7.cells
              simp only at t3r t8r t9r t10r
              have tzr := h7.fz
              have hi'r : (i : Int) < (s2.tasks.length : Int) := by omega
              have hXr := hs2.lt
              have hBr := hs2.le
              have hgBr := h7.ge
              have hglr := h7.lt
              have hXlr : X < wr.heap.size := by omega
              have hXgr : X ≠ gr := by omega
              have HTIr := (show Hid (TIn _ _ _ _ _) from h7.ti)
              have HKr := (show Hid (fr gr = .t ∧ ∀ b, cvr.ownBlock = some b → fr b = .c) from ⟨h7.key, h1.c.2⟩)
              have HSr := (show Hid (SW _ _ _ _ _ _ _) from hs2)
              clear h1 h2 h3 h7 h8 h9 hs2
              clear t0r t1r t2r t3r t6r t7r t8r t9r t10r t11r t12r
              by_cases q5 : (tkN s2 i).stage = 5
              · have q5' : ((tkN s2 i).stage == 5) = true := by simp [q5]
                have Q5 := (show Hid (_ = _) from q5)
                have hg : 0 < gk := by have := M2.out q5; have := H55.out q5; omega
                clear q5
                go_wp2_with fail
                refine (write_any X B pc pb p s2 i _ HSr.out hi2 HN2.out Q5.out hn2 hln2).mono ?_
                rintro e w3 ⟨rfl, hs3, hf3⟩
                have HS3 := (show Hid (SW _ _ _ _ _ _ _) from hs3)
                have HF3 : Hid (FrS (SX X B) w w3) := HF2.out.trans hf3
                clear hs3 hf3
                go_wp2_with fail
                go_roundg (gk - 1)
                case measure => omega
                case rel =>
                  refine ⟨writeS s2 i, HS3.out, HF3.out, ?_, HN2.out.write hi2 Q5.out, HB2.out.mono (Lq.write HN2.out hi2), by rw [writeS_len]; exact l2, fun e5 => ?_⟩
                  · rw [← HW2.out]
                    obtain ⟨g', rfl⟩ : ∃ g', gk = g' + 1 := ⟨gk - 1, by omega⟩
                    show wrAll g' _ i = (if (tkN s2 i).stage = 5 then _ else _)
                    rw [if_pos Q5.out]
                  · obtain ⟨a1, a2⟩ := wr_left hi2 e5
                    rw [a1, a2]
                    have := M2.out Q5.out
                    have := H55.out Q5.out
                    omega
              · have q5' : ((tkN s2 i).stage == 5) = false := by simp [q5]
                have HW : wrAll 4 s1 i = s2 := HW2.out.symm.trans (wrAll_stop q5 gk)
                rw [HW] at HF
                clear HW HW2 q5 M2 H55
                by_cases q0 : (tkN s2 i).stage = 0
                · have q0' : ((tkN s2 i).stage != 0) = false := by simp [q0]
                  have HG : Hid (offS (fu + 1) s i = setTk s2 i { tkN s2 i with way := 4 }) := by unfold Hid; rw [HF.out, if_neg (by simp [q0])]
                  clear q0 HF
                  go_wp2_with fail
                  go_end0
                  exact ⟨rfl, by rw [HG.out]; exact HSr.out.scs [(4, 4)] rfl h5r hi2, HF2.out.setCell (Or.inr hgBr) _⟩
                · have q0' : ((tkN s2 i).stage != 0) = true := by simp [q0]
                  have HG : Hid (offS (fu + 1) s i = setTk (againS s2 i) i { tkN (againS s2 i) i with way := 4 }) := by unfold Hid; rw [HF.out, if_pos q0]
                  clear q0 HF
                  go_wp2_with fail
                  refine (again_any X B pc pb p s2 i _ HSr.out hi2 hn2 hold.out).mono ?_
                  rintro e w5 ⟨rfl, A5, hf5⟩
                  have F5 : Hid (FrS (SX X B) w w5) := HF2.out.trans hf5
                  have hi5 : i < (againS s2 i).tasks.length := by rw [againS_len]; exact hi2
                  clear hf5
                  revert A5 HG hi5
                  generalize againS s2 i = s5
                  intro HG A5 hi5
                  obtain ⟨fq, cvq, gq, capq, lvq, Tq, Lq, Vq, h1, h2, h3, h4q, h5q, h6q, h7, h8, h9⟩ := A5.tk hi5
                  obtain ⟨a3q, c3q, a8q, c8q, a9q, c9q, a10q, c10q, rfl⟩ := h7.ti.shapes
                  obtain ⟨t0q, t1q, t2q, t3q, t4q, t5q, t6q, t7q, t8q, t9q, t10q, t11q, t12q⟩ := h7.cells
                  simp only at t3q t8q t9q t10q
                  have tzq := h7.fz
                  have hi'q : (i : Int) < (s5.tasks.length : Int) := by omega
                  have hXq := A5.lt
                  have hBq := A5.le
                  have hgBq := h7.ge
                  have hglq := h7.lt
                  have hXlq : X < w5.heap.size := by omega
                  have hXgq : X ≠ gq := by omega
                  have HTIq := (show Hid (TIn _ _ _ _ _) from h7.ti)
                  have HKq := (show Hid (fq gq = .t ∧ ∀ b, cvq.ownBlock = some b → fq b = .c) from ⟨h7.key, h1.c.2⟩)
                  have HSq := (show Hid (SW _ _ _ _ _ _ _) from A5)
                  clear h1 h2 h3 h7 h8 h9 A5
                  clear t0q t1q t2q t3q t5q t6q t7q t8q t9q t10q t11q t12q
                  go_wp2_with fail
                  go_end0
                  exact ⟨rfl, by rw [HG.out]; exact HSq.out.scs [(4, 4)] rfl h5q hi5, F5.out.setCell (Or.inr hgBq) _⟩
end Go.Proofs.Ytgbgjljflgbcaaa

namespace Go.Proofs.Ytgbgjljflgbcaaa
open Go.RowKit
set_option linter.unusedSimpArgs false
set_option linter.unusedVariables false
set_option maxRecDepth 20000
theorem SW.taskA {X B : Nat} {w0 w1 w2 : World} {pc pb : Value} {p : Pr} {s : Sy} (h : SW X B w0 pc pb p s) (hb : Below w0.heap.size w0 w1) {f f' : Nat → Key} {cv tv lv tv' : Value} {T : List TT} {L : List EE} (ho : OwnSy f B w0 cv tv lv s.cells T L) (hT : T.map (·.1) = s.tasks) (hL : L.map (·.1) = s.log) (k2 : w0.cell? ⟨X, 2, none⟩ = some cv) (k5 : w0.cell? ⟨X, 5, none⟩ = some lv)
    {t : Ta} {V : TV} (hfo : ∀ g, g < w0.heap.size → f' g = f g) (hti : TIn f' B w1 T.length (t, V))
    (hl : w2.ownsRow B 70 13 tv' (T.length + 1) (T.flatMap taC ++ taC (t, V))) (hg : w1.grownBy w2 tv.ownBlock) (hlb : ∀ g, tv'.ownBlock = some g → tv.ownBlock = some g ∨ w1.heap.size ≤ g) :
    SW X B (w2.setCell ⟨X, 3, none⟩ tv') pc pb p { s with tasks := s.tasks ++ [t] } := by
  have hXl : X < w0.heap.size := by have := h.le; have := h.lt; omega
  have hX1 : X < w1.heap.size := Nat.lt_of_lt_of_le hXl hb.size
  have hlv : ∀ g, tv.ownBlock = some g → B ≤ g ∧ g < w0.heap.size ∧ f g = .t := fun g hg => ⟨(ho.t.1.lt g hg).1, (ho.t.1.lt g hg).2, ho.t.2 g hg⟩
  have hne : some X ≠ tv.ownBlock := fun e => by have := (hlv X e.symm).1; have := h.lt; omega
  have bl : ∀ k, k < w0.heap.size → f k ≠ .t → w2.heap[k]? = w0.heap[k]? := fun k hk hf => by
    rw [hg.block k (Nat.lt_of_lt_of_le hk hb.size) (fun e => hf (hlv k e.symm).2.2)]
    exact hb.block k hk
  have cl : ∀ o, w2.cell? ⟨X, o, none⟩ = w0.cell? ⟨X, o, none⟩ := fun o => World.cell?_of_block ((hg.block X hX1 hne).trans (hb.block X hXl))
  have fl : ∀ o, w2.frozen? ⟨X, o, none⟩ = w0.frozen? ⟨X, o, none⟩ := fun o => World.frozen?_of_block ((hg.block X hX1 hne).trans (hb.block X hXl))
  have hsz : w0.heap.size ≤ w2.heap.size := Nat.le_trans hb.size hg.size
  have H := ho.addT (f' := fun b => if b < w1.heap.size then f' b else .t) (w' := w2) (tv' := tv') (t, V) (fun b _ hb1 => (if_pos (Nat.lt_of_lt_of_le hb1 hb.size)).trans (hfo b hb1)) (fun b _ hb1 hf => bl b hb1 hf)
    ⟨hl, fun g hg' => by
      rcases hlb g hg' with h1 | h1
      · show (if g < w1.heap.size then f' g else _) = _
        rw [if_pos (Nat.lt_of_lt_of_le (hlv g h1).2.1 hb.size), hfo g (hlv g h1).2.1]; exact (hlv g h1).2.2
      · show (if g < w1.heap.size then f' g else _) = _
        rw [if_neg (by omega)]⟩
    (hti.move (fun g _ hg1 => if_pos hg1) (fun g _ hg1 hk => hg.block g hg1 (fun e => by
      have h1 := hlv g e.symm
      have h2 := hfo g h1.2.1
      rw [h1.2.2] at h2
      rcases hk with q | q | q | q <;> rw [h2] at q <;> cases q)))
  have hc : ∀ o, o ≠ 3 → (w2.setCell ⟨X, 3, none⟩ tv').cell? ⟨X, o, none⟩ = w0.cell? ⟨X, o, none⟩ := fun o ho3 => (cell_set_other w2 X 3 tv' ⟨X, o, none⟩ (fun e => ho3 (by injection e))).trans (cl o)
  have hk3 : ∃ q, w2.cell? ⟨X, 3, none⟩ = some q := by
    obtain ⟨f0, cv', tv0, lv', T', L', _, _, _, _, h5, _⟩ := h.ex
    exact ⟨tv0, (cl 3).trans h5⟩
  refine h.with (s' := { s with tasks := s.tasks ++ [t] }) (H.setX h.lt _) (by rw [List.map_append, hT]; rfl) hL ?_ ((hc 2 (by omega)).trans k2) ?_ ((hc 5 (by omega)).trans k5) ((hc 0 (by omega)).trans h.c0) ((hc 1 (by omega)).trans h.c1) ((hc 4 (by omega)).trans h.c4) (fun o => by rw [World.frozen?_setCell, fl]; exact h.fz o)
  · refine FrS.setCell ?_ (Or.inl rfl) _
    exact ⟨hg.os.trans hb.os, hg.tape.trans hb.tape, hg.output.trans hb.output, hsz, fun k hk hS => by
      have : ¬ (k = X ∨ B ≤ k) := hS
      rw [hg.block k (Nat.lt_of_lt_of_le hk hb.size) (fun e => by have := (hlv k e.symm).1; omega)]
      exact hb.block k hk⟩
  · obtain ⟨q, hq⟩ := hk3
    exact World.cell?_setCell_same' _ _ _ (by rw [hq]; rfl)
def forkN (s : Sy) (i : Nat) (ks : List Int) (k : Nat) : Sy := { s with tasks := s.tasks ++ (ks.take k).map fun b => newK b i }
theorem forkN_succ (s : Sy) (i : Nat) (ks : List Int) {k : Nat} (hk : k < ks.length) : forkN s i ks (k + 1) = { forkN s i ks k with tasks := (forkN s i ks k).tasks ++ [newTa (nth 0 ks k) i] } := by
  unfold forkN
  rw [take_nth 0 ks k hk]
  simp [newK, newTa]
theorem forkN_len (s : Sy) (i : Nat) (ks : List Int) {k : Nat} (hk : k ≤ ks.length) : (forkN s i ks k).tasks.length = s.tasks.length + k := by
  unfold forkN; simp; omega
theorem forkS_N (s : Sy) (i : Nat) (ks : List Int) (hi : i < s.tasks.length) : forkS s i ks = setTk (forkN s i ks ks.length) i { tkN (forkN s i ks ks.length) i with way := 1 } := by
  unfold forkS forkN
  rw [List.take_length]
  have e : tkN { s with tasks := s.tasks ++ ks.map fun b => newK b i } i = tkN s i := tkN_app hi
  rw [e]
set_option maxHeartbeats 8000000 in
theorem fork_any (X B : Nat) (pc pb : Value) (p : Pr) (s : Sy) (i : Nat) (ks : List Int) (v : Value) (w : World) (h : SW X B w pc pb p s) (hi : i < s.tasks.length) (hk : IntsOn (fun b => b < X) w v ks) (hks : ks.length ≤ 2) (hln : s.tasks.length ≤ 1048576) :
    Calls Try.prog 150 #[.pointer (some ⟨X, 0, none⟩), .int .i64 (i : Int), v] w fun r w' => r = .returned (.tuple #[]) ∧ SW X B w' pc pb p (forkS s i ks) ∧ FrS (SX X B) w w' := by
  obtain ⟨ka, kc, rfl, _⟩ := hk.shape
  have HS0 := (show Hid (SW _ _ _ _ _ _ _) from h)
  have HKS := (show Hid (IntsOn _ _ _ _) from hk)
  have hX0 := h.lt
  have hB0 := h.le
  clear h hk
  go_enter Try.func150, Try.ntmps150
  go_wp2_with fail
  go_loopw [6] (fun q w' => ∃ k : Nat, k ≤ ks.length ∧ q = .int .i64 k ∧ SW X B w' pc pb p (forkN s i ks k) ∧ FrS (SX X B) w w') (fun q _ => ks.length - (intOf q).toNat)
  case atStart => exact ⟨0, Nat.zero_le _, rfl, by rw [show forkN s i ks 0 = s from by simp [forkN]]; exact HS0.out, FrS.refl _ _⟩
  case round =>
    obtain ⟨k, hk, rfl, hs, hfr⟩ := hrel
    have hl := forkN_len s i ks hk
    have hi1 : i < (forkN s i ks k).tasks.length := by omega
    have HE : Hid (k < ks.length → forkN s i ks (k + 1) = { forkN s i ks k with tasks := (forkN s i ks k).tasks ++ [newTa (nth 0 ks k) i] }) := forkN_succ s i ks
    have HFN : Hid (k = ks.length → forkS s i ks = setTk (forkN s i ks k) i { tkN (forkN s i ks k) i with way := 1 }) := fun e => by rw [e]; exact forkS_N s i ks hi
    have HFR := (show Hid (FrS _ _ _) from hfr)
    have HKW := (show Hid (IntsOn _ _ _ _) from HKS.out.kept (hfr.kept (by omega) (fun k e => by rcases e with e | e <;> omega)))
    have HL := (show Hid (_ = _) from hl)
    have hl9 : (forkN s i ks k).tasks.length ≤ 1048579 := by omega
    clear hfr HS0 hl
    revert hs hi1 HE HFN HL hl9
    generalize forkN s i ks k = s1
    intro hs hi1 HE HFN HL hl9
    by_cases hlt : k < ks.length
    · have hlt' : (k : Int) < (ks.length : Int) := by omega
      obtain ⟨f, cv, tv, lv, T, L, hO, hTm, hLm, h4, h5, h6⟩ := hs.ex
      have hTl : T.length = s1.tasks.length := by rw [← hTm]; simp
      obtain ⟨ta, tc, et, _⟩ := own_shape hO.t.1
      rw [hTl] at et
      subst et
      obtain ⟨ka', kc', ek, _, hkc⟩ := HKW.out
      injection ek with ek1 ek2 ek3
      subst ek1 ek3
      clear ek2
      obtain ⟨b4, off4, rfl, hbt, hb4, y0⟩ := hkc k hlt
      have hX := hs.lt
      have hB := hs.le
      have hXl : X < wr.heap.size := by omega
      have hBl : B ≤ wr.drew.heap.size := hB
      have hbt : b4 < X := hbt
      obtain ⟨i0, hi0, hz0, hz1, hz2⟩ := info_parts (P := Try.prog) (e := 70) (z := .agg #[.int .i64 0, .int .i64 0, .int .i64 0, .slice none 0 0, .int .i64 0, .int .i64 0, .int .i64 0, .int .i64 0, .slice none 0 0, .slice none 0 0, .slice none 0 0, .int .i64 0, .int .i64 0]) (size := 13) (bytes := 168) (by kernel_rfl)
      have HO := (show Hid (OwnSy _ _ _ _ _ _ _ _ _) from hO)
      have HTL := (show Hid (_ = _) from hTl)
      have HTM := (show Hid (_ = _) from hTm)
      have HLM := (show Hid (_ = _) from hLm)
      have HS := (show Hid (SW _ _ _ _ _ _ _) from hs)
      have SM : Hid (∀ W : World, (∀ b, b < wr.heap.size → (Value.slice ta s1.tasks.length tc).ownBlock ≠ some b → W.heap[b]? = wr.heap[b]?) → W.cell? ⟨X, 3, none⟩ = some (.slice ta s1.tasks.length tc) ∧ W.cell? ⟨b4, off4 + k, none⟩ = some (.int .i64 (nth 0 ks k))) := fun W hb => by
        have c1 : W.cell? ⟨X, 3, none⟩ = wr.cell? ⟨X, 3, none⟩ := World.cell?_of_block (hb X hXl (fun e => by have h1 := HO.out.t.1.lt X e; omega))
        have c2 : W.cell? ⟨b4, off4 + k, none⟩ = wr.cell? ⟨b4, off4 + k, none⟩ := World.cell?_of_block (hb b4 hb4 (fun e => by have h1 := HO.out.t.1.lt b4 e; omega))
        rw [c1, c2]
        exact ⟨h5, y0⟩
      clear hkc hO hTl hTm hLm hs
      go_wp2_with fail
      refine till_begin (S := fun w' => w'.cell? ⟨X, 3, none⟩ = some (.slice ta s1.tasks.length tc) ∧ w'.cell? ⟨b4, off4 + k, none⟩ = some (.int .i64 (nth 0 ks k))) (z := 17) (by kernel_rfl) ?_
      refine till_take (i := 0) (v := (.pointer (some ⟨X, 0, none⟩))) rfl (by kernel_rfl) (fun _ _ _ h => h) (by rfl) ?_ (SM.out _ (fun b hb _ => rfl)) ?_
      · (intro w hSw; obtain ⟨q0, q1⟩ := hSw; go_simp)
      (try simp only [Act.put, List.setIfInBounds_toArray, List.set_cons_zero, List.set_cons_succ])
      refine till_take (i := 1) (v := (.pointer (some ⟨X, 0, none⟩))) rfl (by kernel_rfl) (fun _ _ _ h => h) (by rfl) ?_ (SM.out _ (fun b hb _ => rfl)) ?_
      · (intro w hSw; obtain ⟨q0, q1⟩ := hSw; go_simp)
      (try simp only [Act.put, List.setIfInBounds_toArray, List.set_cons_zero, List.set_cons_succ])
      refine till_take (i := 2) (v := (.pointer (some ⟨X, 0, none⟩))) rfl (by kernel_rfl) (fun _ _ _ h => h) (by rfl) ?_ (SM.out _ (fun b hb _ => rfl)) ?_
      · (intro w hSw; obtain ⟨q0, q1⟩ := hSw; go_simp)
      (try simp only [Act.put, List.setIfInBounds_toArray, List.set_cons_zero, List.set_cons_succ])
      refine till_take (i := 3) (v := (.pointer (some ⟨X, 2, none⟩))) rfl (by kernel_rfl) (fun _ _ _ h => h) (by rfl) ?_ (SM.out _ (fun b hb _ => rfl)) ?_
      · (intro w hSw; obtain ⟨q0, q1⟩ := hSw; go_simp)
      (try simp only [Act.put, List.setIfInBounds_toArray, List.set_cons_zero, List.set_cons_succ])
      refine till_take (i := 4) (v := (.pointer (some ⟨X, 3, none⟩))) rfl (by kernel_rfl) (fun _ _ _ h => h) (by rfl) ?_ (SM.out _ (fun b hb _ => rfl)) ?_
      · (intro w hSw; obtain ⟨q0, q1⟩ := hSw; go_simp)
      (try simp only [Act.put, List.setIfInBounds_toArray, List.set_cons_zero, List.set_cons_succ])
      refine till_take (i := 5) (v := (.slice ta s1.tasks.length tc)) rfl (by kernel_rfl) (fun _ _ _ h => h) (by rfl) ?_ (SM.out _ (fun b hb _ => rfl)) ?_
      · (intro w hSw; obtain ⟨q0, q1⟩ := hSw; go_simp)
      (try simp only [Act.put, List.setIfInBounds_toArray, List.set_cons_zero, List.set_cons_succ])
      refine till_take (i := 6) (v := (.slice (some ⟨b4, off4, none⟩) ks.length kc)) rfl (by kernel_rfl) (fun _ _ _ h => h) (by rfl) ?_ (SM.out _ (fun b hb _ => rfl)) ?_
      · (intro w hSw; obtain ⟨q0, q1⟩ := hSw; go_simp)
      (try simp only [Act.put, List.setIfInBounds_toArray, List.set_cons_zero, List.set_cons_succ])
      refine till_take (i := 7) (v := (.int .i64 (k : Int))) rfl (by kernel_rfl) (fun _ _ _ h => h) (by rfl) ?_ (SM.out _ (fun b hb _ => rfl)) ?_
      · (intro w hSw; obtain ⟨q0, q1⟩ := hSw; go_simp)
      (try simp only [Act.put, List.setIfInBounds_toArray, List.set_cons_zero, List.set_cons_succ])
      refine till_take (i := 8) (v := (.pointer (some ⟨b4, off4 + k, none⟩))) rfl (by kernel_rfl) (fun _ _ _ h => h) (by rfl) ?_ (SM.out _ (fun b hb _ => rfl)) ?_
      · (intro w hSw; obtain ⟨q0, q1⟩ := hSw; go_simp)
      (try simp only [Act.put, List.setIfInBounds_toArray, List.set_cons_zero, List.set_cons_succ])
      refine till_take (i := 9) (v := (.int .i64 (nth 0 ks k))) rfl (by kernel_rfl) (fun _ _ _ h => h) (by rfl) ?_ (SM.out _ (fun b hb _ => rfl)) ?_
      · (intro w hSw; obtain ⟨q0, q1⟩ := hSw; go_simp)
      (try simp only [Act.put, List.setIfInBounds_toArray, List.set_cons_zero, List.set_cons_succ])
      refine till_take (i := 10) (v := (.int .i64 (i : Int))) rfl (by kernel_rfl) (fun _ _ _ h => h) (by rfl) ?_ (SM.out _ (fun b hb _ => rfl)) ?_
      · (intro w hSw; obtain ⟨q0, q1⟩ := hSw; go_simp)
      (try simp only [Act.put, List.setIfInBounds_toArray, List.set_cons_zero, List.set_cons_succ])
      refine till_step (i := 11) rfl (by kernel_rfl) (fun K hK => ?_)
      go_simp
      refine (l11Task_any f T.length B _ _ _ hBl).mono ?_
      rintro e wd ⟨fD, VD, rfl, hfD, htD, hbD⟩
      obtain ⟨a3, c3, a8, c8, a9, c9, a10, c10, rfl⟩ := htD.shapes
      have HBD : Hid (Below wr.heap.size wr wd) := ((Below.refl wr.heap.size wr).drew).trans hbD
      have HTD := (show Hid (TIn _ _ _ _ _) from htD)
      have HFD := (show Hid (∀ g, _) from hfD)
      have hdd := hbD.size
      clear hbD htD hfD
      unfold taskAgg taC newTa
      simp only [List.length_cons, List.length_nil, Nat.zero_add, Nat.reduceAdd]
      refine hK.out _ _ (fun _ => SM.out _ (fun b hb _ => HBD.out.block b hb)) ?_
      clear hK
      (try simp only [Act.put, List.setIfInBounds_toArray, List.set_cons_zero, List.set_cons_succ])
      refine till_step (i := 12) rfl (by kernel_rfl) (fun K hK => ?_)
      go_simp
      refine hK.out _ _ (fun _ => SM.out _ (fun b hb _ => (HBD.out.alloc HBD.out.size _).block b hb)) ?_
      clear hK
      (try simp only [Act.put, List.setIfInBounds_toArray, List.set_cons_zero, List.set_cons_succ])
      refine till_step (i := 13) rfl (by kernel_rfl) (fun K hK => ?_)
      have HTW : World.ownsRow (wd.alloc (.cells #[.int .i64 (nth 0 ks k), .int .i64 0, .int .i64 (i : Int), .slice a3 3 c3, .int .i64 0, .int .i64 0, .int .i64 0, .int .i64 0, .slice a8 3 c8, .slice a9 0 c9, .slice a10 0 c10, .int .i64 0, .int .i64 0] 70)) B 70 13 (.slice ta s1.tasks.length tc) s1.tasks.length (T.flatMap taC) := by
        have h1 := HO.out.t.1
        rw [HTL.out] at h1
        exact row_heap h1 (fun b hb => (HBD.out.alloc HBD.out.size _).block b (h1.lt b hb).2)
      refine step_append_lies _ (by rfl) _ _ 29 (by rfl) B 70 i0 (.agg #[.int .i64 0, .int .i64 0, .int .i64 0, .slice none 0 0, .int .i64 0, .int .i64 0, .int .i64 0, .int .i64 0, .slice none 0 0, .slice none 0 0, .slice none 0 0, .int .i64 0, .int .i64 0]) 13 168 Try.underlying29 hi0 hz0 hz1 hz2 rfl (by omega) _ s1.tasks.length (T.flatMap taC) (by rfl) HTW ⟨wd.heap.size, 0, none⟩ 1 1 [.int .i64 (nth 0 ks k), .int .i64 0, .int .i64 (i : Int), .slice a3 3 c3, .int .i64 0, .int .i64 0, .int .i64 0, .int .i64 0, .slice a8 3 c8, .slice a9 0 c9, .slice a10 0 c10, .int .i64 0, .int .i64 0] (by rfl) rfl (cells_new wd [.int .i64 (nth 0 ks k), .int .i64 0, .int .i64 (i : Int), .slice a3 3 c3, .int .i64 0, .int .i64 0, .int .i64 0, .int .i64 0, .slice a8 3 c8, .slice a9 0 c9, .slice a10 0 c10, .int .i64 0, .int .i64 0] _) (by intro u hu; simp at hu; rcases hu with rfl | rfl | rfl | rfl | rfl | rfl | rfl | rfl | rfl | rfl | rfl | rfl | rfl <;> rfl) (by omega) (by unfold maxLen; omega) (by omega) (by have := HBD.out.size; simp at this ⊢; omega) _ (by rfl) ?_
      intro g3 cap3 w3 hown3 hgrow hat3 hlt3
      clear HTW
      have HO3 := (show Hid (World.ownsRow _ _ _ _ _ _ _) from hown3)
      have HG3 := (show Hid (World.grownBy _ _ _) from hgrow)
      have HA3 := (show Hid (_ ∨ _) from hat3)
      have hnl : ∀ b, b < wr.heap.size → (Value.slice ta s1.tasks.length tc).ownBlock ≠ some b → w3.heap[b]? = wr.heap[b]? := fun b hb hne => (HG3.out.block b (Nat.lt_of_lt_of_le hb (HBD.out.alloc HBD.out.size _).size) (fun e => hne e.symm)).trans ((HBD.out.alloc HBD.out.size _).block b hb)
      have hXn : (Value.slice ta s1.tasks.length tc).ownBlock ≠ some X := fun e => by have h1 := HO.out.t.1.lt X e; omega
      have X3 : ∃ q, w3.cell? ⟨X, 3, none⟩ = some q := ⟨_, (World.cell?_of_block (hnl X hXl hXn)).trans h5⟩
      have XZ : ∀ o, w3.frozen? ⟨X, o, none⟩ = false := fun o => by
        rw [World.frozen?_of_block (hnl X hXl hXn)]
        exact HS.out.fz o
      have HNL := (show Hid (∀ b, _) from hnl)
      clear hnl hXn
      obtain ⟨x3, X3⟩ := X3
      clear hown3 hgrow hat3
      refine hK.out _ _ (fun _ => SM.out _ HNL.out) ?_
      clear hK
      (try simp only [Act.put, List.setIfInBounds_toArray, List.set_cons_zero, List.set_cons_succ])
      refine till_take (i := 14) (v := (.pointer (some ⟨X, 0, none⟩))) rfl (by kernel_rfl) (fun _ _ _ h => h) (by rfl) ?_ (SM.out _ HNL.out) ?_
      · (intro w hSw; obtain ⟨q0, q1⟩ := hSw; go_simp)
      (try simp only [Act.put, List.setIfInBounds_toArray, List.set_cons_zero, List.set_cons_succ])
      refine till_take (i := 15) (v := (.pointer (some ⟨X, 2, none⟩))) rfl (by kernel_rfl) (fun _ _ _ h => h) (by rfl) ?_ (SM.out _ HNL.out) ?_
      · (intro w hSw; obtain ⟨q0, q1⟩ := hSw; go_simp)
      (try simp only [Act.put, List.setIfInBounds_toArray, List.set_cons_zero, List.set_cons_succ])
      refine till_take (i := 16) (v := (.pointer (some ⟨X, 3, none⟩))) rfl (by kernel_rfl) (fun _ _ _ h => h) (by rfl) ?_ (SM.out _ HNL.out) ?_
      · (intro w hSw; obtain ⟨q0, q1⟩ := hSw; go_simp)
      (try simp only [Act.put, List.setIfInBounds_toArray, List.set_cons_zero, List.set_cons_succ])
      refine till_step (i := 17) rfl (by kernel_rfl) (fun K hK => ?_)
      go_simp
      refine hK.out _ _ (fun h => absurd rfl h) ?_
      clear hK
      refine till_done (by kernel_rfl) ?_ _
      have A1 := SW.taskA HS.out HBD.out HO.out HTM.out HLM.out h4 h6 (t := newTa (nth 0 ks k) i) (V := ⟨.slice a3 3 c3, .slice a8 3 c8, .slice a9 0 c9, .slice a10 0 c10⟩) HFD.out HTD.out (w2 := w3) (tv' := .slice (some ⟨g3, 0, none⟩) (s1.tasks.length + 1) cap3) (by rw [HTL.out]; exact HO3.out) (grown_from HG3.out) (fun b hb => by
        rcases HA3.out with e | e
        · left; rw [e]; exact hb
        · right; injection hb with hb; rw [← hb, e]; show wd.heap.size ≤ _; simp)
      have F1 : FrS (SX X B) wr (w3.setCell ⟨X, 3, none⟩ (.slice (some ⟨g3, 0, none⟩) (s1.tasks.length + 1) cap3)) := by
        refine FrS.setCell ?_ (Or.inl rfl) _
        refine ((FrS.of_below HBD.out).alloc _).trans ⟨HG3.out.os, HG3.out.tape, HG3.out.output, HG3.out.size, fun k hk hS => HG3.out.block k hk (fun e => ?_)⟩
        have := HO.out.t.1.lt k e.symm
        exact hS (Or.inr this.1)
      have HA1 := (show Hid (SW _ _ _ _ _ _ _) from A1)
      have HF1 := (show Hid (FrS _ _ _) from F1)
      have HEE := (show Hid (_ = _) from HE.out hlt)
      clear A1 F1 HE HFN X3 XZ h4 h5 h6 y0
      go_wp2_with fail
      go_roundw
      case rel => exact ⟨k + 1, by omega, by go_num, by rw [HEE.out]; exact HA1.out, HFR.out.trans HF1.out⟩
      case measure => simp [intOf]; omega
    · have hk2 : ¬ (k : Int) < (ks.length : Int) := by omega
      have HF : Hid (forkS s i ks = setTk s1 i { tkN s1 i with way := 1 }) := HFN.out (by omega)
      clear HE HFN
      obtain ⟨f, cv, g, cap, lv, T, L, V, h1, h2, h3, h4, h5, h6, h7, h8, h9⟩ := hs.tk hi1
      obtain ⟨a3, c3, a8, c8, a9, c9, a10, c10, rfl⟩ := h7.ti.shapes
      obtain ⟨t0, t1, t2, t3, t4, t5, t6, t7, t8, t9, t10, t11, t12⟩ := h7.cells
      simp only at t3 t8 t9 t10
      have tz := h7.fz
      have hi' : (i : Int) < (s1.tasks.length : Int) := by omega
      have hX := hs.lt
      have hB := hs.le
      have hgB := h7.ge
      have hgl := h7.lt
      have hXl : X < wr.heap.size := by omega
      have hXg : X ≠ g := by omega
      have HTI := (show Hid (TIn _ _ _ _ _) from h7.ti)
      have HK := (show Hid (f g = .t ∧ ∀ b, cv.ownBlock = some b → f b = .c) from ⟨h7.key, h1.c.2⟩)
      have HS := (show Hid (SW _ _ _ _ _ _ _) from hs)
      clear h1 h2 h3 h7 h8 h9 hs
      clear t0 t1 t2 t3 t5 t6 t7 t8 t9 t10 t11 t12
      go_wp2_with fail
      go_end0
      exact ⟨rfl, by rw [HF.out]; exact HS.out.scs [(4, 1)] rfl h5 hi1, HFR.out.setCell (Or.inr hgB) _⟩
end Go.Proofs.Ytgbgjljflgbcaaa

namespace Go.Proofs.Ytgbgjljflgbcaaa
open Go.RowKit
set_option linter.unusedSimpArgs false
set_option linter.unusedVariables false
set_option maxRecDepth 20000
theorem OwnSy.tas {f : Nat → Key} {B : Nat} {w : World} {cv tv lv : Value} {cs : List Ce} {T : List TT} {L : List EE} (h : OwnSy f B w cv tv lv cs T L) : TasAt w tv (T.map (·.1)) := by
  obtain ⟨a, c, e, h1, h2⟩ := own_shape h.t.1
  refine ⟨a, c, by rw [List.length_map]; exact e, ⟨by rw [List.length_map]; exact h1, h2⟩, fun i hi => ?_⟩
  rw [List.length_map] at hi
  obtain ⟨g, cap, e', h7⟩ := h.tk hi
  rw [e] at e'
  injection e' with e1 e2 e3
  obtain ⟨t0, t1, t2, t3, t4, t5, t6, t7, t8, t9, t10, t11, t12⟩ := h7.cells
  rw [map_nth (·.1) TT.z Ta.z T i hi]
  refine ⟨g, 0, _, _, _, _, e1, h7.lt, ?_, ?_, ?_, ?_, ?_, ?_, ?_, ?_, ?_, ?_, ?_, ?_, ?_, iR_at h7.ti.r, iR_at h7.ti.o, pR_at h7.ti.d, pR_at h7.ti.u⟩ <;> simp only [Nat.zero_add] <;> assumption
theorem SW.tas {X B : Nat} {w : World} {pc pb : Value} {p : Pr} {s : Sy} (h : SW X B w pc pb p s) {tv : Value} (h3 : w.cell? ⟨X, 3, none⟩ = some tv) : TasAt w tv s.tasks := by
  obtain ⟨f, cv, tv', lv, T, L, h1, h2, _, _, h5, _⟩ := h.ex
  rw [h3] at h5
  injection h5 with h5
  subst h5
  rw [← h2]
  exact h1.tas
end Go.Proofs.Ytgbgjljflgbcaaa

namespace Go.Proofs.Ytgbgjljflgbcaaa
open Go.RowKit
set_option linter.unusedSimpArgs false
set_option linter.unusedVariables false
theorem pR_on {f : Nat → Key} {κ : Key} {B : Nat} {w : World} {v : Value} {xs : List Pu} (h : pR f κ B w v xs) : PusOn (fun b => B ≤ b) w v xs := by
  obtain ⟨a, cap, rfl, h1, h2⟩ := own_shape h.1
  refine ⟨a, cap, rfl, ⟨h1, h2⟩, fun i hi => ?_⟩
  obtain ⟨g, c, e, hB, hl, _, _, _, hc, _⟩ := row_cells h (by omega) (by omega)
  injection e with e1 e2 e3
  subst e1
  have hlen : (xs.flatMap puC).length = xs.length * 2 := flat_len 2 puC puC_len xs
  have F := fun q (hq : q < 2) => (hc (i * 2 + q) (by omega)).trans (flat_at 2 puC puC_len Pu.z q hq xs i hi)
  exact ⟨g, 0, rfl, hB, hl, by rw [Nat.zero_add]; exact F 0 (by omega), by rw [Nat.zero_add]; exact F 1 (by omega)⟩
theorem iR_on {f : Nat → Key} {κ : Key} {B : Nat} {w : World} {v : Value} {xs : List Int} (h : iR f κ B w v xs) : IntsOn (fun b => B ≤ b) w v xs := by
  obtain ⟨a, cap, rfl, h1, h2⟩ := own_shape h.1
  refine ⟨a, cap, rfl, by omega, fun i hi => ?_⟩
  obtain ⟨g, c, e, hB, hl, _, _, _, hc, _⟩ := row_cells h (by omega) (by omega)
  injection e with e1 e2 e3
  subst e1
  refine ⟨g, 0, rfl, hB, hl, ?_⟩
  rw [Nat.zero_add, hc i (by simpa using hi), nth_eq 0 xs i hi]
  simp [hi]
theorem OwnSy.cesOn {f : Nat → Key} {B : Nat} {w : World} {cv tv lv : Value} {cs : List Ce} {T : List TT} {L : List EE} (h : OwnSy f B w cv tv lv cs T L) : CesOn (fun b => B ≤ b) w cv cs := by
  obtain ⟨a, c, e, h1, h2⟩ := own_shape h.c.1
  refine ⟨a, c, e, ⟨h1, h2⟩, fun i hi => ?_⟩
  obtain ⟨g, cap, e', hB, hg, _, _, _, hcell, _⟩ := row_cells h.c (by omega) (by omega)
  rw [e] at e'
  injection e' with e1 e2 e3
  have hc : ∀ j, j < 3 → w.cell? ⟨g, i * 3 + j, none⟩ = (ceC (nth Ce.z cs i))[j]? := fun j hj => by
    rw [hcell _ (by rw [flat_len 3 ceC ceC_len]; have : (i + 1) * 3 ≤ cs.length * 3 := Nat.mul_le_mul_right _ hi; omega)]
    exact flat_at 3 ceC ceC_len Ce.z j hj cs i hi
  refine ⟨g, 0, e1, hB, hg, ?_, ?_, ?_⟩
  · have := hc 0 (by omega); simpa [ceC] using this
  · have := hc 1 (by omega); simpa [ceC] using this
  · have := hc 2 (by omega); simpa [ceC] using this
theorem OwnSy.tasOn {f : Nat → Key} {B : Nat} {w : World} {cv tv lv : Value} {cs : List Ce} {T : List TT} {L : List EE} (h : OwnSy f B w cv tv lv cs T L) : TasOn (fun b => B ≤ b) w tv (T.map (·.1)) := by
  obtain ⟨a, c, e, h1, h2⟩ := own_shape h.t.1
  refine ⟨a, c, by rw [List.length_map]; exact e, ⟨by rw [List.length_map]; exact h1, h2⟩, fun i hi => ?_⟩
  rw [List.length_map] at hi
  obtain ⟨g, cap, e', h7⟩ := h.tk hi
  rw [e] at e'
  injection e' with e1 e2 e3
  obtain ⟨t0, t1, t2, t3, t4, t5, t6, t7, t8, t9, t10, t11, t12⟩ := h7.cells
  rw [map_nth (·.1) TT.z Ta.z T i hi]
  refine ⟨g, 0, _, _, _, _, e1, h7.ge, h7.lt, ?_, ?_, ?_, ?_, ?_, ?_, ?_, ?_, ?_, ?_, ?_, ?_, ?_, iR_on h7.ti.r, iR_on h7.ti.o, pR_on h7.ti.d, pR_on h7.ti.u⟩ <;> simp only [Nat.zero_add] <;> assumption
theorem OwnSy.ensOn {f : Nat → Key} {B : Nat} {w : World} {cv tv lv : Value} {cs : List Ce} {T : List TT} {L : List EE} (h : OwnSy f B w cv tv lv cs T L) : EnsOn (fun b => B ≤ b) w lv (L.map (·.1)) := by
  obtain ⟨a, c, e, h1, h2⟩ := own_shape h.l.1
  refine ⟨a, c, by rw [List.length_map]; exact e, ⟨by rw [List.length_map]; exact h1, h2⟩, fun i hi => ?_⟩
  rw [List.length_map] at hi
  obtain ⟨g, cap, e', hB, hg, _, _, _, hcell, _⟩ := row_cells h.l (by omega) (by omega)
  rw [e] at e'
  injection e' with e1 e2 e3
  have hc : ∀ j, j < 6 → w.cell? ⟨g, i * 6 + j, none⟩ = (enC (nth EE.z L i))[j]? := fun j hj => by
    rw [hcell _ (by rw [flat_len 6 enC enC_len]; have : (i + 1) * 6 ≤ L.length * 6 := Nat.mul_le_mul_right _ hi; omega)]
    exact flat_at 6 enC enC_len EE.z j hj L i hi
  have hli := h.li i hi
  rw [map_nth (·.1) EE.z En.z L i hi]
  refine ⟨g, 0, _, _, e1, hB, hg, ?_, ?_, ?_, ?_, ?_, ?_, pR_on hli.d, pR_on hli.u⟩
  · have := hc 0 (by omega); simpa [enC] using this
  · have := hc 1 (by omega); simpa [enC] using this
  · have := hc 2 (by omega); simpa [enC] using this
  · have := hc 3 (by omega); simpa [enC] using this
  · have := hc 4 (by omega); simpa [enC] using this
  · have := hc 5 (by omega); simpa [enC] using this
theorem OwnSy.on {f : Nat → Key} {B : Nat} {w : World} {cv tv lv : Value} {T : List TT} {L : List EE} {s : Sy} (h : OwnSy f B w cv tv lv s.cells T L) (hT : T.map (·.1) = s.tasks) (hL : L.map (·.1) = s.log) : SyOn (fun b => B ≤ b) w cv tv lv s :=
  ⟨h.cesOn, by rw [← hT]; exact h.tasOn, by rw [← hL]; exact h.ensOn⟩
theorem SyOn.kept {S : Nat → Prop} {w w' : World} {cv tv lv : Value} {s : Sy} (h : SyOn S w cv tv lv s) (hk : Kept S w w') : SyOn S w' cv tv lv s := ⟨h.1.kept hk, h.2.1.kept hk, h.2.2.kept hk⟩
theorem SyOn.wide {S S' : Nat → Prop} (hS : ∀ b, S b → S' b) {w : World} {cv tv lv : Value} {s : Sy} (h : SyOn S w cv tv lv s) : SyOn S' w cv tv lv s := ⟨h.1.wide hS, h.2.1.wide hS, h.2.2.wide hS⟩
end Go.Proofs.Ytgbgjljflgbcaaa
