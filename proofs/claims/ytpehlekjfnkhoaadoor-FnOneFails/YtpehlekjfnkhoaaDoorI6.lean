/-
  One by one, of the model: bodies within bodies.
-/
import Derived.Test.YtpehlekjfnkhoaaDoorI1
import Derived.Test.YtpehlekjfnkhoaaDoorC4
import Derived.Deep.DeepCutAuto
import Derived.Handy
import Derived.Deep.LoopGhost
import Derived.Deep.RegionWith
namespace Go.Proofs.YtpehlekjfnkhoaaDoor
open Go.RowKit
set_option linter.unusedSimpArgs false
set_option linter.unusedVariables false
set_option maxRecDepth 20000

/-- what is done one by one, of the model, in memory -/
structure SkAt (B X : Nat) (w : World) (v0 v1 cv : Value) (c : List Int) (st : Bool) : Prop where
  base : B ≤ X
  lt : X < w.heap.size
  c0 : w.cell? ⟨X, 0, none⟩ = some v0
  c1 : w.cell? ⟨X, 1, none⟩ = some v1
  c2 : w.cell? ⟨X, 2, none⟩ = some cv
  c3 : w.cell? ⟨X, 3, none⟩ = some (.bool st)
  own : OwnInt B w cv c
  ne : cv.ownBlock ≠ some X
  frz : ∀ o, w.frozen? ⟨X, o, none⟩ = false
theorem SkAt.below {B X : Nat} {w w' : World} {v0 v1 cv : Value} {c : List Int} {st : Bool} (h : SkAt B X w v0 v1 cv c st) (hb : Below w.heap.size w w') : SkAt B X w' v0 v1 cv c st :=
  ⟨h.base, Nat.lt_of_lt_of_le h.lt hb.size, by rw [hb.cell (p := ⟨X, 0, none⟩) h.lt]; exact h.c0, by rw [hb.cell (p := ⟨X, 1, none⟩) h.lt]; exact h.c1, by rw [hb.cell (p := ⟨X, 2, none⟩) h.lt]; exact h.c2, by rw [hb.cell (p := ⟨X, 3, none⟩) h.lt]; exact h.c3, h.own.below hb (Nat.le_refl _), h.ne, fun o => by rw [hb.frozen (p := ⟨X, o, none⟩) h.lt]; exact h.frz o⟩
theorem SkAt.put {B X : Nat} {w : World} {v0 v1 cv : Value} {c : List Int} {st : Bool} (h : SkAt B X w v0 v1 cv c st) {x : Value} {C : List Int} {D : Nat} (hx : OwnInt D w x C) (hD : X < D) : SkAt B X (w.setCell ⟨X, 2, none⟩ x) v0 v1 x C st := by
  have hne : x.ownBlock ≠ some X := fun e => by have := (hx.lt X e).1; omega
  refine ⟨h.base, by simpa using h.lt, ?_, ?_, ?_, ?_, OwnInt.set_other (own_base hx (by have := h.base; omega)) hne _, hne, fun o => by rw [World.frozen?_setCell]; exact h.frz o⟩
  · rw [cell_set_other _ _ _ _ _ (by intro e; injection e with e1 e2; omega)]; exact h.c0
  · rw [cell_set_other _ _ _ _ _ (by intro e; injection e with e1 e2; omega)]; exact h.c1
  · exact World.cell?_setCell_same' _ _ _ (by rw [h.c2]; rfl)
  · rw [cell_set_other _ _ _ _ _ (by intro e; injection e with e1 e2; omega)]; exact h.c3
theorem SkAt.stuck {B X : Nat} {w : World} {v0 v1 cv : Value} {c : List Int} {st : Bool} (h : SkAt B X w v0 v1 cv c st) : SkAt B X (w.setCell ⟨X, 3, none⟩ (.bool true)) v0 v1 cv c true := by
  refine ⟨h.base, by simpa using h.lt, ?_, ?_, ?_, ?_, OwnInt.set_other h.own h.ne _, h.ne, fun o => by rw [World.frozen?_setCell]; exact h.frz o⟩
  · rw [cell_set_other _ _ _ _ _ (by intro e; injection e with e1 e2; omega)]; exact h.c0
  · rw [cell_set_other _ _ _ _ _ (by intro e; injection e with e1 e2; omega)]; exact h.c1
  · rw [cell_set_other _ _ _ _ _ (by intro e; injection e with e1 e2; omega)]; exact h.c2
  · exact World.cell?_setCell_same' _ _ _ (by rw [h.c3]; rfl)
theorem mk3s (W : World) : Sem.run Tryd.prog (Instr.makeSlice 23 (.int .i64 3) (.int .i64 3)) W = .ok (.slice (some ⟨W.heap.size, 0, none⟩) 3 3) (W.alloc (.cells #[.int .i64 0, .int .i64 0, .int .i64 0] 3)) := by
  first | kernel_rfl | rfl
theorem own_zeros (w : World) : OwnInt w.heap.size (w.alloc (.cells #[.int .i64 0, .int .i64 0, .int .i64 0] 3)) (.slice (some ⟨w.heap.size, 0, none⟩) 3 3) [0, 0, 0] := by
  refine ⟨rfl, .inr ⟨w.heap.size, 3, #[.int .i64 0, .int .i64 0, .int .i64 0], rfl, Nat.le_refl _, ?_, ?_⟩⟩
  · show (w.heap.push _)[w.heap.size]? = _
    simp
  · simp [maxLen]
theorem sChangeDo_yes {c r C R : List Int} {ds : List De} (hX : chX c r ds = (C, R, true)) (cv rv dv : Value) (w : World) (hc : IntsAt w cv c) (hr : IntsAt w rv r) (hd : DeedsAt w dv ds) :
    Calls Tryd.prog 35 #[cv, rv, dv] w fun e w' => ∃ ax kx ay ky, e = .returned (.tuple #[.slice ax C.length kx, .slice ay R.length ky, .bool true]) ∧ Two w.heap.size w' (.slice ax C.length kx) (.slice ay R.length ky) C R ∧ Below w.heap.size w w' := by
  have := sChangeDo_any c r ds cv rv dv w hc hr hd
  rw [hX] at this
  refine this.mono ?_
  rintro e w' ⟨x, y, rfl, ht, hb⟩
  obtain ⟨ax, kx, rfl, _⟩ := own_shape ht.1
  obtain ⟨ay, ky, rfl, _⟩ := own_shape ht.2.1
  exact ⟨ax, kx, ay, ky, rfl, ht, hb⟩
theorem sChangeDo_no {c r C R : List Int} {ds : List De} (hX : chX c r ds = (C, R, false)) (cv rv dv : Value) (w : World) (hc : IntsAt w cv c) (hr : IntsAt w rv r) (hd : DeedsAt w dv ds) :
    Calls Tryd.prog 35 #[cv, rv, dv] w fun e w' => ∃ ax kx ay ky, e = .returned (.tuple #[.slice ax C.length kx, .slice ay R.length ky, .bool false]) ∧ Below w.heap.size w w' := by
  have := sChangeDo_any c r ds cv rv dv w hc hr hd
  rw [hX] at this
  refine this.mono ?_
  rintro e w' ⟨x, y, rfl, ht, hb⟩
  obtain ⟨ax, kx, rfl, _⟩ := own_shape ht.1
  obtain ⟨ay, ky, rfl, _⟩ := own_shape ht.2.1
  exact ⟨ax, kx, ay, ky, rfl, hb⟩

/-- how a body of the model has come out -/
def SbR (B X : Nat) (w : World) (v0 v1 : Value) (z : Nat × List Int) (e : Ending) (w' : World) : Prop :=
  ∃ x, e = .returned (.bool !decide (z.1 = 1)) ∧ SkAt B X w' v0 v1 x z.2 (!decide (z.1 = 0 ∨ z.1 = 1)) ∧ FrS (fun b => b = X) w w'
theorem SbR.fine {B X : Nat} {w w' : World} {v0 v1 cv : Value} {z : Nat × List Int} {c : List Int} (hz : z = (0, c)) (h : SkAt B X w' v0 v1 cv c false) (hf : FrS (fun b => b = X) w w') : SbR B X w v0 v1 z (.returned (.bool true)) w' := by
  subst hz; exact ⟨_, rfl, h, hf⟩
theorem SbR.fails {B X : Nat} {w w' : World} {v0 v1 cv : Value} {z : Nat × List Int} {c : List Int} (hz : z = (1, c)) (h : SkAt B X w' v0 v1 cv c false) (hf : FrS (fun b => b = X) w w') : SbR B X w v0 v1 z (.returned (.bool false)) w' := by
  subst hz; exact ⟨_, rfl, h, hf⟩
theorem SbR.stk {B X : Nat} {w w' : World} {v0 v1 cv : Value} {z : Nat × List Int} {o : Nat} {c : List Int} (hz : z = (o, c)) (h0 : o ≠ 0) (h1 : o ≠ 1) (h : SkAt B X w' v0 v1 cv c true) (hf : FrS (fun b => b = X) w w') : SbR B X w v0 v1 z (.returned (.bool true)) w' := by
  subst hz
  have e1 : (!decide (o = 1)) = true := by simp [h1]
  have e2 : (!decide (o = 0 ∨ o = 1)) = true := by simp [h0, h1]
  exact ⟨cv, by simp only [e1], by simp only [e2]; exact h, hf⟩

set_option maxHeartbeats 1000000 in
theorem sBody_fuel (p : Pr) (v0 v1 : Value) (w0 : World) (hform : Form p) (hP : BodiesAt w0 v1 p.bodies) (X n : Nat) :
    ∀ (i : Nat) (cv : Value) (c : List Int) (w : World) (_ : SkAt w0.heap.size X w v0 v1 cv c false) (_ : Below w0.heap.size w0 w) (_ : i < p.bodies.length) (_ : p.bodies.length ≤ n + i),
    Calls Tryd.prog 19 #[.pointer (some ⟨X, 0, none⟩), .int .i64 i] w (SbR w0.heap.size X w v0 v1 (bodyD p.bodies n i c)) := by
  induction n with
  | zero => intro i cv c w _ _ h1 h2; omega
  | succ n ih =>
  intro i cv c0 w hW hb hi hfi
  have hmk := mk3s
  have IH := (show Hid _ from ih)
  clear ih
  obtain ⟨hl4, hacts⟩ := boB_acts (hform.2 i hi)
  obtain ⟨ab, cb, hbv, hmb, hbs⟩ := id hP
  obtain ⟨b, off, av, rfl, hbw0, d0, ha⟩ := hbs i hi
  rw [← hb.cell (p := ⟨b, _, none⟩) hbw0] at d0
  have hbw : b < w.heap.size := Nat.lt_of_lt_of_le hbw0 hb.size
  clear hbs
  subst hbv
  obtain ⟨aa, ca, rfl, hma, -⟩ := id ha
  have HA := (show Hid (ActsAt _ _ _) from ha)
  have HW := (show Hid (SkAt _ _ _ _ _ _ _ _) from hW)
  have HB := (show Hid (Below _ _ _) from hb)
  have HQ : Hid (∀ a, a ∈ nth [] p.bodies i → acB a p.cells.length i p.bodies.length = true) := hacts
  have HD : Hid (∀ c, bodyD p.bodies (n + 1) i c = actsD (bodyD p.bodies n) (nth [] p.bodies i) c [0, 0, 0]) := fun _ => rfl
  have hXl := hW.lt
  have hbase := hW.base
  have D0 := (show Hid (_ = _) from d0)
  generalize nth [] p.bodies i = acts at *
  clear ha hW hb hacts hform d0 hP
  go_enter Tryd.func19, Tryd.ntmps19
  go_wp2_with fail
  go_loopg [5, 6] (acts.length + 1) (fun g rv q w' => ∃ (k : Nat) (c r : List Int) (x : Value) (st : Bool), q = .int .i64 k ∧ OwnInt w.heap.size w' rv r ∧ SkAt w0.heap.size X w' v0 (.slice (some ⟨b, off, none⟩) p.bodies.length cb) x c st ∧ FrS (fun b => b = X) w w' ∧
    ((st = false ∧ k + g = acts.length + 1 ∧ k ≤ acts.length ∧ r.length = 3 ∧ actsD (bodyD p.bodies n) acts c0 [0, 0, 0] = actsD (bodyD p.bodies n) (acts.drop k) c r) ∨ (st = true ∧ k ≤ acts.length ∧ ∃ o : Nat, o ≠ 0 ∧ o ≠ 1 ∧ actsD (bodyD p.bodies n) acts c0 [0, 0, 0] = (o, c))))
  case atStart => exact ⟨0, c0, [0, 0, 0], cv, false, rfl, own_zeros w, HW.out.below ((Below.refl _ _).alloc (Nat.le_refl _) _), (FrS.refl _ _).alloc _, .inl ⟨rfl, by omega, by omega, rfl, rfl⟩⟩
  case round =>
    obtain ⟨k, c, r, x, st, rfl, hown, hWk, hF, hst⟩ := hrel
    have HO := (show Hid (OwnInt _ _ _ _) from hown)
    have HWk := (show Hid (SkAt _ _ _ _ _ _ _ _) from hWk)
    have HF := (show Hid (FrS _ _ _) from hF)
    have HBr : Hid (Below w0.heap.size w0 wr) := HB.out.trans (hF.below (fun k hk => by rw [hk]; exact hbase) HB.out.size)
    have hszr := hF.size
    have hXr : X < wr.heap.size := hWk.lt
    have d0 : wr.cell? ⟨b, off + i, none⟩ = some (.slice aa acts.length ca) := by rw [hF.cell hbw (by omega)]; exact D0.out
    have hbr : b < wr.heap.size := by omega
    have s1 := hWk.c1
    have s2 := hWk.c2
    have s3 := hWk.c3
    have sf := hWk.frz
    obtain ⟨rg, rk, rfl, _⟩ := own_shape hown
    obtain ⟨xa, xk, rfl, _⟩ := own_shape hWk.own
    clear hown hWk hF HW D0
    rcases hst with ⟨rfl, hg, hk, hr3, hD⟩ | ⟨rfl, hk, o, ho0, ho1, hD⟩
    case inr =>
      have HZ : Hid (bodyD p.bodies (n + 1) i c0 = (o, c)) := by rw [Hid, HD.out, hD]
      have HZ1 : Hid (o ≠ 0 ∧ o ≠ 1) := ⟨ho0, ho1⟩
      clear hD ho0 ho1 HD
      by_cases hlt : k < acts.length
      all_goals
        go_wp2_with fail
        go_ret
        exact SbR.stk HZ.out HZ1.out.1 HZ1.out.2 HWk.out HF.out
    cases gk with
    | zero => omega
    | succ g =>
    have HR0 := (show Hid (r.length = 3) from hr3)
    have HHD := (show Hid (_ = _) from hD)
    have HDk : Hid (∀ z, actsD (bodyD p.bodies n) (acts.drop k) c r = z → bodyD p.bodies (n + 1) i c0 = z) := fun z hz => by rw [HD.out, HHD.out, hz]
    clear hr3 hD HD
    by_cases hlt : k < acts.length
    case neg =>
      have hlt' : ¬ ((k : Int) < (acts.length : Int)) := by omega
      have HZ : Hid (bodyD p.bodies (n + 1) i c0 = (0, c)) := HDk.out _ (actsD_end hlt)
      clear HDk HHD
      go_wp2_with fail
      go_ret
      exact SbR.fine HZ.out HWk.out HF.out
    have hlt' : (k : Int) < (acts.length : Int) := by omega
    obtain ⟨aa', ca', e1, _, has⟩ := HA.out
    injection e1 with e11 e12 e13
    subst e11 e13
    clear e12
    obtain ⟨b2, off2, dv, kv, rfl, hb2, x0, x1, x2, x3, hds, hks⟩ := has k hlt
    rw [← HBr.out.cell (p := ⟨b2, _, none⟩) hb2] at x0 x1 x2 x3
    have hb2r : b2 < wr.heap.size := Nat.lt_of_lt_of_le hb2 HBr.out.size
    have hq := HQ.out _ (nth_mem Ac.z acts k hlt)
    obtain ⟨ad, cd, rfl, hmd⟩ := hds.shape
    obtain ⟨ak, ck, rfl, hmk'⟩ := hks.shape
    have HDS := (show Hid (DeedsAt _ _ _) from hds)
    have HKS := (show Hid (IntsAt _ _ _) from hks)
    clear has hds hks
    rcases acB_cases hq with h1 | ⟨h2a, h2b, h2c, h2d⟩ | h3 | ⟨h4a, h4b, h4c, h4d⟩
    · have HS := (show Hid (_ = _) from actsD_try (f := bodyD p.bodies n) (c := c) (r := r) hlt h1.1)
      rw [h1.1] at x0
      clear hq h1
      obtain ⟨C, R, ok, hX⟩ : ∃ C R ok, chX c r (nth Ac.z acts k).ds = (C, R, ok) := ⟨_, _, _, rfl⟩
      have HX := (show Hid (_ = _) from hX)
      cases ok
      · have HZ : Hid (bodyD p.bodies (n + 1) i c0 = (2, c)) := HDk.out _ (by rw [HS.out, hX]; rfl)
        clear hX HDk HHD HS
        go_wp2_with fail
        go_region_with (go_at_call 35; refine (sChangeDo_no HX.out _ _ _ _ (IntsAt.mono HWk.out.own.at (((Below.refl _ _).alloc (Nat.le_refl _) _).drew)) (IntsAt.mono HO.out.at (((Below.refl _ _).alloc (Nat.le_refl _) _).drew)) (DeedsAt.mono HDS.out ((HBr.out.alloc HBr.out.size _).drew))).mono ?_; rintro e w5 ⟨ax, kx, ay, ky, rfl, hb5⟩)
        all_goals
          have HB5 : Hid (Below wr.heap.size wr w5) := below_drewed ((Below.refl _ _).alloc (Nat.le_refl _) _) (by simp) hb5
          have hW5 := HWk.out.below HB5.out
          have HW5 := (show Hid (SkAt _ _ _ _ _ _ _ _) from hW5)
          have s35 := hW5.c3
          have s3f := hW5.frz 3
          have hX5 := hW5.lt
          clear hb5 hW5
          go_wp2_with fail
          go_ret
          exact SbR.stk HZ.out (by omega) (by omega) HW5.out.stuck (FrS.setCell (S := fun b => b = X) (HF.out.trans (.of_below HB5.out)) (p := ⟨X, 3, none⟩) rfl _)
      · have HN : Hid (actsD (bodyD p.bodies n) acts c0 [0, 0, 0] = actsD (bodyD p.bodies n) (acts.drop (k + 1)) C R) := by rw [Hid, HHD.out, HS.out, hX]; rfl
        have HR3 : Hid (R.length = 3) := by have := chX_rl (c := c) (r := r) (ds := (nth Ac.z acts k).ds) (by rw [hX]); rw [hX] at this; exact this
        clear hX HDk HHD HS
        go_wp2_with fail
        go_region_with (go_at_call 35; refine (sChangeDo_yes HX.out _ _ _ _ (IntsAt.mono HWk.out.own.at (((Below.refl _ _).alloc (Nat.le_refl _) _).drew)) (IntsAt.mono HO.out.at (((Below.refl _ _).alloc (Nat.le_refl _) _).drew)) (DeedsAt.mono HDS.out ((HBr.out.alloc HBr.out.size _).drew))).mono ?_; rintro e w5 ⟨ax, kx, ay, ky, rfl, ht5, hb5⟩)
        all_goals
          have HB5 : Hid (Below wr.heap.size wr w5) := below_drewed ((Below.refl _ _).alloc (Nat.le_refl _) _) (by simp) hb5
          have hW5 := HWk.out.below HB5.out
          have HW5 := (show Hid (SkAt _ _ _ _ _ _ _ _) from hW5)
          have HT5 := (show Hid (Two _ _ _ _ _ _) from ht5)
          have hXd : X < ((wr.alloc (.cells #[.int .i64 1, .slice ad (nth Ac.z acts k).ds.length cd, .slice ak (nth Ac.z acts k).ks.length ck, .int .i64 (nth Ac.z acts k).r] 34)).drew).heap.size := by simp; omega
          have HP5 : Hid (SkAt w0.heap.size X (w5.setCell ⟨X, 2, none⟩ (.slice ax C.length kx)) v0 (.slice (some ⟨b, off, none⟩) p.bodies.length cb) (.slice ax C.length kx) C false) := hW5.put ht5.1 hXd
          have HO5 : Hid (OwnInt w.heap.size (w5.setCell ⟨X, 2, none⟩ (.slice ax C.length kx)) (.slice ay R.length ky) R) := OwnInt.set_other (own_base ht5.2.1 (by simp; omega)) (fun e => by have := (ht5.2.1.lt X e).1; omega) _
          have HF5 : Hid (FrS (fun b => b = X) w (w5.setCell ⟨X, 2, none⟩ (.slice ax C.length kx))) := FrS.setCell (S := fun b => b = X) (HF.out.trans (.of_below HB5.out)) (p := ⟨X, 2, none⟩) rfl _
          have s25 := hW5.c2
          have s2f := hW5.frz 2
          have hX5 := hW5.lt
          clear hb5 hW5 ht5 hXd
          go_wp2_with fail
          go_roundg g
          case measure => omega
          case rel => exact ⟨k + 1, C, R, _, false, by go_num, HO5.out, HP5.out, HF5.out, .inl ⟨rfl, by omega, by omega, HR3.out, HN.out⟩⟩
    · have HS := (show Hid (_ = _) from actsD_fork (f := bodyD p.bodies n) (c := c) (r := r) hlt h2a)
      have HKB : Hid (∀ k', k' ∈ (nth Ac.z acts k).ks → (i : Int) + 1 ≤ k' ∧ k' ≤ (p.bodies.length : Int) - 1) := h2d
      rw [h2a] at x0
      clear hq h2a h2b h2c h2d HDS
      generalize (nth Ac.z acts k).ks = ks at *
      go_wp2_with fail
      go_loopg [11] (ks.length + 1) (fun g' q w' => ∃ (j : Nat) (c2 : List Int) (x2 : Value) (st2 : Bool), q = .int .i64 j ∧ OwnInt w.heap.size w' (.slice rg r.length rk) r ∧ SkAt w0.heap.size X w' v0 (.slice (some ⟨b, off, none⟩) p.bodies.length cb) x2 c2 st2 ∧ FrS (fun b => b = X) w w' ∧ w'.cell? ⟨wr.heap.size, 2, none⟩ = some (.slice ak ks.length ck) ∧ wr.heap.size < w'.heap.size ∧ j ≤ ks.length ∧
        ((st2 = false ∧ j + g' = ks.length + 1 ∧ kidsD (bodyD p.bodies n) ks c = kidsD (bodyD p.bodies n) (ks.drop j) c2) ∨ (st2 = true ∧ ∃ o : Nat, o ≠ 0 ∧ o ≠ 1 ∧ kidsD (bodyD p.bodies n) ks c = (o, c2))))
      case atStart => exact ⟨0, c, _, false, rfl, HO.out.alloc _, HWk.out.below ((Below.refl _ _).alloc (Nat.le_refl _) _), HF.out.alloc _, by simp [go_sem], by simp, by omega, .inl ⟨rfl, by omega, rfl⟩⟩
      case round =>
        obtain ⟨j, c2, x2', st2, rfl, hown2, hWk2, hF2, q2, ql, hj, hst2⟩ := hrel
        have HO2 := (show Hid (OwnInt _ _ _ _) from hown2)
        have HWk2 := (show Hid (SkAt _ _ _ _ _ _ _ _) from hWk2)
        have HF2 := (show Hid (FrS _ _ _) from hF2)
        have HB2 : Hid (Below w0.heap.size w0 wr) := HB.out.trans (hF2.below (fun k hk => by rw [hk]; exact hbase) HB.out.size)
        have t3 := hWk2.c3
        have hX2 := hWk2.lt
        clear hown2 hWk2 hF2 s1 s2 s3 sf x0 x1 x2 x3 d0
        rcases hst2 with ⟨rfl, hg', hKD⟩ | ⟨rfl, o, ho0, ho1, hKD⟩
        case inr =>
          have HN : Hid (∃ o : Nat, o ≠ 0 ∧ o ≠ 1 ∧ actsD (bodyD p.bodies n) acts c0 [0, 0, 0] = (o, c2)) := ⟨o, ho0, ho1, by rw [HHD.out, HS.out, hKD]; simp [ho0]⟩
          clear hKD ho0 ho1 HHD HS HDk
          by_cases hjl : j < ks.length
          all_goals
            go_wp2_with fail
            go_roundg g
            case measure => omega
            case rel => exact ⟨k + 1, c2, r, _, true, by go_num, HO2.out, HWk2.out, HF2.out, .inr ⟨rfl, by omega, HN.out⟩⟩
        cases gk with
        | zero => omega
        | succ g' =>
        have HKD := (show Hid (_ = _) from hKD)
        clear hKD
        by_cases hjn : j < ks.length
        case neg =>
          have hjl : ¬ ((j : Int) < (ks.length : Int)) := by omega
          have HN : Hid (actsD (bodyD p.bodies n) acts c0 [0, 0, 0] = actsD (bodyD p.bodies n) (acts.drop (k + 1)) c2 r) := by
            rw [Hid, HHD.out, HS.out, HKD.out, kidsD_end (by omega)]; rfl
          clear HKD HHD HS HDk
          go_wp2_with fail
          go_roundg g
          case measure => omega
          case rel => exact ⟨k + 1, c2, r, _, false, by go_num, HO2.out, HWk2.out, HF2.out, .inl ⟨rfl, by omega, by omega, HR0.out, HN.out⟩⟩
        have hjl : (j : Int) < (ks.length : Int) := by omega
        obtain ⟨ak', ck', e1, _, hks⟩ := HKS.out
        injection e1 with e11 e12 e13
        subst e11 e13
        clear e12
        obtain ⟨b4, off4, rfl, hb4, y0⟩ := hks j hjn
        rw [← HB2.out.cell (p := ⟨b4, _, none⟩) hb4] at y0
        have hb4r : b4 < wr.heap.size := Nat.lt_of_lt_of_le hb4 HB2.out.size
        have hkk := HKB.out _ (nth_mem 0 ks j hjn)
        obtain ⟨m, hm⟩ : ∃ m : Nat, nth 0 ks j = (m : Int) := ⟨(nth 0 ks j).toNat, by omega⟩
        have HKS2 := (show Hid (_ = _) from kidsD_step (f := bodyD p.bodies n) (c := c2) hjn hm)
        rw [hm] at y0 hkk
        have hm1 : m < p.bodies.length := by omega
        have hm2 : p.bodies.length ≤ n + m := by omega
        clear hks hm hkk
        go_wp2_with fail
        refine (IH.out m _ c2 _ HWk2.out HB2.out hm1 hm2).mono ?_
        rintro e w5 ⟨x5, rfl, hw5, hf5⟩
        obtain ⟨o, C, hO⟩ : ∃ o C, bodyD p.bodies n m c2 = (o, C) := ⟨_, _, rfl⟩
        rw [hO] at hw5 ⊢
        dsimp only at hw5 ⊢
        have HF5 : Hid (FrS (fun b => b = X) w w5) := HF2.out.trans hf5
        have HO5 : Hid (OwnInt w.heap.size w5 (.slice rg r.length rk) r) := own_heap HO2.out fun q hq => hf5.block q (HO2.out.lt q hq).2 (fun e => by have := (HO2.out.lt q hq).1; omega)
        have Q5 := (show Hid (_ = _) from (hf5.cell ql (by omega)).trans q2)
        have QL5 : Hid (_ < w5.heap.size) := Nat.lt_of_lt_of_le ql hf5.size
        clear hf5 q2 ql
        by_cases ho1 : o = 1
        · subst ho1
          have HW5 : Hid (SkAt w0.heap.size X w5 v0 (.slice (some ⟨b, off, none⟩) p.bodies.length cb) x5 C false) := hw5
          have HZ : Hid (bodyD p.bodies (n + 1) i c0 = (1, C)) := HDk.out _ (by rw [HS.out, HKD.out, HKS2.out, hO]; rfl)
          have hd : (!decide (1 = 1)) = false := rfl
          clear HKD HKS2 hO HS HDk HHD hw5
          rw [hd]
          go_wp2_with fail
          go_ret
          exact SbR.fails HZ.out HW5.out HF5.out
        have hd : (!decide (o = 1)) = true := by simp [ho1]
        by_cases ho0 : o = 0
        · subst ho0
          have HW5 : Hid (SkAt w0.heap.size X w5 v0 (.slice (some ⟨b, off, none⟩) p.bodies.length cb) x5 C false) := hw5
          have HK2 : Hid (kidsD (bodyD p.bodies n) ks c = kidsD (bodyD p.bodies n) (ks.drop (j + 1)) C) := by
            rw [Hid, HKD.out, HKS2.out, hO]; rfl
          clear HKD HKS2 hO hw5
          rw [hd]
          clear hd
          go_wp2_with fail
          go_roundg g'
          case measure => omega
          case rel => exact ⟨j + 1, C, x5, false, by go_num, HO5.out, HW5.out, HF5.out, Q5.out, QL5.out, by omega, .inl ⟨rfl, by omega, HK2.out⟩⟩
        · have HW5 : Hid (SkAt w0.heap.size X w5 v0 (.slice (some ⟨b, off, none⟩) p.bodies.length cb) x5 C true) := by
            have e2 : (!decide (o = 0 ∨ o = 1)) = true := by simp [ho0, ho1]
            rw [e2] at hw5
            exact hw5
          have HK2 : Hid (∃ o : Nat, o ≠ 0 ∧ o ≠ 1 ∧ kidsD (bodyD p.bodies n) ks c = (o, C)) := ⟨o, ho0, ho1, by rw [HKD.out, HKS2.out, hO]; simp [ho0]⟩
          clear HKD HKS2 hO hw5 ho0 ho1
          rw [hd]
          clear hd
          go_wp2_with fail
          go_roundg g'
          case measure => omega
          case rel => exact ⟨j + 1, C, x5, true, by go_num, HO5.out, HW5.out, HF5.out, Q5.out, QL5.out, by omega, .inr ⟨rfl, HK2.out⟩⟩
    · have HZ : Hid (bodyD p.bodies (n + 1) i c0 = (1, c)) := HDk.out _ (actsD_fail hlt h3.1)
      rw [h3.1] at x0
      clear hq h3 HDk HHD
      go_wp2_with fail
      go_ret
      exact SbR.fails HZ.out (HWk.out.below ((Below.refl _ _).alloc (Nat.le_refl _) _)) (HF.out.alloc _)
    · have hS := actsD_if (f := bodyD p.bodies n) (c := c) (r := r) hlt h4a
      obtain ⟨m, hm⟩ : ∃ m : Nat, (nth Ac.z acts k).r = (m : Int) := ⟨(nth Ac.z acts k).r.toNat, by omega⟩
      rw [hm] at h4d
      have hm3 : m < r.length := by rw [HR0.out]; omega
      have hmi : (m : Int) < (r.length : Int) := by omega
      rw [hm, Int.toNat_natCast] at hS
      have HS := (show Hid (_ = _) from hS)
      obtain ⟨g5, k5, e5, g5b, g5l, _, _, hr5⟩ := HO.out.get m hm3
      obtain ⟨q5, _⟩ := hr5 m hm3
      injection e5 with e51 e52 e53
      subst e51 e53
      rw [hm] at x3
      rw [h4a] at x0
      clear hq h4a h4b h4c h4d hS hr5 e52 hm
      by_cases hz : nth 0 r m = 0
      · have hz' : (nth 0 r m != 0) = false := by simp [hz]
        have HN : Hid (actsD (bodyD p.bodies n) acts c0 [0, 0, 0] = actsD (bodyD p.bodies n) (acts.drop (k + 1)) c r) := by rw [Hid, HHD.out, HS.out, if_pos hz]
        clear HHD HS HDk hz
        go_wp2_with fail
        go_roundg g
        case measure => omega
        case rel => exact ⟨k + 1, c, r, _, false, by go_num, HO.out.alloc _, HWk.out.below ((Below.refl _ _).alloc (Nat.le_refl _) _), HF.out.alloc _, .inl ⟨rfl, by omega, by omega, HR0.out, HN.out⟩⟩
      · have hz' : (nth 0 r m != 0) = true := by simp [hz]
        have HZ : Hid (bodyD p.bodies (n + 1) i c0 = (1, c)) := HDk.out _ (by rw [HS.out, if_neg hz])
        clear HHD HS HDk hz
        go_wp2_with fail
        go_ret
        exact SbR.fails HZ.out (HWk.out.below ((Below.refl _ _).alloc (Nat.le_refl _) _)) (HF.out.alloc _)

end Go.Proofs.YtpehlekjfnkhoaaDoor
