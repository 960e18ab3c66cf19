/-
  One by one, of the program: bodies within bodies.
-/
import Derived.Test.YtpehlekjfnkhoaaDoorI3
import Derived.Deep.LoopGhost
namespace Go.Proofs.YtpehlekjfnkhoaaDoor
open Go.RowKit
set_option linter.unusedSimpArgs false
set_option linter.unusedVariables false
set_option maxRecDepth 20000

theorem acV_1 {a : Ac} (dv kv : Value) (h : a.k = 1 ∧ a.ks.length = 0 ∧ a.r = 0) : acV a dv kv = .iface 77 (.agg #[dv]) := by simp only [acV, if_pos h]
theorem acV_2 {a : Ac} (dv kv : Value) (h : a.k = 2 ∧ a.ds.length = 0 ∧ a.r = 0) : acV a dv kv = .iface 81 (.agg #[kv]) := by
  unfold acV; rw [if_neg (by omega), if_pos h]
theorem acV_3 {a : Ac} (dv kv : Value) (h : a.k = 3 ∧ a.ds.length = 0 ∧ a.ks.length = 0 ∧ a.r = 0) : acV a dv kv = .iface 85 (.agg #[]) := by
  unfold acV; rw [if_neg (by omega), if_neg (by omega), if_pos h]
theorem acV_4 {a : Ac} (dv kv : Value) (h : a.k = 4 ∧ a.ds.length = 0 ∧ a.ks.length = 0) : acV a dv kv = .iface 83 (.agg #[.int .i64 a.r]) := by
  unfold acV; rw [if_neg (by omega), if_neg (by omega), if_neg (by omega), if_pos h]

set_option maxHeartbeats 1000000 in
theorem doBody_fuel (p : Pr) (v0 v1 : Value) (aN aF : Addr) (w0 : World) (hform : Form p) (hP : BodiesAt w0 v1 p.bodies) (hE : ErrGl w0 aN aF) (X n : Nat) :
    ∀ (i : Nat) (cv : Value) (c : List Int) (w : World) (_ : WkAt w0.heap.size X w v0 v1 cv c) (_ : Below w0.heap.size w0 w) (_ : i < p.bodies.length) (_ : p.bodies.length ≤ n + i),
    Calls Tryd.prog 22 #[.pointer (some ⟨X, 0, none⟩), .int .i64 i] w fun e w' => ∃ x, e = .returned (errV aN aF (bodyD p.bodies n i c).1) ∧ WkAt w0.heap.size X w' v0 v1 x (bodyD p.bodies n i c).2 ∧ FrS (fun b => b = X) w w' := by
  induction n with
  | zero => intro i cv c w _ _ h1 h2; omega
  | succ n ih =>
  intro i cv c0 w hW hb hi hfi
  have hmk := mk3i
  have IH := (show Hid _ from ih)
  clear ih
  obtain ⟨hl4, hacts⟩ := boB_acts (hform.2 i hi)
  obtain ⟨ab, cb, hbv, hmb, hbs⟩ := id hP
  obtain ⟨b, off, av, rfl, hbw0, d0, ha⟩ := hbs i hi
  rw [← hb.cell (p := ⟨b, _, none⟩) hbw0] at d0
  have hbw : b < w.heap.size := Nat.lt_of_lt_of_le hbw0 hb.size
  clear hbs
  subst hbv
  obtain ⟨aa, ca, rfl, hma, -⟩ := id ha
  have HA := (show Hid (ActsAt _ _ _) from ha)
  have HP := (show Hid (BodiesAt _ _ _) from hP)
  have HE := (show Hid (ErrGl _ _ _) from hE)
  have HW := (show Hid (WkAt _ _ _ _ _ _ _) from hW)
  have HB := (show Hid (Below _ _ _) from hb)
  have HQ : Hid (∀ a, a ∈ nth [] p.bodies i → acB a p.cells.length i p.bodies.length = true) := hacts
  have HD : Hid (∀ c, bodyD p.bodies (n + 1) i c = actsD (bodyD p.bodies n) (nth [] p.bodies i) c [0, 0, 0]) := fun _ => rfl
  have k1 := hW.c1
  have hXl := hW.lt
  have hbase := hW.base
  generalize nth [] p.bodies i = acts at *
  clear ha hP hE hW hb hacts hform
  go_enter Tryd.func22, Tryd.ntmps22
  go_wp2
  go_step3
  go_wp2
  go_step3
  go_wp2
  go_loopg [5, 6, 25] acts.length (fun g rv er q w' => ∃ (k : Nat) (c r : List Int) (x : Value), k + g = acts.length ∧ q = .int .i64 k ∧ er = .nilIface ∧ r.length = 3 ∧ OwnInt w.heap.size w' rv r ∧ WkAt w0.heap.size X w' v0 (.slice (some ⟨b, off, none⟩) p.bodies.length cb) x c ∧ FrS (fun b => b = X) w w' ∧ Hid (actsD (bodyD p.bodies n) acts c0 [0, 0, 0] = actsD (bodyD p.bodies n) (acts.drop k) c r))
  case atStart => exact ⟨0, c0, [0, 0, 0], cv, by omega, rfl, rfl, rfl, own_zero w, HW.out.below ((Below.refl _ _).alloc (Nat.le_refl _) _), (FrS.refl _ _).alloc _, rfl⟩
  case round =>
    obtain ⟨k, c, r, x, hk, rfl, rfl, hr3, hown, hWk, hF, HHD⟩ := hrel
    have HR0 := (show Hid (r.length = 3) from hr3)
    clear hr3
    have HO := (show Hid (OwnInt _ _ _ _) from hown)
    have HWk := (show Hid (WkAt _ _ _ _ _ _ _) from hWk)
    have HF := (show Hid (FrS _ _ _) from hF)
    have HDk : Hid (∀ z, actsD (bodyD p.bodies n) (acts.drop k) c r = z → bodyD p.bodies (n + 1) i c0 = z) := fun z hz => by rw [HD.out, HHD.out, hz]
    have HBr : Hid (Below w0.heap.size w0 wr) := HB.out.trans (hF.below (fun k hk => by rw [hk]; exact hbase) HB.out.size)
    have hszr := hF.size
    have hXr : X < wr.heap.size := hWk.lt
    obtain ⟨rg, rk, rfl, _⟩ := own_shape hown
    clear hown hWk hF HW HD
    cases gk with
    | zero =>
      have hlt : ¬ (k < acts.length) := by omega
      have hlt' : ¬ ((k : Int) < (acts.length : Int)) := by omega
      have HZ : Hid (bodyD p.bodies (n + 1) i c0 = (0, c)) := HDk.out _ (actsD_end hlt)
      clear HDk HHD
      go_wp2_with fail
      (try rw [Exit.noGoto_ret])
      go_ret
      exact ⟨x, by rw [HZ.out]; rfl, by rw [HZ.out]; exact HWk.out, HF.out⟩
    | succ g =>
      have hlt : k < acts.length := by omega
      have hlt' : (k : Int) < (acts.length : Int) := by omega
      obtain ⟨aa', ca', e1, _, has⟩ := HA.out
      injection e1 with e11 e12 e13
      subst e11 e13
      clear e12
      obtain ⟨b2, off2, dv, kv, rfl, hb2, x0, x1, x2, x3, hds, hks⟩ := has k hlt
      rw [← HBr.out.cell (p := ⟨b2, _, none⟩) hb2] at x0 x1 x2 x3
      have hb2r : b2 < wr.heap.size := Nat.lt_of_lt_of_le hb2 HBr.out.size
      have hq := HQ.out _ (nth_mem Ac.z acts k hlt)
      obtain ⟨ad, cd, rfl, hmd⟩ := hds.shape
      obtain ⟨ak, ck, rfl, hmk'⟩ := hks.shape
      have HDS := (show Hid (DeedsAt _ _ _) from hds)
      have HKS := (show Hid (IntsAt _ _ _) from hks)
      clear has hds hks
      rcases acB_cases hq with h1 | ⟨h2a, h2b, h2c, h2d⟩ | h3 | ⟨h4a, h4b, h4c, h4d⟩
      · have HV : Hid (acV (nth Ac.z acts k) (.slice ad (nth Ac.z acts k).ds.length cd) (.slice ak (nth Ac.z acts k).ks.length ck) = _) := acV_1 _ _ h1
        have HS := (show Hid (_ = _) from actsD_try (f := bodyD p.bodies n) (c := c) (r := r) hlt h1.1)
        clear hq h1
        go_wp2_with fail
        refine (actPart_any (nth Ac.z acts k) _ _ _ (HDS.out.mono (HBr.out.alloc HBr.out.size _)) (HKS.out.mono (HBr.out.alloc HBr.out.size _))).mono ?_
        rw [HV.out]
        rintro e w3 ⟨rfl, hb3⟩
        have HB3 : Hid (Below wr.heap.size wr w3) := below_after (Below.refl _ _) (Nat.le_refl _) hb3
        have hsz3 : wr.heap.size ≤ w3.heap.size := HB3.out.size
        have HB03 : Hid (Below w0.heap.size w0 w3) := HBr.out.trans (HB3.out.mono HBr.out.size)
        have hsz03 : w0.heap.size ≤ w3.heap.size := HB03.out.size
        clear hb3 x0 x1 x2 x3
        obtain ⟨C, R, ok, hX⟩ : ∃ C R ok, chX c r (nth Ac.z acts k).ds = (C, R, ok) := ⟨_, _, _, rfl⟩
        cases ok
        · have HX := (show Hid (_ = _) from hX)
          have HZ : Hid (bodyD p.bodies (n + 1) i c0 = (2, c)) := HDk.out _ (by rw [HS.out, hX]; rfl)
          clear hX HDk HHD HS
          go_wp2_with fail
          refine (doChange_no w0.heap.size X _ _ _ _ _ c r _ aN aF _ (HWk.out.below (HB3.out.alloc HB3.out.size _)) (HO.out.at.mono (HB3.out.alloc HB3.out.size _)) (HDS.out.mono (HB03.out.alloc hsz03 _)) (by rw [HX.out]) (HE.out.mono (HB03.out.alloc hsz03 _))).mono ?_
          rintro e w5 ⟨rfl, hb5⟩
          have HB5 : Hid (Below wr.heap.size wr w5) := below_after HB3.out hsz3 hb5
          clear hb5
          unfold erV
          go_wp2_with fail
          (try rw [Exit.noGoto_ret])
          go_ret
          exact ⟨x, by rw [HZ.out]; rfl, by rw [HZ.out]; exact HWk.out.below HB5.out, HF.out.trans (.of_below HB5.out)⟩
        · have HX := (show Hid (_ = _) from hX)
          have HN : Hid (actsD (bodyD p.bodies n) acts c0 [0, 0, 0] = actsD (bodyD p.bodies n) (acts.drop (k + 1)) C R) := by rw [Hid, HHD.out, HS.out, hX]; rfl
          have HR3 : Hid (R.length = 3) := by have := chX_rl (c := c) (r := r) (ds := (nth Ac.z acts k).ds) (by rw [hX]); rw [hX] at this; exact this
          clear hX HDk HHD HS
          go_wp2_with fail
          refine (doChange_yes w0.heap.size X _ _ _ _ _ c r _ _ (HWk.out.below (HB3.out.alloc HB3.out.size _)) (HO.out.at.mono (HB3.out.alloc HB3.out.size _)) (HDS.out.mono (HB03.out.alloc hsz03 _)) HX.out).mono ?_
          rintro e w5 ⟨x', y', rfl, hw5, ho5, hf5⟩
          have HW5 := (show Hid (WkAt _ _ _ _ _ _ _) from hw5)
          have HO5 : Hid (OwnInt w.heap.size w5 y' R) := own_base ho5 (by simp; omega)
          have HF5 : Hid (FrS (fun b => b = X) w w5) := (HF.out.trans (.of_below (HB3.out.alloc HB3.out.size _))).trans hf5
          clear hw5 ho5 hf5
          obtain ⟨ay, ky, rfl, _⟩ := own_shape HO5.out
          go_wp2_with fail
          go_roundg g
          case measure => omega
          case rel => exact ⟨k + 1, C, R, x', by omega, by go_num, rfl, HR3.out, HO5.out, HW5.out, HF5.out, HN.out⟩
      · have HV : Hid (acV (nth Ac.z acts k) (.slice ad (nth Ac.z acts k).ds.length cd) (.slice ak (nth Ac.z acts k).ks.length ck) = _) := acV_2 _ _ ⟨h2a, h2b, h2c⟩
        have HS := (show Hid (_ = _) from actsD_fork (f := bodyD p.bodies n) (c := c) (r := r) hlt h2a)
        have HKB : Hid (∀ k', k' ∈ (nth Ac.z acts k).ks → (i : Int) + 1 ≤ k' ∧ k' ≤ (p.bodies.length : Int) - 1) := h2d
        clear hq h2a h2b h2c h2d
        go_wp2_with fail
        refine (actPart_any (nth Ac.z acts k) _ _ _ (HDS.out.mono (HBr.out.alloc HBr.out.size _)) (HKS.out.mono (HBr.out.alloc HBr.out.size _))).mono ?_
        rw [HV.out]
        rintro e w3 ⟨rfl, hb3⟩
        have HB3 : Hid (Below wr.heap.size wr w3) := below_after (Below.refl _ _) (Nat.le_refl _) hb3
        have hsz3 : wr.heap.size ≤ w3.heap.size := HB3.out.size
        have HB03 : Hid (Below w0.heap.size w0 w3) := HBr.out.trans (HB3.out.mono HBr.out.size)
        have hsz03 : w0.heap.size ≤ w3.heap.size := HB03.out.size
        clear hb3 x0 x1 x2 x3 HV HDS
        generalize (nth Ac.z acts k).ks = ks at *
        go_wp2_with fail
        go_loopg [6, 50] ks.length (fun g' er q w' => ∃ (j : Nat) (c2 : List Int) (x2 : Value), j + g' = ks.length ∧ q = .int .i64 j ∧ er = .nilIface ∧ OwnInt w.heap.size w' (.slice rg r.length rk) r ∧ WkAt w0.heap.size X w' v0 (.slice (some ⟨b, off, none⟩) p.bodies.length cb) x2 c2 ∧ FrS (fun b => b = X) w w' ∧ Hid (kidsD (bodyD p.bodies n) ks c = kidsD (bodyD p.bodies n) (ks.drop j) c2))
        case atStart => exact ⟨0, c, x, by omega, rfl, rfl, HO.out.below (HB3.out.alloc hsz3 _) (Nat.le_refl _), HWk.out.below (HB3.out.alloc hsz3 _), HF.out.trans (.of_below (HB3.out.alloc hsz3 _)), rfl⟩
        case round =>
          obtain ⟨j, c2, x2, hj, rfl, rfl, hown2, hWk2, hF2, HKD⟩ := hrel
          have HO2 := (show Hid (OwnInt _ _ _ _) from hown2)
          have HWk2 := (show Hid (WkAt _ _ _ _ _ _ _) from hWk2)
          have HF2 := (show Hid (FrS _ _ _) from hF2)
          have HB2 : Hid (Below w0.heap.size w0 wr) := HB.out.trans (HF2.out.below (fun k hk => by rw [hk]; exact hbase) HB.out.size)
          clear hown2 hWk2 hF2
          cases gk with
          | zero =>
            have hjl : ¬ ((j : Int) < (ks.length : Int)) := by omega
            have HN : Hid (actsD (bodyD p.bodies n) acts c0 [0, 0, 0] = actsD (bodyD p.bodies n) (acts.drop (k + 1)) c2 r) := by
              rw [Hid, HHD.out, HS.out, HKD.out, kidsD_end (by omega)]; rfl
            clear HKD HHD HS HDk
            go_wp2_with fail
            go_roundg g
            case measure => omega
            case rel => exact ⟨k + 1, c2, r, x2, by omega, by go_num, rfl, HR0.out, HO2.out, HWk2.out, HF2.out, HN.out⟩
          | succ g' =>
            have hjl : (j : Int) < (ks.length : Int) := by omega
            have hjn : j < ks.length := by omega
            obtain ⟨ak', ck', e1, _, hks⟩ := HKS.out
            injection e1 with e11 e12 e13
            subst e11 e13
            clear e12
            obtain ⟨b4, off4, rfl, hb4, y0⟩ := hks j hjn
            rw [← HB2.out.cell (p := ⟨b4, _, none⟩) hb4] at y0
            have hb4r : b4 < wr.heap.size := Nat.lt_of_lt_of_le hb4 HB2.out.size
            have hkk := HKB.out _ (nth_mem 0 ks j hjn)
            obtain ⟨m, hm⟩ : ∃ m : Nat, nth 0 ks j = (m : Int) := ⟨(nth 0 ks j).toNat, by omega⟩
            have HKS2 := (show Hid (_ = _) from kidsD_step (f := bodyD p.bodies n) (c := c2) hjn hm)
            rw [hm] at y0 hkk
            have hm1 : m < p.bodies.length := by omega
            have hm2 : p.bodies.length ≤ n + m := by omega
            clear hks hm hkk
            go_wp2_with fail
            refine (IH.out m _ c2 _ HWk2.out HB2.out hm1 hm2).mono ?_
            rintro e w5 ⟨x5, rfl, hw5, hf5⟩
            obtain ⟨o, C, hO⟩ : ∃ o C, bodyD p.bodies n m c2 = (o, C) := ⟨_, _, rfl⟩
            rw [hO] at hw5 ⊢
            dsimp only at hw5 ⊢
            have HW5 := (show Hid (WkAt _ _ _ _ _ _ _) from hw5)
            have HF5 : Hid (FrS (fun b => b = X) w w5) := HF2.out.trans hf5
            have HO5 : Hid (OwnInt w.heap.size w5 (.slice rg r.length rk) r) := own_heap HO2.out fun q hq => hf5.block q (HO2.out.lt q hq).2 (fun e => by have := (HO2.out.lt q hq).1; omega)
            clear hw5 hf5
            by_cases ho : o = 0
            · subst ho
              have HK2 : Hid (kidsD (bodyD p.bodies n) ks c = kidsD (bodyD p.bodies n) (ks.drop (j + 1)) C) := by
                rw [Hid, HKD.out, HKS2.out, hO]; rfl
              have HEV : Hid (errV aN aF 0 = .nilIface) := rfl
              clear HKD HKS2 hO
              rw [HEV.out]
              go_wp2_with fail
              go_roundg g'
              case measure => omega
              case rel => exact ⟨j + 1, C, x5, by omega, by go_num, rfl, HO5.out, HW5.out, HF5.out, HK2.out⟩
            · have HZ : Hid (bodyD p.bodies (n + 1) i c0 = (o, C)) := HDk.out _ (by rw [HS.out, HKD.out, HKS2.out, hO]; simp [ho])
              obtain ⟨ae, hae⟩ : ∃ a, errV aN aF o = erV a := by
                unfold errV
                rw [if_neg ho]
                split
                · exact ⟨_, rfl⟩
                · exact ⟨_, rfl⟩
              have HEV := (show Hid (_ = _) from hae)
              clear HKD HKS2 hO hae HS HDk HHD ho
              rw [HEV.out]
              unfold erV
              go_wp2_with fail
              (try rw [Exit.noGoto_ret])
              go_ret
              exact ⟨x5, by rw [HZ.out, HEV.out]; rfl, by rw [HZ.out]; exact HW5.out, HF5.out⟩
      · have HV : Hid (acV (nth Ac.z acts k) (.slice ad (nth Ac.z acts k).ds.length cd) (.slice ak (nth Ac.z acts k).ks.length ck) = _) := acV_3 _ _ h3
        have HZ : Hid (bodyD p.bodies (n + 1) i c0 = (1, c)) := HDk.out _ (actsD_fail hlt h3.1)
        clear hq h3 HDk HHD
        go_wp2_with fail
        refine (actPart_any (nth Ac.z acts k) _ _ _ (HDS.out.mono (HBr.out.alloc HBr.out.size _)) (HKS.out.mono (HBr.out.alloc HBr.out.size _))).mono ?_
        rw [HV.out]
        rintro e w3 ⟨rfl, hb3⟩
        have HB3 : Hid (Below wr.heap.size wr w3) := below_after (Below.refl _ _) (Nat.le_refl _) hb3
        have hsz3 : wr.heap.size ≤ w3.heap.size := HB3.out.size
        have g1 := (HE.out.mono (HBr.out.trans (HB3.out.mono HBr.out.size))).f
        have g1l := World.block_lt_of_cell? w3 _ g1
        unfold erV at g1
        dsimp only at g1l
        clear hb3 x0 x1 x2 x3 HV
        go_wp2_with fail
        (try rw [Exit.noGoto_ret])
        go_ret
        exact ⟨x, by rw [HZ.out]; rfl, by rw [HZ.out]; exact HWk.out.below (HB3.out.alloc hsz3 _), HF.out.trans (.of_below (HB3.out.alloc hsz3 _))⟩
      · have HV : Hid (acV (nth Ac.z acts k) (.slice ad (nth Ac.z acts k).ds.length cd) (.slice ak (nth Ac.z acts k).ks.length ck) = _) := acV_4 _ _ ⟨h4a, h4b, h4c⟩
        have hS := actsD_if (f := bodyD p.bodies n) (c := c) (r := r) hlt h4a
        obtain ⟨m, hm⟩ : ∃ m : Nat, (nth Ac.z acts k).r = (m : Int) := ⟨(nth Ac.z acts k).r.toNat, by omega⟩
        rw [hm] at h4d
        have hm3 : m < r.length := by rw [HR0.out]; omega
        have hmi : (m : Int) < (r.length : Int) := by omega
        rw [hm, Int.toNat_natCast] at hS
        rw [hm] at HV
        have HS := (show Hid (_ = _) from hS)
        obtain ⟨g5, k5, e5, g5b, g5l, _, _, hr5⟩ := HO.out.get m hm3
        obtain ⟨hr5, _⟩ := hr5 m hm3
        injection e5 with e51 e52 e53
        subst e51 e53
        have HR5 := (show Hid (_ = _) from hr5)
        clear hq h4a h4b h4c h4d hS hr5 e52
        clear hm
        go_wp2_with fail
        refine (actPart_any (nth Ac.z acts k) _ _ _ (HDS.out.mono (HBr.out.alloc HBr.out.size _)) (HKS.out.mono (HBr.out.alloc HBr.out.size _))).mono ?_
        rw [HV.out]
        rintro e w3 ⟨rfl, hb3⟩
        have HB3 : Hid (Below wr.heap.size wr w3) := below_after (Below.refl _ _) (Nat.le_refl _) hb3
        have hsz3 : wr.heap.size ≤ w3.heap.size := HB3.out.size
        have q5 : w3.cell? ⟨g5, m, none⟩ = some (.int .i64 (nth 0 r m)) := by rw [HB3.out.cell (p := ⟨g5, m, none⟩) g5l]; exact HR5.out
        have g5l3 : g5 < w3.heap.size := by omega
        have g1 := (HE.out.mono (HBr.out.trans (HB3.out.mono HBr.out.size))).f
        have g1l := World.block_lt_of_cell? w3 _ g1
        unfold erV at g1
        dsimp only at g1l
        clear hb3 x0 x1 x2 x3 HV
        by_cases hz : nth 0 r m = 0
        · have hz' : (nth 0 r m == 0) = true := by simp [hz]
          have HN : Hid (actsD (bodyD p.bodies n) acts c0 [0, 0, 0] = actsD (bodyD p.bodies n) (acts.drop (k + 1)) c r) := by rw [Hid, HHD.out, HS.out, if_pos hz]
          clear HHD HS HDk hz
          go_wp2_with fail
          go_roundg g
          case measure => omega
          case rel => exact ⟨k + 1, c, r, x, by omega, by go_num, rfl, HR0.out, HO.out.below (HB3.out.alloc hsz3 _) (Nat.le_refl _), HWk.out.below (HB3.out.alloc hsz3 _), HF.out.trans (.of_below (HB3.out.alloc hsz3 _)), HN.out⟩
        · have hz' : (nth 0 r m == 0) = false := by simp [hz]
          have HZ : Hid (bodyD p.bodies (n + 1) i c0 = (1, c)) := HDk.out _ (by rw [HS.out, if_neg hz])
          clear HHD HS HDk hz
          go_wp2_with fail
          (try rw [Exit.noGoto_ret])
          go_ret
          exact ⟨x, by rw [HZ.out]; rfl, by rw [HZ.out]; exact HWk.out.below (HB3.out.alloc hsz3 _), HF.out.trans (.of_below (HB3.out.alloc hsz3 _))⟩

end Go.Proofs.YtpehlekjfnkhoaaDoor
