/-
  OneRun, of the program.
-/
import Derived.Test.YtpehlekjfnkhoaaDoorI4
import Derived.Deep.DeepCutAuto
import Derived.Deep.QuietTactic
import Derived.BigQuiet
namespace Go.Proofs.YtpehlekjfnkhoaaDoor
open Go.RowKit
set_option linter.unusedSimpArgs false
set_option linter.unusedVariables false
set_option maxRecDepth 20000

set_option maxHeartbeats 1000000 in
theorem listCopyO_any (v : Value) (xs : List Int) (w : World) (h : IntsAt w v xs) (hn : xs.length ≤ 1048576) :
    Calls Tryd.prog 21 #[v] w fun r w' => ∃ v', r = .returned v' ∧ OwnInt w.heap.size w' v' xs ∧ Below w.heap.size w w' := by
  obtain ⟨i0, hi, hz0, hz1, hz2⟩ := info_parts Tryd.info_int
  obtain ⟨a, cap, rfl, hm⟩ := h.shape
  have H := (show Hid (IntsAt _ _ _) from h)
  clear h
  go_enter Tryd.func21, Tryd.ntmps21
  go_wp2_with (at_builtin; refine wpList_append_src rfl _ _ 23 rfl w.heap.size 3 i0 (.int .i64 0) 1 8 Tryd.underlying23 hi hz0 hz1 hz2 rfl (by decide) _ _ _ rfl (World.ownsRow_nil _ _ _ _) _ _ _ (xs.map (Value.int .i64)) rfl (by simp) (ints_from H.out) (ints_one xs) ?s3 ?s4 ?s5 ?_)
  case s3 => unfold maxLen; omega
  case s4 => omega
  case s5 => simp
  intro v1 w2 hown1 hgrow1
  have HO : Hid (OwnInt w.heap.size w2 v1 xs) := by
    unfold Hid OwnInt
    (try rw [Nat.zero_add] at hown1); (try rw [List.nil_append] at hown1)
    exact hown1
  have HB : Hid (Below w.heap.size w w2) := (Below.refl _ _).grown hgrow1 (Nat.le_refl _) (fun g hg => by simp [Value.ownBlock] at hg)
  clear hown1 hgrow1
  obtain ⟨a1, k1, rfl, _⟩ := own_shape HO.out
  go_wp2_with fail
  go_ret
  exact ⟨_, rfl, HO.out, HB.out⟩

theorem wk_late {w1 w2 : World} {v0 v1 v : Value} {c : List Int} (ho : OwnInt w1.drew.heap.size w2 v c) (hb : Below w1.drew.heap.size w1.drew w2) :
    WkAt w1.heap.size w2.heap.size (w2.alloc (.cells #[v0, v1, v] 55)) v0 v1 v c ∧ Below w1.heap.size w1 (w2.alloc (.cells #[v0, v1, v] 55)) := by
  have hz : w1.heap.size ≤ w2.heap.size := hb.size
  refine ⟨⟨hz, by simp, by simp [go_sem], by simp [go_sem], by simp [go_sem], OwnInt.alloc ho _, fun e => ?_, by simp [go_sem]⟩, ?_⟩
  · have := (ho.lt _ e).2; omega
  · exact (((Below.refl w1.heap.size w1).drew).trans hb).alloc hz _
theorem wk_early {w1 w2 : World} {v0 v1 v : Value} {c : List Int} (ho : OwnInt (w1.drew.alloc (.cells #[.slice none 0 0, .slice none 0 0, .slice none 0 0] 55)).heap.size w2 v c) (hb : Below (w1.drew.alloc (.cells #[.slice none 0 0, .slice none 0 0, .slice none 0 0] 55)).heap.size (w1.drew.alloc (.cells #[.slice none 0 0, .slice none 0 0, .slice none 0 0] 55)) w2) :
    WkAt w1.heap.size w1.heap.size (((w2.setCell ⟨w1.heap.size, 0, none⟩ v0).setCell ⟨w1.heap.size, 1, none⟩ v1).setCell ⟨w1.heap.size, 2, none⟩ v) v0 v1 v c ∧ Below w1.heap.size w1 (((w2.setCell ⟨w1.heap.size, 0, none⟩ v0).setCell ⟨w1.heap.size, 1, none⟩ v1).setCell ⟨w1.heap.size, 2, none⟩ v) := by
  have hz : w1.heap.size < w2.heap.size := by have := hb.size; simp at this; omega
  have hB : Blk (w1.drew.alloc (.cells #[.slice none 0 0, .slice none 0 0, .slice none 0 0] 55)) w1.heap.size 3 := Blk.new w1.drew _ _
  have hB2 : Blk w2 w1.heap.size 3 := hB.below hb
  have hlo : ∀ g, v.ownBlock = some g → w1.heap.size + 1 ≤ g := fun g e => by have := (ho.lt g e).1; simp at this; omega
  have hne : v.ownBlock ≠ some w1.heap.size := fun e => by have := hlo _ e; omega
  refine ⟨⟨Nat.le_refl _, by simpa using hz, ?_, ?_, ?_, ?_, hne, ?_⟩, ?_⟩
  · rw [cell_set_other _ _ _ _ _ (by intro e; injection e with e1 e2; omega), cell_set_other _ _ _ _ _ (by intro e; injection e with e1 e2; omega)]
    exact cell_set_same hB2 0 (by omega) _
  · rw [cell_set_other _ _ _ _ _ (by intro e; injection e with e1 e2; omega)]
    exact cell_set_same (hB2.set _ _) 1 (by omega) _
  · exact cell_set_same ((hB2.set _ _).set _ _) 2 (by omega) _
  · have h0 : OwnInt w1.heap.size w2 v c := own_base ho (by simp)
    exact OwnInt.set_other (OwnInt.set_other (OwnInt.set_other h0 hne _) hne _) hne _
  · exact (((hB2.set 0 v0).set 1 v1).set 2 v).2 2 (by omega) |>.2
  · have h1 : Below w1.heap.size w1 w2 := (((Below.refl w1.heap.size w1).drew).alloc (Nat.le_refl _) _).trans (hb.mono (by simp))
    exact ((h1.setCell (p := ⟨w1.heap.size, 0, none⟩) (Nat.le_refl _) _).setCell (p := ⟨w1.heap.size, 1, none⟩) (Nat.le_refl _) _).setCell (p := ⟨w1.heap.size, 2, none⟩) (Nat.le_refl _) _

set_option maxHeartbeats 1000000 in
theorem oneRun_any (p : Pr) (cv bv : Value) (aN aF : Addr) (w : World) (hc : IntsAt w cv p.cells) (hB : BodiesAt w bv p.bodies) (hE : ErrGl w aN aF) :
    Calls Tryd.prog 7 #[.agg #[cv, bv]] w fun e w' => ∃ x, e = .returned (.tuple #[x, .bool (oneX p).2.1, .bool (oneX p).2.2]) ∧ OwnInt w.heap.size w' x (oneX p).1 ∧ Below w.heap.size w w' := by
  obtain ⟨ac, cc, rfl, hmc⟩ := hc.shape
  obtain ⟨ab, cb, rfl, hmb⟩ := hB.shape
  have HC := (show Hid (IntsAt _ _ _) from hc)
  have HB := (show Hid (BodiesAt _ _ _) from hB)
  have HE := (show Hid (ErrGl _ _ _) from hE)
  clear hc hB hE
  cases h1 : okB p
  · have HX : Hid (oneX p = ([], false, false)) := by simp [Hid, oneX, h1]
    have H1 := (show Hid (_ = _) from h1)
    clear h1
    go_enter Tryd.func7, Tryd.ntmps7
    go_wp2_with fail
    refine (progOk_any p _ _ _ (HC.out.mono ((Below.refl _ _).alloc (Nat.le_refl _) _)) (HB.out.mono ((Below.refl _ _).alloc (Nat.le_refl _) _))).mono ?_
    rw [H1.out]
    rintro e w1 ⟨rfl, hb1⟩
    have HB1 : Hid (Below w.heap.size w w1) := below_after (Below.refl _ _) (Nat.le_refl _) hb1
    clear hb1
    go_wp2_with fail
    refine bodyPost_ret (v := .tuple #[.slice none 0 0, .bool false, .bool false]) (by simp [results, Tryd.results7, go_sem]) rfl ⟨_, by rw [HX.out], by rw [HX.out]; exact World.ownsRow_nil _ _ _ _, HB1.out⟩
  have hfo : foB p = true := by simp [okB] at h1; exact h1.1
  obtain ⟨hform, hlen⟩ := foB_form hfo
  have hcs : p.cells.length ≤ 1048576 := by
    have : csB p.cells = true := by simp [foB] at hfo; exact hfo.1.1
    simp [csB] at this; omega
  have HFO := (show Hid (Form p) from hform)
  have H1 := (show Hid (_ = _) from h1)
  clear h1 hfo hform
  go_enter Tryd.func7, Tryd.ntmps7
  go_wp2_with fail
  refine (progOk_any p _ _ _ (HC.out.mono ((Below.refl _ _).alloc (Nat.le_refl _) _)) (HB.out.mono ((Below.refl _ _).alloc (Nat.le_refl _) _))).mono ?_
  rw [H1.out]
  rintro e w1 ⟨rfl, hb1⟩
  have HB1 : Hid (Below w.heap.size w w1) := below_after (Below.refl _ _) (Nat.le_refl _) hb1
  have e0 : w1.cell? ⟨w.heap.size, 0, none⟩ = some (.slice ac p.cells.length cc) := by rw [hb1.cell (p := ⟨w.heap.size, 0, none⟩) (by simp)]; simp [go_sem]
  have e1 : w1.cell? ⟨w.heap.size, 1, none⟩ = some (.slice ab p.bodies.length cb) := by rw [hb1.cell (p := ⟨w.heap.size, 1, none⟩) (by simp)]; simp [go_sem]
  have z1 : w.heap.size < w1.heap.size := by have := hb1.size; simp at this; omega
  clear hb1
  have z1' : w.heap.size < w1.heap.size + 1 := by omega
  have HC1 : Hid (IntsAt w1.drew (.slice ac p.cells.length cc) p.cells) := HC.out.mono HB1.out.drew
  have HC2 : Hid (∀ o, IntsAt (w1.drew.alloc o) (.slice ac p.cells.length cc) p.cells) := fun o => HC.out.mono (HB1.out.drew.alloc HB1.out.size _)
  have HC3 : Hid (∀ o, IntsAt (w1.alloc o).drew (.slice ac p.cells.length cc) p.cells) := fun o => HC.out.mono (HB1.out.alloc HB1.out.size _).drew
  go_wp2_with fail
  go_cut [5] (fun s5 wx => ∃ X v, s5 = .pointer (some ⟨X, 0, none⟩) ∧ WkAt w1.heap.size X wx (.slice ac p.cells.length cc) (.slice ab p.bodies.length cb) v p.cells ∧ Below w1.heap.size w1 wx)
  case first =>
    go_region_with (first | (go_at_call 21; refine (listCopyO_any _ p.cells w1.drew HC1.out hcs).mono ?_; rintro e w2 ⟨v, rfl, ho2, hb2⟩; obtain ⟨a2, k2, rfl, _⟩ := own_shape ho2; have e02 : w2.cell? ⟨w.heap.size, 0, none⟩ = some (.slice ac p.cells.length cc) := ((hb2.cell (p := ⟨w.heap.size, 0, none⟩) (by simp; omega)).trans (by simp [go_sem, e0, z1])); have e12 : w2.cell? ⟨w.heap.size, 1, none⟩ = some (.slice ab p.bodies.length cb) := ((hb2.cell (p := ⟨w.heap.size, 1, none⟩) (by simp; omega)).trans (by simp [go_sem, e1, z1])); have z2 : w.heap.size < w2.heap.size := (by have := hb2.size; simp at this; omega)) | (go_at_call 21; refine (listCopyO_any _ p.cells (w1.drew.alloc _) (HC2.out _) hcs).mono ?_; rintro e w2 ⟨v, rfl, ho2, hb2⟩; obtain ⟨a2, k2, rfl, _⟩ := own_shape ho2; have e02 : w2.cell? ⟨w.heap.size, 0, none⟩ = some (.slice ac p.cells.length cc) := ((hb2.cell (p := ⟨w.heap.size, 0, none⟩) (by simp; omega)).trans (by simp [go_sem, e0, z1])); have e12 : w2.cell? ⟨w.heap.size, 1, none⟩ = some (.slice ab p.bodies.length cb) := ((hb2.cell (p := ⟨w.heap.size, 1, none⟩) (by simp; omega)).trans (by simp [go_sem, e1, z1])); have z2 : w.heap.size < w2.heap.size := (by have := hb2.size; simp at this; omega); have hz3 : w1.heap.size < w2.heap.size := (by have := hb2.size; simp at this; omega); have f02 : ∀ o, w2.frozen? ⟨w1.heap.size, o, none⟩ = false := (fun o => (hb2.frozen (p := ⟨w1.heap.size, o, none⟩) (by simp)).trans (by simp [go_sem])); have g02 : w2.cell? ⟨w1.heap.size, 0, none⟩ = some (.slice none 0 0) := ((hb2.cell (p := ⟨w1.heap.size, 0, none⟩) (by simp)).trans (by simp [go_sem])); have g12 : w2.cell? ⟨w1.heap.size, 1, none⟩ = some (.slice none 0 0) := ((hb2.cell (p := ⟨w1.heap.size, 1, none⟩) (by simp)).trans (by simp [go_sem])); have g22 : w2.cell? ⟨w1.heap.size, 2, none⟩ = some (.slice none 0 0) := ((hb2.cell (p := ⟨w1.heap.size, 2, none⟩) (by simp)).trans (by simp [go_sem]))) | (go_at_call 21; refine (listCopyO_any _ p.cells ((w1.alloc _).drew) (HC3.out _) hcs).mono ?_; rintro e w2 ⟨v, rfl, ho2, hb2⟩; obtain ⟨a2, k2, rfl, _⟩ := own_shape ho2; have e02 : w2.cell? ⟨w.heap.size, 0, none⟩ = some (.slice ac p.cells.length cc) := ((hb2.cell (p := ⟨w.heap.size, 0, none⟩) (by simp; omega)).trans (by simp [go_sem, e0, z1])); have e12 : w2.cell? ⟨w.heap.size, 1, none⟩ = some (.slice ab p.bodies.length cb) := ((hb2.cell (p := ⟨w.heap.size, 1, none⟩) (by simp; omega)).trans (by simp [go_sem, e1, z1])); have z2 : w.heap.size < w2.heap.size := (by have := hb2.size; simp at this; omega); have hz3 : w1.heap.size < w2.heap.size := (by have := hb2.size; simp at this; omega); have f02 : ∀ o, w2.frozen? ⟨w1.heap.size, o, none⟩ = false := (fun o => (hb2.frozen (p := ⟨w1.heap.size, o, none⟩) (by simp)).trans (by simp [go_sem])); have g02 : w2.cell? ⟨w1.heap.size, 0, none⟩ = some (.slice none 0 0) := ((hb2.cell (p := ⟨w1.heap.size, 0, none⟩) (by simp)).trans (by simp [go_sem])); have g12 : w2.cell? ⟨w1.heap.size, 1, none⟩ = some (.slice none 0 0) := ((hb2.cell (p := ⟨w1.heap.size, 1, none⟩) (by simp)).trans (by simp [go_sem])); have g22 : w2.cell? ⟨w1.heap.size, 2, none⟩ = some (.slice none 0 0) := ((hb2.cell (p := ⟨w1.heap.size, 2, none⟩) (by simp)).trans (by simp [go_sem]))))
    all_goals
      go_wp2_with fail
      go_meet
      first
        | exact ⟨_, _, rfl, wk_late ho2 hb2⟩
        | exact ⟨_, _, rfl, wk_early ho2 hb2⟩
  case rest =>
    obtain ⟨X, v, rfl, hW, hbw⟩ := hcut
    have HW := (show Hid (WkAt _ _ _ _ _ _ _) from hW)
    have HBW := (show Hid (Below _ _ _) from hbw)
    clear hW hbw e0 e1 HC1 HC2 HC3
    go_wp2_with fail
    refine (doBody_fuel p _ _ aN aF w1 HFO.out (HB.out.mono HB1.out) (HE.out.mono HB1.out) X 4 0 v p.cells wc HW.out HBW.out (by omega) (by have := HFO.out.1; omega)).mono ?_
    rintro e w3 ⟨x3, rfl, hw3, hf3⟩
    obtain ⟨o, C, hO⟩ : ∃ o C, bodyD p.bodies 4 0 p.cells = (o, C) := ⟨_, _, rfl⟩
    rw [hO] at hw3 ⊢
    dsimp only at hw3 ⊢
    have hbase := HW.out.base
    have HB3 : Hid (Below w1.heap.size w1 w3) := HBW.out.trans (hf3.below (fun k hk => by rw [hk]; exact hbase) HBW.out.size)
    have HBw3 : Hid (Below w.heap.size w w3) := HB1.out.trans (HB3.out.mono HB1.out.size)
    have HO3 : Hid (OwnInt w.heap.size w3 x3 C) := own_base hw3.own HB1.out.size
    have c2 := hw3.c2
    have hlX := hw3.lt
    have hE3 := (HE.out.mono HB1.out).mono HB3.out
    have g1 := hE3.n
    have g2 := hE3.f
    have g1l := World.block_lt_of_cell? w3 _ g1
    have g2l := World.block_lt_of_cell? w3 _ g2
    have HE3 := (show Hid (ErrGl _ _ _) from hE3)
    unfold erV at g1 g2
    dsimp only at g1l g2l
    clear hw3 hf3 HBW HW hE3
    obtain ⟨ax, kx, rfl, _⟩ := own_shape HO3.out
    by_cases o0 : o = 0
    · subst o0
      have HX : Hid (oneX p = (C, false, true)) := by simp [Hid, oneX, H1.out, hO]
      have HEV : Hid (errV aN aF 0 = .nilIface) := rfl
      clear hO
      rw [HEV.out]
      go_wp2_with fail
      refine (is_nil aN _).mono ?_
      rintro e w' ⟨rfl, hw⟩
      have hw := hw.symm
      subst hw
      go_wp2_with fail
      go_quiet ((go_at_call 23; exact Calls.quiet_of_same (is_nil aF _)))
      go_wp2_with fail
      refine bodyPost_ret (v := .tuple #[.slice ax C.length kx, .bool false, .bool true]) (by simp [results, Tryd.results7, go_sem]) rfl ⟨_, by rw [HX.out], by rw [HX.out]; exact HO3.out.below (below_drewN (Below.refl w3.heap.size w3) _) (Nat.le_refl _), below_drewN HBw3.out _⟩
    by_cases o1 : o = 1
    · subst o1
      have HX : Hid (oneX p = (C, true, true)) := by simp [Hid, oneX, H1.out, hO]
      have HEV : Hid (errV aN aF 1 = erV aF) := rfl
      obtain ⟨cn, tn, hrn⟩ := HE3.out.rn
      obtain ⟨cf, tf, hrf⟩ := HE3.out.rf
      have HIO := (show Hid (∀ hne, _) from fun hne => is_other aF aN cf cn tf tn w3 hne hrf hrn)
      clear hO hrn hrf
      rw [HEV.out]
      unfold erV
      go_wp2_with fail
      refine (HIO.out (fun e => HE3.out.ne e.symm)).mono ?_
      rintro e w' ⟨rfl, hw⟩
      have hw := hw.symm
      subst hw
      go_wp2_with fail
      go_quiet ((go_at_call 23; exact Calls.quiet_of_same (is_same aF _)))
      go_wp2_with fail
      refine bodyPost_ret (v := .tuple #[.slice ax C.length kx, .bool true, .bool true]) (by simp [results, Tryd.results7, go_sem]) rfl ⟨_, by rw [HX.out], by rw [HX.out]; exact HO3.out.below (below_drewN (Below.refl w3.heap.size w3) _) (Nat.le_refl _), below_drewN HBw3.out _⟩
    · have HX : Hid (oneX p = ([], false, false)) := by simp [Hid, oneX, H1.out, hO, o0, o1]
      have HEV : Hid (errV aN aF o = erV aN) := by unfold Hid errV; rw [if_neg o0, if_neg o1]
      clear hO o0 o1
      rw [HEV.out]
      unfold erV
      go_wp2_with fail
      refine (is_same aN _).mono ?_
      rintro e w' ⟨rfl, hw⟩
      have hw := hw.symm
      subst hw
      go_wp2_with fail
      refine bodyPost_ret (v := .tuple #[.slice none 0 0, .bool false, .bool false]) (by simp [results, Tryd.results7, go_sem]) rfl ⟨_, by rw [HX.out], by rw [HX.out]; exact World.ownsRow_nil _ _ _ _, HBw3.out⟩

end Go.Proofs.YtpehlekjfnkhoaaDoor
