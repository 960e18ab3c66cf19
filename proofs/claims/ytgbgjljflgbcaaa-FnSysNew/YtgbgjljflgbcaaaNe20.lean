import Derived.Test.YtgbgjljflgbcaaaNe19
import Derived.Deep.RegionLaw
namespace Go.Proofs.Ytgbgjljflgbcaaa
open Go.RowKit
set_option maxRecDepth 20000
set_option linter.unusedSimpArgs false
set_option linter.unusedVariables false
set_option maxRecDepth 100000 in
set_option maxHeartbeats 4000000 in
theorem l71Bent_any (T : Nat → Prop) (B R p : Nat) (cv bv : Value) (xs : List Int) (bs : List (List Ac)) (w : World) (h : RdAt B w R p) (hp : p ≤ 600000) (hT : ∀ b, T b → b ≠ R) (hTn : ∀ b, w.heap.size ≤ b → T b) (hc : IntsOn T w cv xs) (hB : BodiesOn T w bv bs)
    (hx1 : 1 ≤ xs.length) (hx3 : xs.length ≤ 3) (hb1 : 1 ≤ bs.length) (hb4 : bs.length ≤ 4) (ha : ∀ i, i < bs.length → (nth [] bs i).length ≤ 4) :
    Calls Try.prog 80 #[.pointer (some ⟨R, 0, none⟩), .agg #[cv, bv]] w fun e w' => ∃ (pr : Pr) (cv' bv' : Value) (p' : Nat), e = .returned (.agg #[cv', bv']) ∧ IntsOn T w' cv' pr.cells ∧ BodiesOn T w' bv' pr.bodies ∧ pr.bodies.length ≤ 10 ∧ p ≤ p' ∧ p' ≤ p + 10 ∧ RdAt B w' R p' ∧ Fr R w.heap.size w w' := by
  have hlt := h.lt
  have hle := h.le
  obtain ⟨i1, hi1, hy0, hy1, hy2⟩ := info_parts Try.info_act
  obtain ⟨i2, hi2, hx0, hx1', hx2⟩ := info_parts Try.info_int
  obtain ⟨i3, hi3, hz0, hz1, hz2⟩ := info_parts Try.info_acts
  obtain ⟨bc, oc, capc, rfl, hSc, hbc, hnewc⟩ := ints_srcS hc hx1
  have HSB : Hid (BodiesOn (fun b => T b ∧ b < w.heap.size) w bv bs) := hB.bound
  obtain ⟨ab, capb, hbv, _⟩ := hB.shape
  subst hbv
  have HR := (show Hid (RdAt _ _ _ _) from h)
  have HA := (show Hid (∀ i, i < bs.length → _) from ha)
  have HN := (show Hid (∀ j u, _) from hnewc)
  clear hc hB h ha hnewc
  have HO3 : Hid ((((w.alloc (.cells #[.slice (some ⟨bc, oc, none⟩) xs.length capc, .slice ab bs.length capb] 26)).alloc (.cells #[.slice none 0 0, .slice none 0 0] 26)).alloc (.cells #[] 3)).ownsRow w.heap.size 3 1 (.slice (some ⟨w.heap.size + 1 + 1, 0, none⟩) 0 0) 0 []) := by
    have := World.ownsRow_made (base := w.heap.size) (e := 3) (size := 1) ((w.alloc (.cells #[.slice (some ⟨bc, oc, none⟩) xs.length capc, .slice ab bs.length capb] 26)).alloc (.cells #[.slice none 0 0, .slice none 0 0] 26)) #[] 0 (by simp; omega) (by unfold maxLen; omega) (by simp)
    rwa [show ((w.alloc (.cells #[.slice (some ⟨bc, oc, none⟩) xs.length capc, .slice ab bs.length capb] 26)).alloc (.cells #[.slice none 0 0, .slice none 0 0] 26)).heap.size = w.heap.size + 1 + 1 from by simp] at this
  have HN3 : Hid (∀ j u, (xs.map (Value.int .i64))[j]? = some u → (((w.alloc (.cells #[.slice (some ⟨bc, oc, none⟩) xs.length capc, .slice ab bs.length capb] 26)).alloc (.cells #[.slice none 0 0, .slice none 0 0] 26)).alloc (.cells #[] 3)).cell? ((⟨bc, oc, none⟩ : Addr).add j) = some u) := fun j u hj => by
    have h1 := HN.out j u hj
    rw [Go.WideShapes.add_plain] at h1 ⊢
    rw [World.cell?_alloc_past _ _ _ (by simp; omega), World.cell?_alloc_past _ _ _ (by simp; omega), World.cell?_alloc_past _ _ _ hbc]
    exact h1
  go_enter Try.func80, Try.ntmps80
  go_wp2_with (at_builtin; refine wpList_append_own _ rfl _ _ 23 rfl w.heap.size 3 i2 (.int .i64 0) 1 8 Try.underlying23 hi2 hx0 hx1' hx2 rfl (by decide) _ _ _ rfl HO3.out ⟨bc, oc, none⟩ xs.length capc (xs.map (Value.int .i64)) rfl (by simp) HN3.out (by intro u hu; simp at hu; obtain ⟨y, _, rfl⟩ := hu; rfl) (by unfold maxLen; omega) (by omega) (by simp; omega) ?_)
  intro v1 w1 hown1 hgrow1 _
  have HB1 : Hid (Below w.heap.size w w1) := ((((Below.refl _ _).alloc (Nat.le_refl _) _).alloc (by simp) _).alloc (by simp; omega) _).grown hgrow1 (by simp; omega) (fun g hg => (HO3.out.lt g hg).1)
  have T1 : TagKept 3 _ w1 := TagKept.grown HO3.out hgrow1
  have HP1 : Hid (PBox w1 w.heap.size (.slice (some ⟨bc, oc, none⟩) xs.length capc) (.slice ab bs.length capb)) := PBox.tag (PBox.alloc (PBox.alloc (heap_alloc_new w _) _) _) T1 (by decide)
  have HG1 : Hid (PBox w1 (w.heap.size + 1) (.slice none 0 0) (.slice none 0 0)) := by
    have h0 : PBox ((w.alloc (.cells #[.slice (some ⟨bc, oc, none⟩) xs.length capc, .slice ab bs.length capb] 26)).alloc (.cells #[.slice none 0 0, .slice none 0 0] 26)) (w.heap.size + 1) (.slice none 0 0) (.slice none 0 0) := by
      have := heap_alloc_new (w.alloc (.cells #[.slice (some ⟨bc, oc, none⟩) xs.length capc, .slice ab bs.length capb] 26)) (.cells #[.slice none 0 0, .slice none 0 0] 26)
      rwa [show (w.alloc (.cells #[.slice (some ⟨bc, oc, none⟩) xs.length capc, .slice ab bs.length capb] 26)).heap.size = w.heap.size + 1 from by simp] at this
    exact PBox.tag (PBox.alloc h0 _) T1 (by decide)
  have HO1 : Hid (OwnInt w.heap.size w1 v1 xs) := hown1
  obtain ⟨a1, cap1, hv1, hcap1, hcap1'⟩ := own_shape HO1.out
  subst hv1
  clear hown1 hgrow1 T1 HO3 HN3 HN
  have hs1 := HB1.out.size
  have hz1 : w.heap.size + 1 < w1.heap.size := HG1.out.lt
  go_wp2_with fail
  have HP2 : Hid (PBox (w1.alloc (.cells #[(.slice a1 xs.length cap1), (.slice none 0 0)] 26)) w.heap.size (.slice (some ⟨bc, oc, none⟩) xs.length capc) (.slice ab bs.length capb) ∧ PBox (w1.alloc (.cells #[(.slice a1 xs.length cap1), (.slice none 0 0)] 26)) (w.heap.size + 1) (.slice none 0 0) (.slice none 0 0) ∧ PBox (w1.alloc (.cells #[(.slice a1 xs.length cap1), (.slice none 0 0)] 26)) w1.heap.size (.slice a1 xs.length cap1) (.slice none 0 0) ∧ OwnInt w.heap.size (w1.alloc (.cells #[(.slice a1 xs.length cap1), (.slice none 0 0)] 26)) (.slice a1 xs.length cap1) xs ∧ Below w.heap.size w (w1.alloc (.cells #[(.slice a1 xs.length cap1), (.slice none 0 0)] 26))) :=
    ⟨HP1.out.alloc _, HG1.out.alloc _, heap_alloc_new w1 _, World.ownsRow.alloc HO1.out _, HB1.out.alloc hs1 _⟩
  have hPs : w.heap.size + 1 < w1.heap.size := hz1
  clear HP1 HG1 HO1 HB1 hz1 hs1
  generalize w1.alloc (.cells #[(.slice a1 xs.length cap1), (.slice none 0 0)] 26) = w2 at HP2 ⊢
  generalize w1.heap.size = P at HP2 hPs ⊢
  go_loopw [6] (fun q w' => ∃ (LB : List (List (Ac × Value × Value) × Value)) (ov : Value), q = .int .i64 LB.length ∧ LB.length ≤ bs.length ∧ (∀ y, y ∈ LB → y.1.length ≤ 4) ∧ OutB (fun b => T b ∧ b < w.heap.size) w.heap.size w' ov LB ∧ PBox w' w.heap.size (.slice (some ⟨bc, oc, none⟩) xs.length capc) (.slice ab bs.length capb) ∧ PBox w' (w.heap.size + 1) (.slice none 0 0) (.slice none 0 0) ∧ PBox w' P (.slice a1 xs.length cap1) ov ∧ OwnInt w.heap.size w' (.slice a1 xs.length cap1) xs ∧ Below w.heap.size w w') (fun q _ => bs.length - (intOf q).toNat)
  case atStart => exact ⟨[], _, rfl, by simp, fun y hy => by simp at hy, ⟨World.ownsRow_nil _ _ _ _, fun y hy => by simp at hy, fun y hy => by simp at hy, List.Pairwise.nil⟩, HP2.out.1, HP2.out.2.1, HP2.out.2.2.1, HP2.out.2.2.2.1, HP2.out.2.2.2.2⟩
  clear HP2
  case round =>
    obtain ⟨LB, ov, rfl, hLB, hL4, hOB, hPp, hPG, hPo, hOI, hBl⟩ := hrel
    by_cases hlb : LB.length < bs.length
    case neg =>
      have HOB := (show Hid (OutB _ _ _ _ _) from hOB)
      have HPP := (show Hid (PBox _ _ _ _) from hPp)
      have HPG := (show Hid (PBox _ _ _ _) from hPG)
      have HPO := (show Hid (PBox _ _ _ _) from hPo)
      have HOI := (show Hid (OwnInt _ _ _ _) from hOI)
      have HBL := (show Hid (Below _ _ _) from hBl)
      have HL4 := (show Hid (∀ y, y ∈ LB → _) from hL4)
      have HRn : Hid (RdAt B wr R p) := HR.out.below (hBl.mono hle)
      have cs := hPp.cells.2.1
      have hPlt := hPo.lt
      have hslt := hPp.lt
      have hi : ¬ (LB.length : Int) < (bs.length : Int) := by omega
      clear hOB hPp hPG hPo hOI hBl hL4 HR HA HSB
      have hs1 := HBL.out.size
      go_wp2_with (first | (go_at_call 48; refine (pick_any B R p _ _ HRn.out (by omega) (by omega) (by omega)).mono ?_; rintro e w2 ⟨q, rfl, q0, q1, hR2, hF2⟩; have HD2 : Hid (BtD T B R w.heap.size P w w2 (p + 1) (.slice a1 xs.length cap1) xs ov LB) := ⟨hR2, (Fr.of_below HBL.out).trans (hF2.mono hs1), HPG.out.fr hF2 (by omega), HPO.out.fr hF2 (by omega), own_fr HOI.out hF2 (by omega), OutB.fr HOB.out hF2 (by omega) (fun b hb => hT b hb.1), hT⟩; have hs2 : w.heap.size ≤ w2.heap.size := HD2.out.fr.size; clear hR2 hF2 HOB HPP HPG HPO HOI HBL HRn cs hslt hPlt; obtain ⟨ao, capo, hov, hcapo, hcapo'⟩ := own_shape HD2.out.ob.row; subst hov; obtain ⟨p20, p21, p22, p23⟩ := HD2.out.pp.cells; have p24 := HD2.out.pp.lt; have hq : q = 0 ∨ q = 1 ∨ q = 2 ∨ q = 3 ∨ q = 4 ∨ q = 5 ∨ q = 6 ∨ q = 7 := (by omega); rcases hq with rfl | rfl | rfl | rfl | rfl | rfl | rfl | rfl) | (at_builtin; refine wpList_append_own _ rfl _ _ 23 rfl w.heap.size 3 i2 (.int .i64 0) 1 8 Try.underlying23 hi2 hx0 hx1' hx2 rfl (by decide) _ xs.length (xs.map (Value.int .i64)) rfl (HD2.out.alloc (by omega) hle (by omega) hs2 (.cells #[.int .i64 0, .int .i64 0, .int .i64 0] 3)).oi ⟨w2.heap.size, 0, none⟩ 3 3 ([0, 0, 0].map (Value.int .i64)) rfl (by simp) (by intro j u hj; rcases j with _ | _ | _ | j <;> simp at hj <;> subst hj <;> simp [Addr.add]) (by intro u hu; simp at hu; subst hu; rfl) (by unfold maxLen; omega) (by omega) (by simp; omega) ?_; intro v3 w3 hown3 hgrow3 _; obtain ⟨hpp3, hD3⟩ := (HD2.out.alloc (by omega) hle (by omega) hs2 (.cells #[.int .i64 0, .int .i64 0, .int .i64 0] 3)).appC (ys := [0, 0, 0]) hle (by simp; omega) (by omega) hown3 hgrow3; obtain ⟨a3, c3, hv3, _, _⟩ := own_shape hown3; subst hv3; have HD3 : Hid (BtD T B R w.heap.size P w (w3.setCell ⟨P, 0, none⟩ (.slice a3 (xs.length + 3) c3)) (p + 1) (.slice a3 (xs.length + 3) c3) (xs ++ [0, 0, 0]) (.slice ao LB.length capo) LB) := hD3; obtain ⟨y0, y1, y2, y3⟩ := hpp3.cells; have y4 := hpp3.lt; obtain ⟨r0, r1, r2, r3⟩ := HD3.out.pp.cells; obtain ⟨t0, t1, t2, t3⟩ := HD3.out.pg.cells; clear hown3 hgrow3 hD3 hpp3 p20 p21 p22 p23) | (at_builtin; refine wpList_append_own _ rfl _ _ 24 rfl w.heap.size 113 i3 (.slice none 0 0) 1 24 Try.underlying24 hi3 hz0 hz1 hz2 rfl (by decide) _ LB.length (LB.map (·.2)) rfl ((((HD2.out.alloc (by omega) hle (by omega) hs2 (.cells #[] 122)).alloc (by omega) hle (by omega) (by simp; omega) (.cells #[] 122)).alloc (by omega) hle (by omega) (by simp; omega) (.cells #[] 122)).alloc (by omega) hle (by omega) (by simp; omega) (.cells #[Value.slice (some ⟨w2.heap.size, 0, none⟩) 0 0, .slice (some ⟨w2.heap.size + 1, 0, none⟩) 0 0, .slice (some ⟨w2.heap.size + 1 + 1, 0, none⟩) 0 0] 113)).ob.row ⟨w2.heap.size + 1 + 1 + 1, 0, none⟩ 3 3 [Value.slice (some ⟨w2.heap.size, 0, none⟩) 0 0, .slice (some ⟨w2.heap.size + 1, 0, none⟩) 0 0, .slice (some ⟨w2.heap.size + 1 + 1, 0, none⟩) 0 0] rfl rfl (cells_newD _ [Value.slice (some ⟨w2.heap.size, 0, none⟩) 0 0, .slice (some ⟨w2.heap.size + 1, 0, none⟩) 0 0, .slice (some ⟨w2.heap.size + 1 + 1, 0, none⟩) 0 0] _ _ (by simp)) (by intro u hu; simp at hu; rcases hu with rfl | rfl | rfl <;> rfl) (by unfold maxLen; omega) (by omega) (by simp; omega) ?_; intro v3 w3 hown3 hgrow3 _; obtain ⟨hpp3, hD3⟩ := ((((HD2.out.alloc (by omega) hle (by omega) hs2 (.cells #[] 122)).alloc (by omega) hle (by omega) (by simp; omega) (.cells #[] 122)).alloc (by omega) hle (by omega) (by simp; omega) (.cells #[] 122)).alloc (by omega) hle (by omega) (by simp; omega) (.cells #[Value.slice (some ⟨w2.heap.size, 0, none⟩) 0 0, .slice (some ⟨w2.heap.size + 1, 0, none⟩) 0 0, .slice (some ⟨w2.heap.size + 1 + 1, 0, none⟩) 0 0] 113)).appB [Value.slice (some ⟨w2.heap.size, 0, none⟩) 0 0, .slice (some ⟨w2.heap.size + 1, 0, none⟩) 0 0, .slice (some ⟨w2.heap.size + 1 + 1, 0, none⟩) 0 0] hle (by simp; omega) (by omega) (three_new w2 _ hs2 _) (fun y hy g hg v hv => by have h1 := ((HD2.out.ob.rows y hy).lt g hg).2; simp only [List.mem_cons, List.not_mem_nil, or_false] at hv; rcases hv with rfl | rfl | rfl <;> simp [Value.ownBlock] <;> omega) (by simp [Value.ownBlock]; omega) hown3 hgrow3; obtain ⟨a3, c3, hv3, _, _⟩ := own_shape hown3; subst hv3; have HD3 : Hid (BtD T B R w.heap.size P w (w3.setCell ⟨P, 1, none⟩ (.slice a3 (LB.length + 3) c3)) (p + 1) (.slice a1 xs.length cap1) xs (.slice a3 (LB.length + 3) c3) (LB ++ [Value.slice (some ⟨w2.heap.size, 0, none⟩) 0 0, .slice (some ⟨w2.heap.size + 1, 0, none⟩) 0 0, .slice (some ⟨w2.heap.size + 1 + 1, 0, none⟩) 0 0].map fun v => ([], v))) := hD3; obtain ⟨y0, y1, y2, y3⟩ := hpp3.cells; have y4 := hpp3.lt; obtain ⟨r0, r1, r2, r3⟩ := HD3.out.pp.cells; obtain ⟨t0, t1, t2, t3⟩ := HD3.out.pg.cells; clear hown3 hgrow3 hD3 hpp3 p20 p21 p22 p23))
      · obtain ⟨gc, cc, hcv, _, _⟩ := World.ownsRow.form HD2.out.oi (by omega)
        injection hcv with e1 _ e3
        subst e1 e3
        have hx0' : 0 < xs.length := by omega
        obtain ⟨_, _, k2, kP, _⟩ := HD2.out.set0 (by omega) hle 0
        have HRd : Hid (RdAt B w2.drew R (p + 1)) := HD2.out.rd.below (Below.refl _ _).drew
        have HRa : Hid (∀ o, RdAt B (w2.alloc o).drew R (p + 1)) := fun o => HD2.out.rd.below ((Below.refl _ _).alloc HD2.out.rd.le _).drew
        go_region_law (first | (go_simp; go_at_call 48; refine (pick_any B R (p + 1) _ _ (by first | exact HRd.out | exact HRa.out _) (by omega) (by omega) (by omega)).mono ?_; rintro e w3 ⟨q3, rfl, q30, q31, hR3, hF3⟩; obtain ⟨x, hx, hxl⟩ := tbl2 q3 q30 q31; have HD3 : Hid (BtD T B R w.heap.size P w w3 (p + 1 + 1) (.slice (some ⟨gc, 0, none⟩) xs.length cap1) xs (.slice ao LB.length capo) LB) := (by first | exact HD2.out.next hR3 (Fr.trans (Fr.of_below (Below.refl _ _).drew) hF3) (by omega) (by omega) hs2 | exact HD2.out.next hR3 (Fr.trans (Fr.of_below ((Below.refl _ _).alloc (Nat.le_refl _) _).drew) (hF3.mono (by simp))) (by omega) (by omega) hs2); have hs3 : w.heap.size ≤ w3.heap.size := HD3.out.fr.size; obtain ⟨y0, y1, y2, y3⟩ := HD3.out.pp.cells; have y4 := HD3.out.pp.lt; obtain ⟨⟨u0, k1⟩, k3, k4, _, _⟩ := HD3.out.set0 (by omega) hle x; (try (have ex : w3.cell? ⟨w2.heap.size, q3.toNat, none⟩ = some (.int .i64 x) := (by rw [hF3.cell (by simp) (by omega)]; simpa [go_sem] using hx))); clear hF3 hR3))
        all_goals
          have HD5 : Hid (BtD T B R w.heap.size P w (w3.setCell ⟨gc, 0, none⟩ (.int .i64 x)) (p + 1 + 1) (.slice (some ⟨gc, 0, none⟩) xs.length cap1) (x :: xs.tail) (.slice ao LB.length capo) LB) := (HD3.out.set0 (by omega) hle x).2.2.2.2
          have HD6 : Hid (BtD T B R w.heap.size P w ((w3.setCell ⟨gc, 0, none⟩ (.int .i64 x)).alloc (.cells #[.int .i64 (-1), .int .i64 100] 3)) (p + 1 + 1) (.slice (some ⟨gc, 0, none⟩) xs.length cap1) (x :: xs.tail) (.slice ao LB.length capo) LB) := HD5.out.alloc (by omega) hle (by omega) (by simp; omega) _
          clear HD2 HD3 HRd HRa y0 y1 y2 y3 k1 k2 k3 k4 hx hxl p20 p21 p22 p23 p24
          (try clear ex)
          first
          | (obtain ⟨V, hV, HD7⟩ : ∃ V, V = ((w3.setCell ⟨gc, 0, none⟩ (.int .i64 x)).alloc (.cells #[.int .i64 (-1), .int .i64 100] 3)) ∧ Hid (BtD T B R w.heap.size P w V (p + 1 + 1) (.slice (some ⟨gc, 0, none⟩) xs.length cap1) (x :: xs.tail) (.slice ao LB.length capo) LB) := ⟨_, rfl, HD6⟩; rw [← hV]; clear hV)
          | (obtain ⟨V, hV, HD7⟩ : ∃ V, V = (w3.setCell ⟨gc, 0, none⟩ (.int .i64 x)) ∧ Hid (BtD T B R w.heap.size P w V (p + 1 + 1) (.slice (some ⟨gc, 0, none⟩) xs.length cap1) (x :: xs.tail) (.slice ao LB.length capo) LB) := ⟨_, rfl, HD5⟩; rw [← hV]; clear hV)
          clear HD5 HD6
          obtain ⟨r0, r1, r2, r3⟩ := HD7.out.pp.cells
          obtain ⟨t0, t1, t2, t3⟩ := HD7.out.pg.cells
          have l5 := HD7.out.pp.lt
          go_wp2_with fail
          have hz := ((HD7.out.pg.set0 (.slice (some ⟨gc, 0, none⟩) xs.length cap1)).set1 (.slice ao LB.length capo)).cells
          refine bodyPost_ret (v := .agg #[(.slice (some ⟨gc, 0, none⟩) xs.length cap1), (.slice ao LB.length capo)]) (by simp [results, Try.results80, go_sem, hz.1, hz.2.1]) rfl ?_
          have HX := bent_fin (p := p) (fun b hb => hb.2) (fun b hb => hb.1) hTn hle HD7.out.rd HD7.out.fr HD7.out.pg HD7.out.oi HD7.out.ob.toC (by omega) (by omega) (by omega)
          first | exact HX | (obtain ⟨pr, c', b', q', h1, h2, h3, h4, h5, h6, h7, h8⟩ := HX; exact ⟨pr, c', b', h1, h2, h3, h4, q', h5, h6, h7, h8⟩)
      · have hz := ((HD3.out.pg.set0 (.slice a3 (xs.length + 3) c3)).set1 (.slice ao LB.length capo)).cells
        refine bodyPost_ret (v := .agg #[(.slice a3 (xs.length + 3) c3), (.slice ao LB.length capo)]) (by simp [results, Try.results80, go_sem, hz.1, hz.2.1]) rfl ?_
        have HX := bent_fin (p := p) (fun b hb => hb.2) (fun b hb => hb.1) hTn hle HD3.out.rd HD3.out.fr HD3.out.pg HD3.out.oi HD3.out.ob.toC (by omega) (by omega) (by omega)
        first | exact HX | (obtain ⟨pr, c', b', q', h1, h2, h3, h4, h5, h6, h7, h8⟩ := HX; exact ⟨pr, c', b', h1, h2, h3, h4, q', h5, h6, h7, h8⟩)
      · obtain ⟨g, cap, L0, a0, c0, LT, hov, hLBe, hg1, hg2, hcg, hfg, hn1, hn2, _⟩ := OutC.head HD2.out.ob.toC (by omega)
        have hL0 : L0.length ≤ 4 := HL4.out (L0, .slice a0 L0.length c0) (by rw [hLBe]; simp)
        have HLT : Hid (((L0, Value.slice a0 L0.length c0) :: LT).length ≤ 10) := by have h1 := congrArg List.length hLBe; simp at h1; show (LT.length + 1 ≤ 10); omega
        generalize hn : LB.length = n at hov hn1
        have HT : Hid (BtC T B R w.heap.size P w w2 (p + 1) (.slice a1 xs.length cap1) xs g n cap L0 (.slice a0 L0.length c0) LT) := ⟨HD2.out.rd, HD2.out.fr, HD2.out.pg, by have := HD2.out.pp; rw [hn, hov] at this; exact this, HD2.out.oi, by have := HD2.out.ob.toC; rw [hn, hov, hLBe] at this; exact this, hT⟩
        have hn0 : 0 < n := by omega
        have hn5 : n ≤ 4 := by omega
        clear HD2 hLBe hcg hfg HL4 hlb hLB hn hov p20 p21 p22 p23 p24 hcapo hcapo'
        refine bent_reg16 T B R w.heap.size P (p + 1) w w2 (.slice a1 xs.length cap1) xs g n cap L0 a0 c0 LT HT (by omega) (Nat.le_refl _) hlt hle hPs hn0 (by omega) (by omega) _ _ _ _ _ _ _ _ _ _ _ _ _ _ _ _ _ _ _ _ _ _ _ _ _ _ _ _ _ _ _ _ _ _ _ _ _ _ _ _ _ _ _ _ _ _ _ _ _ _ _ _ _ _ _ _ _ _ _ _ _ _ _ _ _ _ _ _ _ _ _ _ _ _ _ _ _ _ _ _ _ _ _ _ _ _ _ _ _ _ _ _ _ _ _ _ _ _ _ _ _ _ _ _ _ _ _ _ _ _ _ _ _ _ _ _ _ _ _ _ _ _ _ _ _ _ _ _ _ _ _ _ _ _ _ _ _ _ _ _ _ _ _ (fun v0 v1 v2 v3 v4 v5 v6 v7 v8 v9 v10 v11 v12 V x g4 cap4 hT => ?_)
        have HT4 := (show Hid (BtC _ _ _ _ _ _ _ _ _ _ _ _ _ _ _ _) from hT)
        clear hT HT
        obtain ⟨r0, r1, r2, r3⟩ := HT4.out.pp.cells
        obtain ⟨t0, t1, t2, t3⟩ := HT4.out.pg.cells
        have r4 := HT4.out.pp.lt
        go_wp2_with fail
        have hz := ((HT4.out.pg.set0 (.slice a1 xs.length cap1)).set1 (.slice (some ⟨g, 0, none⟩) n cap)).cells
        refine bodyPost_ret (v := .agg #[(.slice a1 xs.length cap1), (.slice (some ⟨g, 0, none⟩) n cap)]) (by simp [results, Try.results80, go_sem, hz.1, hz.2.1]) rfl ?_
        have HX := bent_fin (p := p) (fun b hb => hb.2) (fun b hb => hb.1) hTn hle HT4.out.rd HT4.out.fr HT4.out.pg HT4.out.oi HT4.out.oc HLT.out (by omega) (by omega)
        first | exact HX | (obtain ⟨pr, c', b', q', h1, h2, h3, h4, h5, h6, h7, h8⟩ := HX; exact ⟨pr, c', b', h1, h2, h3, h4, q', h5, h6, h7, h8⟩)
      · obtain ⟨g, cap, L0, a0, c0, LT, hov, hLBe, hg1, hg2, hcg, hfg, hn1, hn2, _⟩ := OutC.head HD2.out.ob.toC (by omega)
        have hL0 : L0.length ≤ 4 := HL4.out (L0, .slice a0 L0.length c0) (by rw [hLBe]; simp)
        have HLT : Hid (((L0, Value.slice a0 L0.length c0) :: LT).length ≤ 10) := by have h1 := congrArg List.length hLBe; simp at h1; show (LT.length + 1 ≤ 10); omega
        generalize hn : LB.length = n at hov hn1
        have HT : Hid (BtC T B R w.heap.size P w w2 (p + 1) (.slice a1 xs.length cap1) xs g n cap L0 (.slice a0 L0.length c0) LT) := ⟨HD2.out.rd, HD2.out.fr, HD2.out.pg, by have := HD2.out.pp; rw [hn, hov] at this; exact this, HD2.out.oi, by have := HD2.out.ob.toC; rw [hn, hov, hLBe] at this; exact this, hT⟩
        have hn0 : 0 < n := by omega
        have hn5 : n ≤ 4 := by omega
        clear HD2 hLBe hcg hfg HL4 hlb hLB hn hov p20 p21 p22 p23 p24 hcapo hcapo'
        refine bent_reg18 T B R w.heap.size P (p + 1) w w2 (.slice a1 xs.length cap1) xs g n cap L0 a0 c0 LT HT (by omega) (Nat.le_refl _) hlt hle hPs hn0 (by omega) (by omega) _ _ _ _ _ _ _ _ _ _ _ _ _ _ _ _ _ _ _ _ _ _ _ _ _ _ _ _ _ _ _ _ _ _ _ _ _ _ _ _ _ _ _ _ _ _ _ _ _ _ _ _ _ _ _ _ _ _ _ _ _ _ _ _ _ _ _ _ _ _ _ _ _ _ _ _ _ _ _ _ _ _ _ _ _ _ _ _ _ _ _ _ _ _ _ _ _ _ _ _ _ _ _ _ _ _ _ _ _ _ _ _ _ _ _ _ _ _ _ _ _ _ _ _ _ _ _ _ _ _ _ _ _ _ _ _ _ _ _ _ _ _ _ (fun v0 v1 v2 v3 v4 v5 v6 v7 v8 v9 v10 v11 v12 v13 V x g4 cap4 hT => ?_)
        have HT4 := (show Hid (BtC _ _ _ _ _ _ _ _ _ _ _ _ _ _ _ _) from hT)
        clear hT HT
        obtain ⟨r0, r1, r2, r3⟩ := HT4.out.pp.cells
        obtain ⟨t0, t1, t2, t3⟩ := HT4.out.pg.cells
        have r4 := HT4.out.pp.lt
        go_wp2_with fail
        have hz := ((HT4.out.pg.set0 (.slice a1 xs.length cap1)).set1 (.slice (some ⟨g, 0, none⟩) n cap)).cells
        refine bodyPost_ret (v := .agg #[(.slice a1 xs.length cap1), (.slice (some ⟨g, 0, none⟩) n cap)]) (by simp [results, Try.results80, go_sem, hz.1, hz.2.1]) rfl ?_
        have HX := bent_fin (p := p) (fun b hb => hb.2) (fun b hb => hb.1) hTn hle HT4.out.rd HT4.out.fr HT4.out.pg HT4.out.oi HT4.out.oc HLT.out (by omega) (by omega)
        first | exact HX | (obtain ⟨pr, c', b', q', h1, h2, h3, h4, h5, h6, h7, h8⟩ := HX; exact ⟨pr, c', b', h1, h2, h3, h4, q', h5, h6, h7, h8⟩)
      · obtain ⟨g, cap, L0, a0, c0, LT, hov, hLBe, hg1, hg2, hcg, hfg, hn1, hn2, _⟩ := OutC.head HD2.out.ob.toC (by omega)
        have hL0 : L0.length ≤ 4 := HL4.out (L0, .slice a0 L0.length c0) (by rw [hLBe]; simp)
        have HLT : Hid (((L0, Value.slice a0 L0.length c0) :: LT).length ≤ 10) := by have h1 := congrArg List.length hLBe; simp at h1; show (LT.length + 1 ≤ 10); omega
        generalize hn : LB.length = n at hov hn1
        have HT : Hid (BtC T B R w.heap.size P w w2 (p + 1) (.slice a1 xs.length cap1) xs g n cap L0 (.slice a0 L0.length c0) LT) := ⟨HD2.out.rd, HD2.out.fr, HD2.out.pg, by have := HD2.out.pp; rw [hn, hov] at this; exact this, HD2.out.oi, by have := HD2.out.ob.toC; rw [hn, hov, hLBe] at this; exact this, hT⟩
        have hn0 : 0 < n := by omega
        have hn5 : n ≤ 4 := by omega
        clear HD2 hLBe hcg hfg HL4 hlb hLB hn hov p20 p21 p22 p23 p24 hcapo hcapo'
        refine bent_reg20 T B R w.heap.size P (p + 1) w w2 (.slice a1 xs.length cap1) xs g n cap L0 a0 c0 LT HT (by omega) (Nat.le_refl _) hlt hle hPs hn0 (by omega) (by omega) _ _ _ _ _ _ _ _ _ _ _ _ _ _ _ _ _ _ _ _ _ _ _ _ _ _ _ _ _ _ _ _ _ _ _ _ _ _ _ _ _ _ _ _ _ _ _ _ _ _ _ _ _ _ _ _ _ _ _ _ _ _ _ _ _ _ _ _ _ _ _ _ _ _ _ _ _ _ _ _ _ _ _ _ _ _ _ _ _ _ _ _ _ _ _ _ _ _ _ _ _ _ _ _ _ _ _ _ _ _ _ _ _ _ _ _ _ _ _ _ _ _ _ _ _ _ _ _ _ _ _ _ _ _ _ _ _ _ _ _ _ _ _ (fun v0 v1 v2 v3 v4 v5 v6 v7 v8 v9 v10 v11 v12 v13 v14 v15 v16 v17 v18 v19 V x g4 cap4 hT => ?_)
        have HT4 := (show Hid (BtC _ _ _ _ _ _ _ _ _ _ _ _ _ _ _ _) from hT)
        clear hT HT
        obtain ⟨r0, r1, r2, r3⟩ := HT4.out.pp.cells
        obtain ⟨t0, t1, t2, t3⟩ := HT4.out.pg.cells
        have r4 := HT4.out.pp.lt
        go_wp2_with fail
        have hz := ((HT4.out.pg.set0 (.slice a1 xs.length cap1)).set1 (.slice (some ⟨g, 0, none⟩) n cap)).cells
        refine bodyPost_ret (v := .agg #[(.slice a1 xs.length cap1), (.slice (some ⟨g, 0, none⟩) n cap)]) (by simp [results, Try.results80, go_sem, hz.1, hz.2.1]) rfl ?_
        have HX := bent_fin (p := p) (fun b hb => hb.2) (fun b hb => hb.1) hTn hle HT4.out.rd HT4.out.fr HT4.out.pg HT4.out.oi HT4.out.oc HLT.out (by omega) (by omega)
        first | exact HX | (obtain ⟨pr, c', b', q', h1, h2, h3, h4, h5, h6, h7, h8⟩ := HX; exact ⟨pr, c', b', h1, h2, h3, h4, q', h5, h6, h7, h8⟩)
      · have hz := ((HD3.out.pg.set0 (.slice a1 xs.length cap1)).set1 (.slice a3 (LB.length + 3) c3)).cells
        refine bodyPost_ret (v := .agg #[(.slice a1 xs.length cap1), (.slice a3 (LB.length + 3) c3)]) (by simp [results, Try.results80, go_sem, hz.1, hz.2.1]) rfl ?_
        have HX := bent_fin (p := p) (fun b hb => hb.2) (fun b hb => hb.1) hTn hle HD3.out.rd HD3.out.fr HD3.out.pg HD3.out.oi HD3.out.ob.toC (by simp; omega) (by omega) (by omega)
        first | exact HX | (obtain ⟨pr, c', b', q', h1, h2, h3, h4, h5, h6, h7, h8⟩ := HX; exact ⟨pr, c', b', h1, h2, h3, h4, q', h5, h6, h7, h8⟩)
      · obtain ⟨g, cap, L0, a0, c0, LT, hov, hLBe, hg1, hg2, hcg, hfg, hn1, hn2, _⟩ := OutC.head HD2.out.ob.toC (by omega)
        have hL0 : L0.length ≤ 4 := HL4.out (L0, .slice a0 L0.length c0) (by rw [hLBe]; simp)
        have HLT : Hid (((L0, Value.slice a0 L0.length c0) :: LT).length ≤ 10) := by have h1 := congrArg List.length hLBe; simp at h1; show (LT.length + 1 ≤ 10); omega
        generalize hn : LB.length = n at hov hn1
        have HT : Hid (BtC T B R w.heap.size P w w2 (p + 1) (.slice a1 xs.length cap1) xs g n cap L0 (.slice a0 L0.length c0) LT) := ⟨HD2.out.rd, HD2.out.fr, HD2.out.pg, by have := HD2.out.pp; rw [hn, hov] at this; exact this, HD2.out.oi, by have := HD2.out.ob.toC; rw [hn, hov, hLBe] at this; exact this, hT⟩
        have hn0 : 0 < n := by omega
        have hn5 : n ≤ 4 := by omega
        clear HD2 hLBe hcg hfg HL4 hlb hLB hn hov p20 p21 p22 p23 p24 hcapo hcapo'
        refine bent_reg24 T B R w.heap.size P (p + 1) w w2 (.slice a1 xs.length cap1) xs g n cap L0 a0 c0 LT HT (by omega) (Nat.le_refl _) hlt hle hPs hn0 (by omega) (by omega) _ _ _ _ _ _ _ _ _ _ _ _ _ _ _ _ _ _ _ _ _ _ _ _ _ _ _ _ _ _ _ _ _ _ _ _ _ _ _ _ _ _ _ _ _ _ _ _ _ _ _ _ _ _ _ _ _ _ _ _ _ _ _ _ _ _ _ _ _ _ _ _ _ _ _ _ _ _ _ _ _ _ _ _ _ _ _ _ _ _ _ _ _ _ _ _ _ _ _ _ _ _ _ _ _ _ _ _ _ _ _ _ _ _ _ _ _ _ _ _ _ _ _ _ _ _ _ _ _ _ _ _ _ _ _ _ _ _ _ _ _ _ _ (fun v0 v1 v2 v3 v4 v5 v6 v7 v8 v9 v10 v11 v12 V x g4 cap4 hT => ?_)
        have HT4 := (show Hid (BtC _ _ _ _ _ _ _ _ _ _ _ _ _ _ _ _) from hT)
        clear hT HT
        obtain ⟨r0, r1, r2, r3⟩ := HT4.out.pp.cells
        obtain ⟨t0, t1, t2, t3⟩ := HT4.out.pg.cells
        have r4 := HT4.out.pp.lt
        go_wp2_with fail
        have hz := ((HT4.out.pg.set0 (.slice a1 xs.length cap1)).set1 (.slice (some ⟨g, 0, none⟩) n cap)).cells
        refine bodyPost_ret (v := .agg #[(.slice a1 xs.length cap1), (.slice (some ⟨g, 0, none⟩) n cap)]) (by simp [results, Try.results80, go_sem, hz.1, hz.2.1]) rfl ?_
        have HX := bent_fin (p := p) (fun b hb => hb.2) (fun b hb => hb.1) hTn hle HT4.out.rd HT4.out.fr HT4.out.pg HT4.out.oi HT4.out.oc HLT.out (by omega) (by omega)
        first | exact HX | (obtain ⟨pr, c', b', q', h1, h2, h3, h4, h5, h6, h7, h8⟩ := HX; exact ⟨pr, c', b', h1, h2, h3, h4, q', h5, h6, h7, h8⟩)
      · obtain ⟨g, cap, L0, a0, c0, LT, hov, hLBe, hg1, hg2, hcg, hfg, hn1, hn2, _⟩ := OutC.head HD2.out.ob.toC (by omega)
        have hL0 : L0.length ≤ 4 := HL4.out (L0, .slice a0 L0.length c0) (by rw [hLBe]; simp)
        have HLT : Hid (((L0, Value.slice a0 L0.length c0) :: LT).length ≤ 10) := by have h1 := congrArg List.length hLBe; simp at h1; show (LT.length + 1 ≤ 10); omega
        generalize hn : LB.length = n at hov hn1
        have HT : Hid (BtC T B R w.heap.size P w w2 (p + 1) (.slice a1 xs.length cap1) xs g n cap L0 (.slice a0 L0.length c0) LT) := ⟨HD2.out.rd, HD2.out.fr, HD2.out.pg, by have := HD2.out.pp; rw [hn, hov] at this; exact this, HD2.out.oi, by have := HD2.out.ob.toC; rw [hn, hov, hLBe] at this; exact this, hT⟩
        have hn0 : 0 < n := by omega
        have hn5 : n ≤ 4 := by omega
        clear HD2 hLBe hcg hfg HL4 hlb hLB hn hov p20 p21 p22 p23 p24 hcapo hcapo'
        go_wp2_with fail
        go_loopw [7] (fun q w' => ∃ (k : Nat) (L1 : List (Ac × Value × Value)) (b1 : Option Addr) (d1 : Nat), q = .int .i64 k ∧ k ≤ 5 ∧ L1.length ≤ 4 + k ∧ BtC T B R w.heap.size P w w' (p + 1) (.slice a1 xs.length cap1) xs g n cap L1 (.slice b1 L1.length d1) LT) (fun q _ => 5 - (intOf q).toNat)
        case atStart => exact ⟨0, L0, a0, c0, rfl, by omega, by omega, HT.out⟩
        clear HT
        case round =>
          obtain ⟨k, L1, b1, d1, rfl, hk, hL1, hT⟩ := hrel
          have HT1 := (show Hid (BtC _ _ _ _ _ _ _ _ _ _ _ _ _ _ _ _) from hT)
          clear hT
          by_cases hk5 : k < 5
          case neg =>
            have hi5 : ¬ (k : Int) < 5 := by omega
            have HLT1 : Hid (((L1, Value.slice b1 L1.length d1) :: LT).length ≤ 10) := HLT.out
            obtain ⟨r0, r1, r2, r3⟩ := HT1.out.pp.cells
            obtain ⟨t0, t1, t2, t3⟩ := HT1.out.pg.cells
            have r4 := HT1.out.pp.lt
            go_wp2_with fail
            have hz := ((HT1.out.pg.set0 (.slice a1 xs.length cap1)).set1 (.slice (some ⟨g, 0, none⟩) n cap)).cells
            refine bodyPost_ret (v := .agg #[(.slice a1 xs.length cap1), (.slice (some ⟨g, 0, none⟩) n cap)]) (by simp [results, Try.results80, go_sem, hz.1, hz.2.1]) rfl ?_
            have HX := bent_fin (p := p) (fun b hb => hb.2) (fun b hb => hb.1) hTn hle HT1.out.rd HT1.out.fr HT1.out.pg HT1.out.oi HT1.out.oc HLT1.out (by omega) (by omega)
            first | exact HX | (obtain ⟨pr, c', b', q', h1, h2, h3, h4, h5, h6, h7, h8⟩ := HX; exact ⟨pr, c', b', h1, h2, h3, h4, q', h5, h6, h7, h8⟩)
          have hi5 : (k : Int) < 5 := by omega
          go_wp2_with fail
          refine bent_reg10 T B R w.heap.size P (p + 1) w wr (.slice a1 xs.length cap1) xs g n cap L1 b1 d1 LT HT1 (by omega) (Nat.le_refl _) hlt hle hPs hn0 (by omega) (by omega) _ _ _ _ _ _ _ _ _ _ _ _ _ _ _ _ _ _ _ _ _ _ _ _ _ _ _ _ _ _ _ _ _ _ _ _ _ _ _ _ _ _ _ _ _ _ _ _ _ _ _ _ _ _ _ _ _ _ _ _ _ _ _ _ _ _ _ _ _ _ _ _ _ _ _ _ _ _ _ _ _ _ _ _ _ _ _ _ _ _ _ _ _ _ _ _ _ _ _ _ _ _ _ _ _ _ _ _ _ _ _ _ _ _ _ _ _ _ _ _ _ _ _ _ _ _ _ _ _ _ _ _ _ _ _ _ _ _ _ _ _ _ _ (fun v0 v1 v2 v3 v4 v5 v6 v7 v8 v9 V x g4 cap4 hT => ?_)
          have HT4 : Hid (BtC T B R w.heap.size P w V (p + 1) (.slice a1 xs.length cap1) xs g n cap (L1 ++ [x]) (.slice (some ⟨g4, 0, none⟩) (L1.length + 1) cap4) LT) := hT
          clear hT HT1
          go_wp2_with fail
          go_roundw
          case rel => exact ⟨k + 1, L1 ++ [x], some ⟨g4, 0, none⟩, cap4, by go_num, by omega, by simp; omega, by rw [List.length_append]; exact HT4.out⟩
          case measure => simp [intOf]; omega
    obtain ⟨ab', capb', hbv', hbm', hbs⟩ := HSB.out
    obtain ⟨gb, ob, av, hab, hSb, hgb, cb, hact⟩ := hbs LB.length hlb
    injection hbv' with e1 e2 e3
    rw [hab] at e1
    subst e1
    clear hbs hbm' e2 e3 hab
    obtain ⟨L, aa, ca, hLm, hav, hLl, hsrc, hinn⟩ := acts_src hact
    subst hav
    have hL4' : L.length ≤ 4 := by have := HA.out LB.length hlb; rw [hLm] at this; simpa using this
    obtain ⟨ao, capo, hov, hcapo, _⟩ := own_shape hOB.row
    subst hov
    have hs1 := hBl.size
    have cP := hPo.cells.2.1
    have fP := hPo.cells.2.2.2
    have cs := hPp.cells.2.1
    have hPlt := hPo.lt
    have hslt := hPp.lt
    have cb' : wr.cell? ⟨gb, ob + LB.length, none⟩ = some (.slice aa L.length ca) := by rw [hBl.cell (p := ⟨gb, _, none⟩) hgb]; exact cb
    have hgb' : gb < wr.heap.size := by omega
    have hi : (LB.length : Int) < (bs.length : Int) := by omega
    have HK : Hid (Kept (fun b => T b ∧ b < w.heap.size) w wr) := ⟨hs1, fun b o hb _ => hBl.cell (p := ⟨b, o, none⟩) hb.2⟩
    have HRW : Hid ((wr.alloc (.cells #[] 122)).drew.ownsRow wr.heap.size 122 4 (.slice (some ⟨wr.heap.size, 0, none⟩) 0 0) 0 []) := World.ownsRow_made wr #[] 0 (Nat.le_refl _) (by unfold maxLen; omega) (by simp)
    have HSRC : Hid (L.length = 0 ∨ ∃ ad, aa = some ad ∧ ∀ j u, (acCells L)[j]? = some u → (wr.alloc (.cells #[] 122)).drew.cell? (ad.add j) = some u) := by
      rcases hsrc with h0 | ⟨b, off, e, hS, hb, hc⟩
      · exact .inl h0
      · refine .inr ⟨⟨b, off, none⟩, e, fun j u hj => ?_⟩
        have h1 := hc j u hj
        rw [Go.WideShapes.add_plain] at h1 ⊢
        show (wr.alloc (.cells #[] 122)).cell? ⟨b, off + j, none⟩ = some u
        rw [World.cell?_alloc_past _ _ _ (by omega), hBl.cell (p := ⟨b, _, none⟩) hS.2]
        exact h1
    have HINN : Hid (∀ x, x ∈ L → DeedsOn (fun b => T b ∧ b < w.heap.size) w x.2.1 x.1.ds ∧ IntsOn (fun b => T b ∧ b < w.heap.size) w x.2.2 x.1.ks) := hinn
    have HACL : Hid ((acCells L).length = L.length * 4 ∧ ∀ u, u ∈ acCells L → u.oneCell' = true) := by
      constructor
      · exact acCells_len L
      · intro u hu
        obtain ⟨x, hx, hu⟩ := List.mem_flatMap.1 hu
        obtain ⟨d1, d2, hd, _⟩ := (hinn x hx).1.shape
        obtain ⟨k1, k2, hk, _⟩ := (hinn x hx).2.shape
        simp only [hd, hk, List.mem_cons, List.not_mem_nil, or_false] at hu
        rcases hu with rfl | rfl | rfl | rfl <;> rfl
    have HOB := (show Hid (OutB _ _ _ _ _) from hOB)
    have HPP := (show Hid (PBox _ _ _ _) from hPp)
    have HPG := (show Hid (PBox _ _ _ _) from hPG)
    have HPO := (show Hid (PBox _ _ _ _) from hPo)
    have HOI := (show Hid (OwnInt _ _ _ _) from hOI)
    have HBL := (show Hid (Below _ _ _) from hBl)
    clear hact hsrc hinn hOB hPp hPG hPo hOI hBl cb hLm
    go_wp2_with fail
    go_region_law (first | (refine step_append_src (by rfl) _ _ 113 (by rfl) wr.heap.size 122 i1 (.agg #[.int .i64 0, .slice none 0 0, .slice none 0 0, .int .i64 0]) 4 64 Try.underlying113 hi1 hy0 hy1 hy2 rfl (by decide) _ 0 [] (by rfl) HRW.out aa L.length ca (acCells L) (by rfl) HACL.out.1 HSRC.out HACL.out.2 (by unfold maxLen; omega) (by omega) (by simp) ?_; intro v2 w2 hown2 hgrow2; have HB2 : Hid (Below wr.heap.size wr w2) := (((Below.refl wr.heap.size wr).alloc (Nat.le_refl _) _).drew).grown hgrow2 (by simp) (fun g hg => (HRW.out.lt g hg).1); have HV2 : Hid (Rw wr.heap.size w2 v2 L) := (by have h := hown2; simp only [Nat.zero_add, List.nil_append] at h; exact h); obtain ⟨a2, c2, hv2, hc2a, hc2b⟩ := own_shape HV2.out; subst hv2; have HOB2 : Hid (OutB (fun b => T b ∧ b < w.heap.size) w.heap.size w2 (.slice ao LB.length capo) LB) := OutB.fr HOB.out (Fr.of_below (R := R) HB2.out) (by omega) (fun b hb => hT b hb.1); have z1 : w2.cell? ⟨P, 1, none⟩ = some (.slice ao LB.length capo) := (HB2.out.cell (p := ⟨P, 1, none⟩) hPlt).trans cP; have z2 : w2.cell? ⟨w.heap.size, 1, none⟩ = some (.slice (some ⟨gb, ob, none⟩) bs.length capb) := (HB2.out.cell (p := ⟨w.heap.size, 1, none⟩) hslt).trans cs; have z3 : w2.cell? ⟨gb, ob + LB.length, none⟩ = some (.slice aa L.length ca) := (HB2.out.cell (p := ⟨gb, _, none⟩) hgb').trans cb'; have hs2 := HB2.out.size; have hP2 : P < w2.heap.size := (by omega); clear hown2 hgrow2) | (refine step_append_src (by rfl) _ _ 24 (by rfl) w.heap.size 113 i3 (.slice none 0 0) 1 24 Try.underlying24 hi3 hz0 hz1 hz2 rfl (by decide) _ _ _ (by rfl) (World.ownsRow.alloc HOB2.out.row (.cells #[.slice a2 L.length c2] 113)) (some ⟨w2.heap.size, 0, none⟩) 1 1 [.slice a2 L.length c2] (by rfl) rfl (.inr ⟨⟨w2.heap.size, 0, none⟩, rfl, cell_one_new w2 (.slice a2 L.length c2) 113⟩) (by intro u hu; simp at hu; subst hu; rfl) (by unfold maxLen; omega) (by omega) (by simp; omega) ?_; intro ov2 w4 hown4 hgrow4; have T4 : TagKept 113 (w2.alloc (.cells #[.slice a2 L.length c2] 113)) w4 := TagKept.grown (World.ownsRow.alloc HOB2.out.row _) hgrow4; have KW : Kept (fun b => T b ∧ b < w.heap.size) (w2.alloc (.cells #[.slice a2 L.length c2] 113)) w4 := ⟨hgrow4.size, fun b o hb hlt => World.cell?_of_block (hgrow4.block b hlt (by intro e; have := (HOB2.out.row.lt b e.symm).1; have := hb.2; omega))⟩; have K2 : Kept (fun b => T b ∧ b < w.heap.size) w (w2.alloc (.cells #[.slice a2 L.length c2] 113)) := (HK.out.trans (Kept.below HB2.out)).trans (Kept.below ((Below.refl _ _).alloc (Nat.le_refl _) _)); have HOB4 : Hid (OutB (fun b => T b ∧ b < w.heap.size) w.heap.size w4 ov2 (LB ++ [(L, .slice a2 L.length c2)])) := OutB.snoc (OutB.fr HOB2.out (Fr.of_below (R := R) ((Below.refl _ _).alloc (Nat.le_refl _) _)) (by omega) (fun b hb => hT b hb.1)) (World.ownsRow.alloc (own_base HV2.out hs1) _) (fun x hx => ⟨(HINN.out x hx).1.kept K2, (HINN.out x hx).2.kept K2⟩) (fun y hy g hg e => by have h1 := ((HOB.out.rows y hy).lt g hg).2; have h2 := (HV2.out.lt g e).1; omega) hown4 hgrow4 KW; have HPP4 : Hid (PBox w4 w.heap.size (.slice (some ⟨bc, oc, none⟩) xs.length capc) (.slice (some ⟨gb, ob, none⟩) bs.length capb)) := PBox.tag (PBox.alloc (PBox.heap HPP.out (HB2.out.block _ hslt)) _) T4 (by decide); have HPG4 : Hid (PBox w4 (w.heap.size + 1) (.slice none 0 0) (.slice none 0 0)) := PBox.tag (PBox.alloc (PBox.heap HPG.out (HB2.out.block _ HPG.out.lt)) _) T4 (by decide); have HPO4 : Hid (PBox w4 P (.slice a1 xs.length cap1) (.slice ao LB.length capo)) := PBox.tag (PBox.alloc (PBox.heap HPO.out (HB2.out.block _ hPlt)) _) T4 (by decide); have HOI4 : Hid (OwnInt w.heap.size w4 (.slice a1 xs.length cap1) xs) := own_tag (World.ownsRow.alloc (own_fr HOI.out (Fr.of_below (R := R) HB2.out) (by omega)) _) T4 (by decide); have HBL4 : Hid (Below w.heap.size w w4) := (HBL.out.trans (HB2.out.mono hs1)).trans (((Below.refl _ _).alloc (by omega) _).grown hgrow4 (by simp; omega) (fun g hg => (HOB2.out.row.lt g hg).1)); obtain ⟨ao2, capo2, hov2, hc4a, hc4b⟩ := own_shape HOB4.out.row; rw [List.length_append] at hov2; subst hov2; have cP4 := HPO4.out.cells.2.1; have fP4 := HPO4.out.cells.2.2.2; clear hown4 hgrow4 T4 KW K2))
    all_goals
      have hPw' : w.heap.size ≠ P ∧ w.heap.size + 1 ≠ P := by omega
      have HS5 : Hid (Kept (fun b => T b ∧ b < w.heap.size) w4 (w4.setCell ⟨P, 1, none⟩ (.slice ao2 (LB.length + 1) capo2))) := Kept.set _ _ _ _ (by intro h; omega)
      clear z1 z2 z3 cP4 fP4 HB2 HV2 HOB2 HOB HPP HPG HPO HOI HBL HACL HINN HSRC HRW HK cb' cP fP cs
      go_wp2_with fail
      go_roundw
      case rel =>
        refine ⟨LB ++ [(L, .slice a2 L.length c2)], _, by simp, by simp; omega, ?_, OutB.tag HOB4.out (PBox.kept HPO4.out) (by decide) (by decide) HS5.out, HPP4.out.heap (Below.heap_setCell _ _ _ _ (by simpa using hPw'.1)), HPG4.out.heap (Below.heap_setCell _ _ _ _ (by simpa using hPw'.2)), HPO4.out.set1 _, own_tag HOI4.out (PBox.kept HPO4.out) (by decide), HBL4.out.setCell (by simp; omega) _⟩
        intro y hy
        rcases List.mem_append.1 hy with h1 | h1
        · exact hL4 y h1
        · rcases List.mem_singleton.1 h1 with rfl
          exact hL4'
      case measure => simp [intOf]; omega
end Go.Proofs.Ytgbgjljflgbcaaa
