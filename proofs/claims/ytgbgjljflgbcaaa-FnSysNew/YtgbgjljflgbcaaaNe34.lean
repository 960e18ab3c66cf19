import Derived.Test.YtgbgjljflgbcaaaNe32
import Derived.Test.YtgbgjljflgbcaaaNe33
namespace Go.Proofs.Ytgbgjljflgbcaaa
open Go.RowKit
set_option linter.unusedSimpArgs false
set_option linter.unusedVariables false
set_option maxRecDepth 20000
set_option maxHeartbeats 4000000 in
theorem drawSysNew_any (a : Option Addr) (n cap : Nat) (w : World) (h : Bytes w a n) (hc : n ≤ cap) (hn : cap ≤ 9223372036854775807) :
    Calls Try.prog 9 #[.slice a n cap] w fun e w' => ∃ (pr : Pr) (cv bv : Value), e = .returned (.agg #[cv, bv]) ∧ (∃ S : Nat → Prop, PrS S w' cv bv pr) ∧ Below w.heap.size w w' := by
  have HY : Hid (Bytes (w.alloc (.cells #[.slice none 0 0, .slice none 0 0] 26)) a n) := fun i hi => by
    obtain ⟨b, off, u, e, h1, h2, h3, h4⟩ := h i hi
    exact ⟨b, off, u, e, by simp; omega, h2, h3, by rw [World.cell?_alloc_past _ _ _ h1]; exact h4⟩
  have HG0 : Hid (PBox (w.alloc (.cells #[.slice none 0 0, .slice none 0 0] 26)) w.heap.size (.slice none 0 0) (.slice none 0 0)) := heap_alloc_new w _
  clear h
  go_enter Try.func9, Try.ntmps9
  go_wp2_with (first
    | (go_at_call 32; refine (l6Open_any a n cap _ HY.out hc hn).mono ?_; rintro e w0 ⟨rfl, hR0, hB0⟩; obtain ⟨R, hRe⟩ : ∃ R, R = (w.alloc (.cells #[.slice none 0 0, .slice none 0 0] 26)).heap.size := ⟨_, rfl⟩; have hRw : w.heap.size < R := (by rw [hRe]; simp); rw [← hRe] at hR0; rw [← hRe]; have HR0 : Hid (RdAt (R + 1) w0 R 0) := hR0; have hle0 : R + 1 ≤ w0.heap.size := hR0.le; have HG1 : Hid (PBox w0 w.heap.size (.slice none 0 0) (.slice none 0 0)) := HG0.out.heap (hB0.block _ HG0.out.lt); have HF0 : Hid (Fr R w.heap.size w w0) := (Fr.of_below ((Below.refl _ _).alloc (Nat.le_refl _) _)).trans (Fr.of_below (hB0.mono (by simp))); clear hR0 hB0 HY HG0 hRe)
    | (go_at_call 31; refine (l71Any_any (R + 1) R 0 w0 HR0.out (by omega)).mono ?_; rintro e w1 ⟨pr, cv, bv, p1, rfl, hI, hBs, hl10, a1, a2, hR1, hF1⟩; have HI1 : Hid (IntsOn (fun b => w0.heap.size ≤ b) w1 cv pr.cells) := hI; have HB1 : Hid (BodiesOn (fun b => w0.heap.size ≤ b) w1 bv pr.bodies) := hBs; have HR1 : Hid (RdAt (R + 1) w1 R p1) := hR1; have HF1 : Hid (Fr R w.heap.size w w1) := HF0.out.trans (hF1.mono (by omega)); have HG2 : Hid (PBox w1 w.heap.size (.slice none 0 0) (.slice none 0 0)) := HG1.out.fr hF1 (by omega); have hs1 : w0.heap.size ≤ w1.heap.size := hF1.size; obtain ⟨ac, cc, hcv, _⟩ := hI.shape; obtain ⟨ab, cb, hbv, _⟩ := hBs.shape; clear hI hBs hR1 hF1; subst hcv hbv; obtain ⟨g0, g1, k0, k1⟩ := HG2.out.cells; have l2 := HG2.out.lt))
  have hz := ((HG2.out.set0 (.slice ac pr.cells.length cc)).set1 (.slice ab pr.bodies.length cb)).cells
  have S5 : Kept (fun b => w0.heap.size ≤ b) w1 (w1.setCell ⟨w.heap.size, 0, none⟩ (.slice ac pr.cells.length cc)) := Kept.set _ _ _ _ (fun h => by have : w0.heap.size ≤ w.heap.size := h; omega)
  have S6 : Kept (fun b => w0.heap.size ≤ b) (w1.setCell ⟨w.heap.size, 0, none⟩ (.slice ac pr.cells.length cc)) ((w1.setCell ⟨w.heap.size, 0, none⟩ (.slice ac pr.cells.length cc)).setCell ⟨w.heap.size, 1, none⟩ (.slice ab pr.bodies.length cb)) := Kept.set _ _ _ _ (fun h => by have : w0.heap.size ≤ w.heap.size := h; omega)
  refine bodyPost_ret (v := .agg #[.slice ac pr.cells.length cc, .slice ab pr.bodies.length cb]) (by simp [results, Try.results9, go_sem, hz.1, hz.2.1]) rfl ?_
  exact ⟨pr, _, _, rfl, ⟨_, (HI1.out.kept S5).kept S6, (HB1.out.kept S5).kept S6⟩, ((HF1.out.setCell (.inl (by simp)) _).setCell (.inl (by simp)) _).below (by omega)⟩
theorem newS_yes {p : Pr} (h : okB p = true) : newS p = ⟨p.cells.map fun n => ⟨n, 0, -1⟩, [newTa 0 (-1)], 0, []⟩ := by unfold newS; rw [h]; rfl
theorem nums_new {p : Pr} (h : okB p = true) : (newS p).cells.map (·.num) = p.cells := by
  rw [newS_yes h]
  show (p.cells.map _).map _ = _
  rw [List.map_map]
  exact List.map_id p.cells
theorem sm_new {p : Pr} (h : okB p = true) : SmSy (newS p) := (new_inx h).sm
noncomputable def nsReg (k : Nat) : Code := ((Try.f3.body.bind (regAt k)).getD .skip)
theorem ns_S {V W : World} {Y X : Nat} {cv bv c t l : Value} {k : Int} (h1 : PBox V Y cv bv) (h2 : SBox V X c t l k) (hb : Below V.heap.size V W) : PBox W Y cv bv ∧ SBox W X c t l k := ⟨h1.heap (hb.block _ h1.lt), h2.heap (hb.block _ h2.lt)⟩
theorem ns_world {V W : World} (h : Below V.heap.size V W) : ∃ W', W' = W ∧ Below V.heap.size V W' := ⟨W, rfl, h⟩
theorem ints_one1 {w : World} {g : Nat} {n : Int} (h : w.heap[g]? = some (.cells #[.int .i64 n] 3 (0, 0))) : IntsAt w (.slice (some ⟨g, 0, none⟩) 1 1) [n] := by
  refine ⟨_, 1, rfl, by simp, fun i hi => ?_⟩
  have e : i = 0 := by simp at hi; omega
  subst e
  refine ⟨g, 0, rfl, bx_lt h, ?_⟩
  rw [cell_of_row w g _ _ _ (0, 0) h]; rfl
set_option maxRecDepth 100000 in
set_option maxHeartbeats 8000000 in
theorem ns_reg8 (V : World) (Y X : Nat) (pr : Pr) (s : Sy) (ac ab xa ya za : Option Addr) (cc cb xc yc zc : Nat) (HG : Hid (PBox V Y (.slice ac pr.cells.length cc) (.slice ab pr.bodies.length cb))) (HY : Hid (SBox V X (.slice xa s.cells.length xc) (.slice ya s.tasks.length yc) (.slice za s.log.length zc) s.clock)) (HP : Hid (PrAt V (.slice ac pr.cells.length cc) (.slice ab pr.bodies.length cb) pr)) (HS : Hid (SyAt V (.slice xa s.cells.length xc) (.slice ya s.tasks.length yc) (.slice za s.log.length zc) s)) (HSM : Hid (SmSy s)) (HSP : Hid (SmallP pr)) (HOK : Hid (mSoB pr s = true))
    (HNU : Hid (s.cells.map (·.num) = pr.cells)) (HRL : Hid (readyL pr s = [0])) (HHD : Hid (heldL s = [])) (HTK : Hid (tokB s = true)) (hcs : s.cells.length ≤ 1048576) (Q : Exit → Act → World → Prop) (u0 u1 u2 u4 u5 u7 u8 u9 u10 u11 u12 u13 u14 u15 u16 u17 u18 u19 u20 u21 u22 u23 u24 u25 u26 u27 u28 u29 u30 u31 u32 u33 u34 u35 u36 u37 u38 u39 u40 u41 u42 u43 u44 u45 u46 u47 u48 u49 u50 u51 u52 u53 u54 u55 u56 u57 u58 u59 u60 u61 u62 u63 u64 u65 u66 u67 u68 u69 u70 : Value)
    (hQ : Hid (∀ (v44 v45 v46 v47 v48 v49 v50 v51 v52 v53 v54 v55 v56 v57 v58 v59 v60 v61 v62 v63 v64 v65 v66 v67 v68 v69 v70 : Value) (W : World), Below V.heap.size V W → Q .normal ⟨(u0 :: u1 :: .bool true :: .pointer (some ⟨Y, 0, none⟩) :: u4 :: u5 :: .pointer (some ⟨X, 0, none⟩) :: u7 :: u8 :: u9 :: u10 :: u11 :: u12 :: u13 :: u14 :: u15 :: u16 :: u17 :: u18 :: u19 :: u20 :: u21 :: u22 :: u23 :: u24 :: u25 :: u26 :: u27 :: u28 :: u29 :: u30 :: u31 :: u32 :: u33 :: u34 :: u35 :: u36 :: u37 :: u38 :: u39 :: u40 :: u41 :: u42 :: u43 :: v44 :: v45 :: v46 :: v47 :: v48 :: v49 :: v50 :: v51 :: v52 :: v53 :: v54 :: v55 :: v56 :: v57 :: v58 :: v59 :: v60 :: v61 :: v62 :: v63 :: v64 :: v65 :: v66 :: v67 :: v68 :: v69 :: v70 :: []).toArray, []⟩ W)) :
    Code.wp Try.prog (nsReg 8) Q ⟨(u0 :: u1 :: u2 :: .pointer (some ⟨Y, 0, none⟩) :: u4 :: u5 :: .pointer (some ⟨X, 0, none⟩) :: u7 :: u8 :: u9 :: u10 :: u11 :: u12 :: u13 :: u14 :: u15 :: u16 :: u17 :: u18 :: u19 :: u20 :: u21 :: u22 :: u23 :: u24 :: u25 :: u26 :: u27 :: u28 :: u29 :: u30 :: u31 :: u32 :: u33 :: u34 :: u35 :: u36 :: u37 :: u38 :: u39 :: u40 :: u41 :: u42 :: u43 :: u44 :: u45 :: u46 :: u47 :: u48 :: u49 :: u50 :: u51 :: u52 :: u53 :: u54 :: u55 :: u56 :: u57 :: u58 :: u59 :: u60 :: u61 :: u62 :: u63 :: u64 :: u65 :: u66 :: u67 :: u68 :: u69 :: u70 :: []).toArray, []⟩ V := by
  conv => arg 2; whnf
  refine wp_region_noPanic ?_
  refine till_begin (S := fun w' => PBox w' Y (.slice ac pr.cells.length cc) (.slice ab pr.bodies.length cb) ∧ SBox w' X (.slice xa s.cells.length xc) (.slice ya s.tasks.length yc) (.slice za s.log.length zc) s.clock) (z := 27) (by kernel_rfl) ?_
  have HB : Hid (Below V.heap.size V V.drew) := (Below.refl _ _).drew
  generalize V.drew = W at HB ⊢
  refine till_take (i := 0) (v := (.agg #[.slice ac pr.cells.length cc, .slice ab pr.bodies.length cb])) rfl (by kernel_rfl) (fun _ _ _ h => h) (by kernel_rfl) ?_ (ns_S HG.out HY.out HB.out) ?_
  · (intro w hSw; obtain ⟨s0, s1⟩ := hSw; obtain ⟨p0, p1, _, _⟩ := s0.cells; obtain ⟨⟨y0, y1, y2, y3⟩, _, _⟩ := s1.cells; go_simp)
  (try simp only [Act.put, List.setIfInBounds_toArray, List.set_cons_zero, List.set_cons_succ])
  refine till_take (i := 1) (v := (.agg #[.slice xa s.cells.length xc, .slice ya s.tasks.length yc, .int .i64 s.clock, .slice za s.log.length zc])) rfl (by kernel_rfl) (fun _ _ _ h => h) (by kernel_rfl) ?_ (ns_S HG.out HY.out HB.out) ?_
  · (intro w hSw; obtain ⟨s0, s1⟩ := hSw; obtain ⟨p0, p1, _, _⟩ := s0.cells; obtain ⟨⟨y0, y1, y2, y3⟩, _, _⟩ := s1.cells; go_simp)
  (try simp only [Act.put, List.setIfInBounds_toArray, List.set_cons_zero, List.set_cons_succ])
  refine till_step (i := 2) rfl (by kernel_rfl) (fun K hK => ?_)
  go_simp
  refine (sysOk_c pr ac ab cc cb s xa ya za xc yc zc _ ⟨HP.out.1.mono HB.out, HP.out.2.mono HB.out⟩ (HS.out.mono HB.out) HSM.out HSP.out).mono ?_
  rintro e W ⟨rfl, hb⟩
  replace HB : Hid (Below V.heap.size V W) := HB.out.trans (hb.mono HB.out.size)
  clear hb
  refine hK.out _ _ (fun _ => ns_S HG.out HY.out HB.out) ?_
  clear hK
  (try simp only [Act.put, List.setIfInBounds_toArray, List.set_cons_zero, List.set_cons_succ])
  rw [HOK.out]
  refine till_take (i := 3) (v := (.bool true)) rfl (by kernel_rfl) (fun _ _ _ h => h) (by kernel_rfl) ?_ (ns_S HG.out HY.out HB.out) ?_
  · (intro w hSw; obtain ⟨s0, s1⟩ := hSw; obtain ⟨p0, p1, _, _⟩ := s0.cells; obtain ⟨⟨y0, y1, y2, y3⟩, _, _⟩ := s1.cells; go_simp)
  (try simp only [Act.put, List.setIfInBounds_toArray, List.set_cons_zero, List.set_cons_succ])
  refine till_take (i := 4) (v := (.agg #[.slice xa s.cells.length xc, .slice ya s.tasks.length yc, .int .i64 s.clock, .slice za s.log.length zc])) rfl (by kernel_rfl) (fun _ _ _ h => h) (by kernel_rfl) ?_ (ns_S HG.out HY.out HB.out) ?_
  · (intro w hSw; obtain ⟨s0, s1⟩ := hSw; obtain ⟨p0, p1, _, _⟩ := s0.cells; obtain ⟨⟨y0, y1, y2, y3⟩, _, _⟩ := s1.cells; go_simp)
  (try simp only [Act.put, List.setIfInBounds_toArray, List.set_cons_zero, List.set_cons_succ])
  refine till_take (i := 6) (v := (.pointer (some ⟨Y, 0, none⟩))) rfl (by kernel_rfl) (fun _ _ _ h => h) (by kernel_rfl) ?_ (ns_S HG.out HY.out HB.out) ?_
  · (intro w hSw; obtain ⟨s0, s1⟩ := hSw; obtain ⟨p0, p1, _, _⟩ := s0.cells; obtain ⟨⟨y0, y1, y2, y3⟩, _, _⟩ := s1.cells; go_simp)
  (try simp only [Act.put, List.setIfInBounds_toArray, List.set_cons_zero, List.set_cons_succ])
  refine till_take (i := 7) (v := (.slice ac pr.cells.length cc)) rfl (by kernel_rfl) (fun _ _ _ h => h) (by kernel_rfl) ?_ (ns_S HG.out HY.out HB.out) ?_
  · (intro w hSw; obtain ⟨s0, s1⟩ := hSw; obtain ⟨p0, p1, _, _⟩ := s0.cells; obtain ⟨⟨y0, y1, y2, y3⟩, _, _⟩ := s1.cells; go_simp)
  (try simp only [Act.put, List.setIfInBounds_toArray, List.set_cons_zero, List.set_cons_succ])
  refine till_step (i := 5) rfl (by kernel_rfl) (fun K hK => ?_)
  go_simp
  refine (sysNums_any s _ _ _ _ (HS.out.1.mono HB.out) ⟨_, _, rfl⟩ ⟨_, _, rfl⟩ ⟨_, _, rfl⟩ hcs).mono ?_
  rintro e W ⟨vn, rfl, hv, hb⟩
  have HN : Hid (IntsAt W vn pr.cells) := by have h1 := OwnInt.at hv; rwa [HNU.out] at h1
  clear hv
  replace HB : Hid (Below V.heap.size V W) := HB.out.trans (hb.mono HB.out.size)
  clear hb
  refine hK.out _ _ (fun _ => ns_S HG.out HY.out HB.out) ?_
  clear hK
  (try simp only [Act.put, List.setIfInBounds_toArray, List.set_cons_zero, List.set_cons_succ])
  refine till_step (i := 8) rfl (by kernel_rfl) (fun K hK => ?_)
  go_simp
  refine (lqI_same pr.cells _ _ _ HN.out (HP.out.1.mono HB.out)).mono ?_
  rintro e W ⟨rfl, hb⟩
  clear HN
  replace HB : Hid (Below V.heap.size V W) := HB.out.trans (hb.mono HB.out.size)
  clear hb
  refine hK.out _ _ (fun _ => ns_S HG.out HY.out HB.out) ?_
  clear hK
  (try simp only [Act.put, List.setIfInBounds_toArray, List.set_cons_zero, List.set_cons_succ])
  refine till_take (i := 9) (v := (.bool true)) rfl (by kernel_rfl) (fun _ _ _ h => h) (by kernel_rfl) ?_ (ns_S HG.out HY.out HB.out) ?_
  · (intro w hSw; obtain ⟨s0, s1⟩ := hSw; obtain ⟨p0, p1, _, _⟩ := s0.cells; obtain ⟨⟨y0, y1, y2, y3⟩, _, _⟩ := s1.cells; go_simp)
  (try simp only [Act.put, List.setIfInBounds_toArray, List.set_cons_zero, List.set_cons_succ])
  refine till_take (i := 10) (v := (.bool true)) rfl (by kernel_rfl) (fun _ _ _ h => h) (by kernel_rfl) ?_ (ns_S HG.out HY.out HB.out) ?_
  · (intro w hSw; obtain ⟨s0, s1⟩ := hSw; obtain ⟨p0, p1, _, _⟩ := s0.cells; obtain ⟨⟨y0, y1, y2, y3⟩, _, _⟩ := s1.cells; go_simp)
  (try simp only [Act.put, List.setIfInBounds_toArray, List.set_cons_zero, List.set_cons_succ])
  refine till_take (i := 11) (v := (.agg #[.slice ac pr.cells.length cc, .slice ab pr.bodies.length cb])) rfl (by kernel_rfl) (fun _ _ _ h => h) (by kernel_rfl) ?_ (ns_S HG.out HY.out HB.out) ?_
  · (intro w hSw; obtain ⟨s0, s1⟩ := hSw; obtain ⟨p0, p1, _, _⟩ := s0.cells; obtain ⟨⟨y0, y1, y2, y3⟩, _, _⟩ := s1.cells; go_simp)
  (try simp only [Act.put, List.setIfInBounds_toArray, List.set_cons_zero, List.set_cons_succ])
  refine till_take (i := 12) (v := (.agg #[.slice xa s.cells.length xc, .slice ya s.tasks.length yc, .int .i64 s.clock, .slice za s.log.length zc])) rfl (by kernel_rfl) (fun _ _ _ h => h) (by kernel_rfl) ?_ (ns_S HG.out HY.out HB.out) ?_
  · (intro w hSw; obtain ⟨s0, s1⟩ := hSw; obtain ⟨p0, p1, _, _⟩ := s0.cells; obtain ⟨⟨y0, y1, y2, y3⟩, _, _⟩ := s1.cells; go_simp)
  (try simp only [Act.put, List.setIfInBounds_toArray, List.set_cons_zero, List.set_cons_succ])
  refine till_two (i := 13) (j := 14) rfl rfl (by kernel_rfl) (fun K hK => ?b1) (fun K hK => ?b2)
  case b1 =>
    go_simp
    refine (sysReady_any pr ac ab cc cb s xa ya za xc yc zc _ ⟨HP.out.1.mono HB.out, HP.out.2.mono HB.out⟩ (HS.out.mono HB.out) HSM.out HSP.out).mono ?_
    rintro e W ⟨vr, rfl, hv, hb⟩
    have HR : Hid (IntsAt W vr [0]) := by have h1 := OwnInt.at hv; rwa [HRL.out] at h1
    clear hv
    replace HB : Hid (Below V.heap.size V W) := HB.out.trans (hb.mono HB.out.size)
    clear hb
    refine hK.out _ _ (fun _ => ns_S HG.out HY.out HB.out) ?_
    clear hK
    (try simp only [Act.put, List.setIfInBounds_toArray, List.set_cons_zero, List.set_cons_succ])
    refine till_step (i := 14) rfl (by kernel_rfl) (fun K hK => ?_)
    go_simp
    obtain ⟨WB, hWB, hBB⟩ := ns_world HB.out
    subst hWB
    have HBU : Hid (IntsAt (WB.alloc (.cells #[.int .i64 0] 3)) (.slice (some ⟨WB.heap.size, 0, none⟩) 1 1) [0]) := ints_one1 (heap_alloc_new WB _)
    replace HR : Hid (IntsAt (WB.alloc (.cells #[.int .i64 0] 3)) vr [0]) := HR.out.mono ((Below.refl _ _).alloc (Nat.le_refl _) _)
    replace HB : Hid (Below V.heap.size V (WB.alloc (.cells #[.int .i64 0] 3))) := HB.out.alloc HB.out.size _
    refine hK.out _ _ (fun _ => ns_S HG.out HY.out HB.out) ?_
    clear hK
    (try simp only [Act.put, List.setIfInBounds_toArray, List.set_cons_zero, List.set_cons_succ])
    refine till_step (i := 15) rfl (by kernel_rfl) (fun K hK => ?_)
    go_simp
    refine (lqI_same [0] _ _ _ HR.out HBU.out).mono ?_
    rintro e W ⟨rfl, hb⟩
    clear HR HBU
    replace HB : Hid (Below V.heap.size V W) := HB.out.trans (hb.mono HB.out.size)
    clear hb
    refine hK.out _ _ (fun _ => ns_S HG.out HY.out HB.out) ?_
    clear hK
    (try simp only [Act.put, List.setIfInBounds_toArray, List.set_cons_zero, List.set_cons_succ])
    refine till_take (i := 16) (v := (.bool true)) rfl (by kernel_rfl) (fun _ _ _ h => h) (by kernel_rfl) ?_ (ns_S HG.out HY.out HB.out) ?_
    · (intro w hSw; obtain ⟨s0, s1⟩ := hSw; obtain ⟨p0, p1, _, _⟩ := s0.cells; obtain ⟨⟨y0, y1, y2, y3⟩, _, _⟩ := s1.cells; go_simp)
    (try simp only [Act.put, List.setIfInBounds_toArray, List.set_cons_zero, List.set_cons_succ])
    refine till_take (i := 17) (v := (.bool true)) rfl (by kernel_rfl) (fun _ _ _ h => h) (by kernel_rfl) ?_ (ns_S HG.out HY.out HB.out) ?_
    · (intro w hSw; obtain ⟨s0, s1⟩ := hSw; obtain ⟨p0, p1, _, _⟩ := s0.cells; obtain ⟨⟨y0, y1, y2, y3⟩, _, _⟩ := s1.cells; go_simp)
    (try simp only [Act.put, List.setIfInBounds_toArray, List.set_cons_zero, List.set_cons_succ])
    refine till_take (i := 18) (v := (.agg #[.slice xa s.cells.length xc, .slice ya s.tasks.length yc, .int .i64 s.clock, .slice za s.log.length zc])) rfl (by kernel_rfl) (fun _ _ _ h => h) (by kernel_rfl) ?_ (ns_S HG.out HY.out HB.out) ?_
    · (intro w hSw; obtain ⟨s0, s1⟩ := hSw; obtain ⟨p0, p1, _, _⟩ := s0.cells; obtain ⟨⟨y0, y1, y2, y3⟩, _, _⟩ := s1.cells; go_simp)
    (try simp only [Act.put, List.setIfInBounds_toArray, List.set_cons_zero, List.set_cons_succ])
    refine till_step (i := 19) rfl (by kernel_rfl) (fun K hK => ?_)
    go_simp
    refine (sysHeld_any s xa ya za xc yc zc _ (HS.out.1.mono HB.out) hcs).mono ?_
    rintro e W ⟨vh, rfl, hv, hb⟩
    obtain ⟨ha, hc, eh, _⟩ := own_shape hv
    rw [HHD.out] at eh
    subst eh
    clear hv
    replace HB : Hid (Below V.heap.size V W) := HB.out.trans (hb.mono HB.out.size)
    clear hb
    refine hK.out _ _ (fun _ => ns_S HG.out HY.out HB.out) ?_
    clear hK
    (try simp only [Act.put, List.setIfInBounds_toArray, List.set_cons_zero, List.set_cons_succ])
    refine till_take (i := 20) (v := (.int .i64 0)) rfl (by kernel_rfl) (fun _ _ _ h => h) (by kernel_rfl) ?_ (ns_S HG.out HY.out HB.out) ?_
    · (intro w hSw; obtain ⟨s0, s1⟩ := hSw; obtain ⟨p0, p1, _, _⟩ := s0.cells; obtain ⟨⟨y0, y1, y2, y3⟩, _, _⟩ := s1.cells; go_simp)
    (try simp only [Act.put, List.setIfInBounds_toArray, List.set_cons_zero, List.set_cons_succ])
    refine till_take (i := 21) (v := (.bool true)) rfl (by kernel_rfl) (fun _ _ _ h => h) (by kernel_rfl) ?_ (ns_S HG.out HY.out HB.out) ?_
    · (intro w hSw; obtain ⟨s0, s1⟩ := hSw; obtain ⟨p0, p1, _, _⟩ := s0.cells; obtain ⟨⟨y0, y1, y2, y3⟩, _, _⟩ := s1.cells; go_simp)
    (try simp only [Act.put, List.setIfInBounds_toArray, List.set_cons_zero, List.set_cons_succ])
    refine till_take (i := 22) (v := (.bool true)) rfl (by kernel_rfl) (fun _ _ _ h => h) (by kernel_rfl) ?_ (ns_S HG.out HY.out HB.out) ?_
    · (intro w hSw; obtain ⟨s0, s1⟩ := hSw; obtain ⟨p0, p1, _, _⟩ := s0.cells; obtain ⟨⟨y0, y1, y2, y3⟩, _, _⟩ := s1.cells; go_simp)
    (try simp only [Act.put, List.setIfInBounds_toArray, List.set_cons_zero, List.set_cons_succ])
    refine till_take (i := 23) (v := (.bool true)) rfl (by kernel_rfl) (fun _ _ _ h => h) (by kernel_rfl) ?_ (ns_S HG.out HY.out HB.out) ?_
    · (intro w hSw; obtain ⟨s0, s1⟩ := hSw; obtain ⟨p0, p1, _, _⟩ := s0.cells; obtain ⟨⟨y0, y1, y2, y3⟩, _, _⟩ := s1.cells; go_simp)
    (try simp only [Act.put, List.setIfInBounds_toArray, List.set_cons_zero, List.set_cons_succ])
    refine till_take (i := 24) (v := (.agg #[.slice xa s.cells.length xc, .slice ya s.tasks.length yc, .int .i64 s.clock, .slice za s.log.length zc])) rfl (by kernel_rfl) (fun _ _ _ h => h) (by kernel_rfl) ?_ (ns_S HG.out HY.out HB.out) ?_
    · (intro w hSw; obtain ⟨s0, s1⟩ := hSw; obtain ⟨p0, p1, _, _⟩ := s0.cells; obtain ⟨⟨y0, y1, y2, y3⟩, _, _⟩ := s1.cells; go_simp)
    (try simp only [Act.put, List.setIfInBounds_toArray, List.set_cons_zero, List.set_cons_succ])
    refine till_step (i := 25) rfl (by kernel_rfl) (fun K hK => ?_)
    go_simp
    refine (treeOk_any s xa ya za xc yc zc _ (HS.out.2.1.mono HB.out)).mono ?_
    rintro e W ⟨rfl, hb⟩
    replace HB : Hid (Below V.heap.size V W) := HB.out.trans (hb.mono HB.out.size)
    clear hb
    refine hK.out _ _ (fun _ => ns_S HG.out HY.out HB.out) ?_
    clear hK
    (try simp only [Act.put, List.setIfInBounds_toArray, List.set_cons_zero, List.set_cons_succ])
    rw [HTK.out]
    refine till_take (i := 26) (v := (.bool true)) rfl (by kernel_rfl) (fun _ _ _ h => h) (by kernel_rfl) ?_ (ns_S HG.out HY.out HB.out) ?_
    · (intro w hSw; obtain ⟨s0, s1⟩ := hSw; obtain ⟨p0, p1, _, _⟩ := s0.cells; obtain ⟨⟨y0, y1, y2, y3⟩, _, _⟩ := s1.cells; go_simp)
    (try simp only [Act.put, List.setIfInBounds_toArray, List.set_cons_zero, List.set_cons_succ])
    refine till_step (i := 27) rfl (by kernel_rfl) (fun K hK => ?_)
    go_simp
    refine hK.out _ _ (fun h => absurd rfl h) ?_
    clear hK
    (try simp only [Act.put, List.setIfInBounds_toArray, List.set_cons_zero, List.set_cons_succ])
    refine till_done (by kernel_rfl) ?_ _
    exact hQ.out _ _ _ _ _ _ _ _ _ _ _ _ _ _ _ _ _ _ _ _ _ _ _ _ _ _ _ _ HB.out
  case b2 =>
    go_simp
    obtain ⟨WB, hWB, hBB⟩ := ns_world HB.out
    subst hWB
    have HBU : Hid (IntsAt (WB.alloc (.cells #[.int .i64 0] 3)) (.slice (some ⟨WB.heap.size, 0, none⟩) 1 1) [0]) := ints_one1 (heap_alloc_new WB _)
    replace HB : Hid (Below V.heap.size V (WB.alloc (.cells #[.int .i64 0] 3))) := HB.out.alloc HB.out.size _
    refine hK.out _ _ (fun _ => ns_S HG.out HY.out HB.out) ?_
    clear hK
    (try simp only [Act.put, List.setIfInBounds_toArray, List.set_cons_zero, List.set_cons_succ])
    refine till_step (i := 13) rfl (by kernel_rfl) (fun K hK => ?_)
    go_simp
    refine (sysReady_any pr ac ab cc cb s xa ya za xc yc zc _ ⟨HP.out.1.mono HB.out, HP.out.2.mono HB.out⟩ (HS.out.mono HB.out) HSM.out HSP.out).mono ?_
    rintro e W ⟨vr, rfl, hv, hb⟩
    have HR : Hid (IntsAt W vr [0]) := by have h1 := OwnInt.at hv; rwa [HRL.out] at h1
    replace HBU : Hid (IntsAt W _ [0]) := HBU.out.mono hb
    clear hv
    replace HB : Hid (Below V.heap.size V W) := HB.out.trans (hb.mono HB.out.size)
    clear hb
    refine hK.out _ _ (fun _ => ns_S HG.out HY.out HB.out) ?_
    clear hK
    (try simp only [Act.put, List.setIfInBounds_toArray, List.set_cons_zero, List.set_cons_succ])
    refine till_step (i := 15) rfl (by kernel_rfl) (fun K hK => ?_)
    go_simp
    refine (lqI_same [0] _ _ _ HR.out HBU.out).mono ?_
    rintro e W ⟨rfl, hb⟩
    clear HR HBU
    replace HB : Hid (Below V.heap.size V W) := HB.out.trans (hb.mono HB.out.size)
    clear hb
    refine hK.out _ _ (fun _ => ns_S HG.out HY.out HB.out) ?_
    clear hK
    (try simp only [Act.put, List.setIfInBounds_toArray, List.set_cons_zero, List.set_cons_succ])
    refine till_take (i := 16) (v := (.bool true)) rfl (by kernel_rfl) (fun _ _ _ h => h) (by kernel_rfl) ?_ (ns_S HG.out HY.out HB.out) ?_
    · (intro w hSw; obtain ⟨s0, s1⟩ := hSw; obtain ⟨p0, p1, _, _⟩ := s0.cells; obtain ⟨⟨y0, y1, y2, y3⟩, _, _⟩ := s1.cells; go_simp)
    (try simp only [Act.put, List.setIfInBounds_toArray, List.set_cons_zero, List.set_cons_succ])
    refine till_take (i := 17) (v := (.bool true)) rfl (by kernel_rfl) (fun _ _ _ h => h) (by kernel_rfl) ?_ (ns_S HG.out HY.out HB.out) ?_
    · (intro w hSw; obtain ⟨s0, s1⟩ := hSw; obtain ⟨p0, p1, _, _⟩ := s0.cells; obtain ⟨⟨y0, y1, y2, y3⟩, _, _⟩ := s1.cells; go_simp)
    (try simp only [Act.put, List.setIfInBounds_toArray, List.set_cons_zero, List.set_cons_succ])
    refine till_take (i := 18) (v := (.agg #[.slice xa s.cells.length xc, .slice ya s.tasks.length yc, .int .i64 s.clock, .slice za s.log.length zc])) rfl (by kernel_rfl) (fun _ _ _ h => h) (by kernel_rfl) ?_ (ns_S HG.out HY.out HB.out) ?_
    · (intro w hSw; obtain ⟨s0, s1⟩ := hSw; obtain ⟨p0, p1, _, _⟩ := s0.cells; obtain ⟨⟨y0, y1, y2, y3⟩, _, _⟩ := s1.cells; go_simp)
    (try simp only [Act.put, List.setIfInBounds_toArray, List.set_cons_zero, List.set_cons_succ])
    refine till_step (i := 19) rfl (by kernel_rfl) (fun K hK => ?_)
    go_simp
    refine (sysHeld_any s xa ya za xc yc zc _ (HS.out.1.mono HB.out) hcs).mono ?_
    rintro e W ⟨vh, rfl, hv, hb⟩
    obtain ⟨ha, hc, eh, _⟩ := own_shape hv
    rw [HHD.out] at eh
    subst eh
    clear hv
    replace HB : Hid (Below V.heap.size V W) := HB.out.trans (hb.mono HB.out.size)
    clear hb
    refine hK.out _ _ (fun _ => ns_S HG.out HY.out HB.out) ?_
    clear hK
    (try simp only [Act.put, List.setIfInBounds_toArray, List.set_cons_zero, List.set_cons_succ])
    refine till_take (i := 20) (v := (.int .i64 0)) rfl (by kernel_rfl) (fun _ _ _ h => h) (by kernel_rfl) ?_ (ns_S HG.out HY.out HB.out) ?_
    · (intro w hSw; obtain ⟨s0, s1⟩ := hSw; obtain ⟨p0, p1, _, _⟩ := s0.cells; obtain ⟨⟨y0, y1, y2, y3⟩, _, _⟩ := s1.cells; go_simp)
    (try simp only [Act.put, List.setIfInBounds_toArray, List.set_cons_zero, List.set_cons_succ])
    refine till_take (i := 21) (v := (.bool true)) rfl (by kernel_rfl) (fun _ _ _ h => h) (by kernel_rfl) ?_ (ns_S HG.out HY.out HB.out) ?_
    · (intro w hSw; obtain ⟨s0, s1⟩ := hSw; obtain ⟨p0, p1, _, _⟩ := s0.cells; obtain ⟨⟨y0, y1, y2, y3⟩, _, _⟩ := s1.cells; go_simp)
    (try simp only [Act.put, List.setIfInBounds_toArray, List.set_cons_zero, List.set_cons_succ])
    refine till_take (i := 22) (v := (.bool true)) rfl (by kernel_rfl) (fun _ _ _ h => h) (by kernel_rfl) ?_ (ns_S HG.out HY.out HB.out) ?_
    · (intro w hSw; obtain ⟨s0, s1⟩ := hSw; obtain ⟨p0, p1, _, _⟩ := s0.cells; obtain ⟨⟨y0, y1, y2, y3⟩, _, _⟩ := s1.cells; go_simp)
    (try simp only [Act.put, List.setIfInBounds_toArray, List.set_cons_zero, List.set_cons_succ])
    refine till_take (i := 23) (v := (.bool true)) rfl (by kernel_rfl) (fun _ _ _ h => h) (by kernel_rfl) ?_ (ns_S HG.out HY.out HB.out) ?_
    · (intro w hSw; obtain ⟨s0, s1⟩ := hSw; obtain ⟨p0, p1, _, _⟩ := s0.cells; obtain ⟨⟨y0, y1, y2, y3⟩, _, _⟩ := s1.cells; go_simp)
    (try simp only [Act.put, List.setIfInBounds_toArray, List.set_cons_zero, List.set_cons_succ])
    refine till_take (i := 24) (v := (.agg #[.slice xa s.cells.length xc, .slice ya s.tasks.length yc, .int .i64 s.clock, .slice za s.log.length zc])) rfl (by kernel_rfl) (fun _ _ _ h => h) (by kernel_rfl) ?_ (ns_S HG.out HY.out HB.out) ?_
    · (intro w hSw; obtain ⟨s0, s1⟩ := hSw; obtain ⟨p0, p1, _, _⟩ := s0.cells; obtain ⟨⟨y0, y1, y2, y3⟩, _, _⟩ := s1.cells; go_simp)
    (try simp only [Act.put, List.setIfInBounds_toArray, List.set_cons_zero, List.set_cons_succ])
    refine till_step (i := 25) rfl (by kernel_rfl) (fun K hK => ?_)
    go_simp
    refine (treeOk_any s xa ya za xc yc zc _ (HS.out.2.1.mono HB.out)).mono ?_
    rintro e W ⟨rfl, hb⟩
    replace HB : Hid (Below V.heap.size V W) := HB.out.trans (hb.mono HB.out.size)
    clear hb
    refine hK.out _ _ (fun _ => ns_S HG.out HY.out HB.out) ?_
    clear hK
    (try simp only [Act.put, List.setIfInBounds_toArray, List.set_cons_zero, List.set_cons_succ])
    rw [HTK.out]
    refine till_take (i := 26) (v := (.bool true)) rfl (by kernel_rfl) (fun _ _ _ h => h) (by kernel_rfl) ?_ (ns_S HG.out HY.out HB.out) ?_
    · (intro w hSw; obtain ⟨s0, s1⟩ := hSw; obtain ⟨p0, p1, _, _⟩ := s0.cells; obtain ⟨⟨y0, y1, y2, y3⟩, _, _⟩ := s1.cells; go_simp)
    (try simp only [Act.put, List.setIfInBounds_toArray, List.set_cons_zero, List.set_cons_succ])
    refine till_step (i := 27) rfl (by kernel_rfl) (fun K hK => ?_)
    go_simp
    refine hK.out _ _ (fun h => absurd rfl h) ?_
    clear hK
    (try simp only [Act.put, List.setIfInBounds_toArray, List.set_cons_zero, List.set_cons_succ])
    refine till_done (by kernel_rfl) ?_ _
    exact hQ.out _ _ _ _ _ _ _ _ _ _ _ _ _ _ _ _ _ _ _ _ _ _ _ _ _ _ _ _ HB.out
end Go.Proofs.Ytgbgjljflgbcaaa
