import Derived.Test.YtgbgjljflgbcaaaXn37
import Derived.Test.YtgbgjljflgbcaaaXn25
import Derived.Handy
namespace Go.Proofs.Ytgbgjljflgbcaaa
open Go.RowKit
set_option linter.unusedSimpArgs false
set_option linter.unusedVariables false
set_option maxRecDepth 20000
theorem CB.begin2 {w1 w2 : World} {g1 g2 : Nat} (h1 : w1.heap.size ≤ g1) (h2 : w1.heap.size ≤ g2) (hne : g1 ≠ g2) (z1 : Zero3 w2 g1) (z2 : Zero3 w2 g2) (hs : w1.heap.size ≤ w2.heap.size) :
    CB (w2.heap.size + 1) w1.heap.size ((w2.alloc (.cells #[.int .i64 0, .int .i64 0, .int .i64 (-1), .slice (some ⟨g1, 0, none⟩) 3 3, .int .i64 0, .int .i64 0, .int .i64 0, .int .i64 0, .slice (some ⟨g2, 0, none⟩) 3 3, .slice none 0 0, .slice none 0 0, .int .i64 0, .int .i64 0] 70)).alloc (.cells #[.slice none 0 0, .slice (some ⟨w2.heap.size, 0, none⟩) 1 1, .int .i64 0, .slice none 0 0] 32)) ⟨[], [newTa 0 (-1)], 0, []⟩ := by
  have l1 : g1 < w2.heap.size := bx_lt z1
  have l2 : g2 < w2.heap.size := bx_lt z2
  have K : ∀ g, g < w2.heap.size → ((w2.alloc (.cells #[.int .i64 0, .int .i64 0, .int .i64 (-1), .slice (some ⟨g1, 0, none⟩) 3 3, .int .i64 0, .int .i64 0, .int .i64 0, .int .i64 0, .slice (some ⟨g2, 0, none⟩) 3 3, .slice none 0 0, .slice none 0 0, .int .i64 0, .int .i64 0] 70)).alloc (.cells #[.slice none 0 0, .slice (some ⟨w2.heap.size, 0, none⟩) 1 1, .int .i64 0, .slice none 0 0] 32)).heap[g]? = w2.heap[g]? := fun g hg => by
    rw [Below.heap_alloc _ _ _ (by simp; omega), Below.heap_alloc _ _ _ hg]
  refine ⟨⟨fun g => if g = g1 then .r 0 else if g = g2 then .o 0 else if g = w2.heap.size then .t else .z, .slice none 0 0, .slice (some ⟨w2.heap.size, 0, none⟩) 1 1, .slice none 0 0, [(newTa 0 (-1), ⟨.slice (some ⟨g1, 0, none⟩) 3 3, .slice (some ⟨g2, 0, none⟩) 3 3, .slice none 0 0, .slice none 0 0⟩)], [], ⟨⟨World.ownsRow_nil _ _ _ _, fun g hg => absurd (show (none : Option Nat) = some g from hg) (by simp)⟩, ⟨?_, ?_⟩, ⟨World.ownsRow_nil _ _ _ _, fun g hg => absurd (show (none : Option Nat) = some g from hg) (by simp)⟩, ?_, fun j hj => absurd hj (by simp)⟩, rfl, rfl, ?_, ?_⟩, by omega⟩
  · refine ⟨rfl, .inr ⟨w2.heap.size, 1, #[.int .i64 0, .int .i64 0, .int .i64 (-1), .slice (some ⟨g1, 0, none⟩) 3 3, .int .i64 0, .int .i64 0, .int .i64 0, .int .i64 0, .slice (some ⟨g2, 0, none⟩) 3 3, .slice none 0 0, .slice none 0 0, .int .i64 0, .int .i64 0], rfl, by omega, ?_, by simp, by unfold maxLen; omega, rfl, rfl⟩⟩
    rw [Below.heap_alloc _ _ _ (by simp)]
    exact heap_alloc_new w2 _
  · intro g hg
    injection hg with hg
    subst hg
    show (if w2.heap.size = g1 then _ else if w2.heap.size = g2 then _ else if w2.heap.size = w2.heap.size then _ else _) = _
    rw [if_neg (by omega), if_neg (by omega), if_pos rfl]
  · intro i hi
    have : i = 0 := by simpa using hi
    subst this
    refine ⟨⟨⟨rfl, .inr ⟨g1, 3, #[.int .i64 0, .int .i64 0, .int .i64 0], rfl, h1, ?_, Nat.le_refl 3, by unfold maxLen; omega, rfl, rfl⟩⟩, fun g hg => ?_⟩, ⟨⟨rfl, .inr ⟨g2, 3, #[.int .i64 0, .int .i64 0, .int .i64 0], rfl, h2, ?_, Nat.le_refl 3, by unfold maxLen; omega, rfl, rfl⟩⟩, fun g hg => ?_⟩, ⟨World.ownsRow_nil _ _ _ _, fun g hg => absurd (show (none : Option Nat) = some g from hg) (by simp)⟩, ⟨World.ownsRow_nil _ _ _ _, fun g hg => absurd (show (none : Option Nat) = some g from hg) (by simp)⟩⟩
    · exact (K g1 l1).trans z1
    · injection hg with hg
      subst hg
      exact if_pos rfl
    · exact (K g2 l2).trans z2
    · injection hg with hg
      subst hg
      show (if g2 = g1 then _ else if g2 = g2 then _ else _) = _
      rw [if_neg (fun e => hne e.symm), if_pos rfl]
  · show (if w2.heap.size + 1 = g1 then _ else if w2.heap.size + 1 = g2 then _ else if w2.heap.size + 1 = w2.heap.size then _ else _) = _
    rw [if_neg (by omega), if_neg (by omega), if_neg (by omega)]
  · simpa using heap_alloc_new (w2.alloc (.cells #[.int .i64 0, .int .i64 0, .int .i64 (-1), .slice (some ⟨g1, 0, none⟩) 3 3, .int .i64 0, .int .i64 0, .int .i64 0, .int .i64 0, .slice (some ⟨g2, 0, none⟩) 3 3, .slice none 0 0, .slice none 0 0, .int .i64 0, .int .i64 0] 70)) (.cells #[.slice none 0 0, .slice (some ⟨w2.heap.size, 0, none⟩) 1 1, .int .i64 0, .slice none 0 0] 32)
set_option maxHeartbeats 4000000 in
theorem sysNew_any (S : Nat → Prop) (p : Pr) (pc pb : Value) (w : World) (hp : PrS S w pc pb p) : Calls Try.prog 11 #[.agg #[pc, pb]] w (NewR p w) := by
  obtain ⟨pa, pca, rfl, _⟩ := hp.1.shape
  obtain ⟨pba, pbc, rfl, _⟩ := hp.2.shape
  have HP := (show Hid (PrS _ _ _ _ _) from hp)
  clear hp
  have HY : Hid (∃ V, V = ((w.alloc (.cells #[.slice pa p.cells.length pca, .slice pba p.bodies.length pbc] 26)).alloc (.cells #[.slice none 0 0, .slice none 0 0, .int .i64 0, .slice none 0 0] 32)) ∧ PBox V w.heap.size (.slice pa p.cells.length pca) (.slice pba p.bodies.length pbc) ∧ V.heap[w.heap.size + 1]? = some (.cells #[.slice none 0 0, .slice none 0 0, .int .i64 0, .slice none 0 0] 32 (0, 0)) ∧ V.heap.size = w.heap.size + 2 ∧ Below w.heap.size w V) := by
    refine ⟨_, rfl, PBox.alloc (heap_alloc_new w _) _, ?_, by simp, (((Below.refl _ _).alloc (Nat.le_refl _) _).alloc (by simp) _)⟩
    simpa using heap_alloc_new (w.alloc (.cells #[.slice pa p.cells.length pca, .slice pba p.bodies.length pbc] 26)) (.cells #[.slice none 0 0, .slice none 0 0, .int .i64 0, .slice none 0 0] 32)
  go_enter Try.func11, Try.ntmps11
  go_wp2_with fail
  obtain ⟨V, hV, hVP, hVZ, hVs, hVb⟩ := HY.out
  rw [← hV]
  clear hV HY
  have hVg : w.heap.size + 1 < V.heap.size := by omega
  clear hVs
  revert hVP hVZ hVg
  generalize hZe : w.heap.size + 1 = Z
  intro hVP hVZ hVg
  have hwZ : w.heap.size < Z := by omega
  have HVP := (show Hid (PBox _ _ _ _) from hVP)
  have HVZ := (show Hid (_ = _) from hVZ)
  have HVB := (show Hid (Below _ _ _) from hVb)
  have hsw := hVb.size
  clear hVP hVZ hVb hZe
  refine (progOk_any p _ _ _ (HP.out.1.at.mono HVB.out) (HP.out.2.at.mono HVB.out)).mono ?_
  rintro e w1 ⟨rfl, hb1⟩
  have hs1 := hb1.size
  have HZ1 : Hid (w1.heap[Z]? = _) := (hb1.block Z hVg).trans HVZ.out
  have HP1 : Hid (PBox w1 w.heap.size (.slice pa p.cells.length pca) (.slice pba p.bodies.length pbc)) := HVP.out.heap (hb1.block _ (by omega))
  have HB1 : Hid (Below w.heap.size w w1) := HVB.out.trans (hb1.mono hsw)
  have hZ1 : Z < w1.heap.size := by omega
  clear hb1 hs1 HVP HVZ HVB
  cases hok : okB p
  · have HOK := (show Hid (_ = _) from hok)
    clear hok
    obtain ⟨⟨z0, z1, z2, z3⟩, ⟨f0, f1, f2, f3⟩, hZl⟩ := box4c HZ1.out
    go_wp2_with fail
    (try simp only [Exit.inBlock, Exit.then])
    obtain ⟨⟨r0, r1, r2, r3⟩, _, _⟩ := box4c (box4 (b0 := .slice none 0 0) (b1 := .slice none 0 0) (b2 := .int .i64 0) (b3 := .slice none 0 0) HZ1.out).1
    refine bodyPost_ret (v := .tuple #[.agg #[.slice none 0 0, .slice none 0 0, .int .i64 0, .slice none 0 0], .bool false]) ?_ rfl ⟨.slice none 0 0, .slice none 0 0, .slice none 0 0, by rw [newS_no HOK.out, HOK.out], by rw [newS_no HOK.out]; exact OwnS.nil _ _, (((HB1.out.setCell (by simp; omega) _).setCell (by simp; omega) _).setCell (by simp; omega) _).setCell (by simp; omega) _⟩
    rw [results_cell_tmp rfl]
    go_simp
  have HOK := (show Hid (_ = _) from hok)
  have hc3 : p.cells.length ≤ 3 := (ok_sizes hok).1
  clear hok
  go_wp2_with fail
  refine (newTask_any _ _ _).mono ?_
  rintro e w2 ⟨g1, g2, rfl, hg1, hg2, hne, z1, z2, hb2⟩
  have hs12 : w1.heap.size ≤ w2.heap.size := hb2.size
  have HCB := (show Hid (CB _ _ _ _) from CB.begin2 hg1 hg2 hne z1 z2 hs12)
  have HP2 : Hid (PBox w2 w.heap.size (.slice pa p.cells.length pca) (.slice pba p.bodies.length pbc)) := HP1.out.heap (hb2.block _ (by omega))
  have HB3 : Hid (Below w1.heap.size w1 ((w2.alloc (.cells #[.int .i64 0, .int .i64 0, .int .i64 (-1), .slice (some ⟨g1, 0, none⟩) 3 3, .int .i64 0, .int .i64 0, .int .i64 0, .int .i64 0, .slice (some ⟨g2, 0, none⟩) 3 3, .slice none 0 0, .slice none 0 0, .int .i64 0, .int .i64 0] 70)).alloc (.cells #[.slice none 0 0, .slice (some ⟨w2.heap.size, 0, none⟩) 1 1, .int .i64 0, .slice none 0 0] 32))) := (hb2.alloc hs12 _).alloc (by simp; omega) _
  have hXs : w1.heap.size < w2.heap.size + 1 := by omega
  obtain ⟨p0, p1, _, _⟩ := HP2.out.cells
  have hP2 := HP2.out.lt
  clear hg1 hg2 hne z1 z2 hb2
  go_wp2_with fail
  clear p0 p1
  revert HCB HB3 hXs
  generalize ((w2.alloc (.cells #[.int .i64 0, .int .i64 0, .int .i64 (-1), .slice (some ⟨g1, 0, none⟩) 3 3, .int .i64 0, .int .i64 0, .int .i64 0, .int .i64 0, .slice (some ⟨g2, 0, none⟩) 3 3, .slice none 0 0, .slice none 0 0, .int .i64 0, .int .i64 0] 70)).alloc (.cells #[.slice none 0 0, .slice (some ⟨w2.heap.size, 0, none⟩) 1 1, .int .i64 0, .slice none 0 0] 32)) = w3
  generalize w2.heap.size + 1 = X
  intro HCB HB3 hXs
  go_loopw [17] (fun q w' => ∃ k : Nat, k ≤ p.cells.length ∧ q = .int .i64 k ∧ CB X w1.heap.size w' ⟨newC (p.cells.take k), [newTa 0 (-1)], 0, []⟩ ∧ Below w1.heap.size w1 w') (fun q _ => p.cells.length - (intOf q).toNat)
  case atStart => exact ⟨0, Nat.zero_le _, rfl, HCB.out, HB3.out⟩
  clear HCB HB3
  case round =>
    obtain ⟨k, hk, rfl, hcb, hbr⟩ := hrel
    have HBR := (show Hid (Below _ _ _) from hbr)
    have hsr := hbr.size
    have HPR : Hid (PBox wr w.heap.size (.slice pa p.cells.length pca) (.slice pba p.bodies.length pbc)) := HP1.out.heap (hbr.block _ (by omega))
    have HZR : Hid (wr.heap[Z]? = _) := (hbr.block Z hZ1).trans HZ1.out
    have HBW : Hid (Below w.heap.size w wr) := HB1.out.trans (hbr.mono (by omega))
    have hcl := newC_len (xs := p.cells) hk
    obtain ⟨f, cv, tv, lv, T, L, hO, hT, hL, hz, hbx⟩ := hcb.ex
    have HT0 : Hid (k < p.cells.length → newC (p.cells.take (k + 1)) = newC (p.cells.take k) ++ [⟨nth 0 p.cells k, 0, -1⟩]) := newC_take
    have HTE : Hid (k = p.cells.length → newC (p.cells.take k) = newC p.cells) := fun e => by rw [e, List.take_length]
    revert hO hbx hcl HT0 HTE
    generalize newC (p.cells.take k) = cs
    intro hcl hO hbx HT0 HTE
    obtain ⟨ca, cc, ec, _⟩ := own_shape hO.c.1
    rw [show (⟨cs, [newTa 0 (-1)], 0, []⟩ : Sy).cells = cs from rfl, hcl] at ec
    subst ec
    have hTl : T.length = 1 := by have := congrArg List.length hT; simpa using this
    have hLl : L.length = 0 := by have := congrArg List.length hL; simpa using this
    obtain ⟨ta, tc, et, _⟩ := own_shape hO.t.1
    rw [hTl] at et
    subst et
    obtain ⟨la, lc, el, _⟩ := own_shape hO.l.1
    rw [hLl] at el
    subst el
    have HO := (show Hid (OwnSy _ _ _ _ _ _ _ _ _) from hO)
    have HM := (show Hid (_ ∧ _ ∧ _) from ⟨hT, hL, hz⟩)
    have HBX := (show Hid (_ = _) from hbx)
    have HCL := (show Hid (_ = k) from hcl)
    have hXl := bx_lt hbx
    clear hcb hbr hO hT hL hz hbx hcl hTl hLl
    by_cases hlt : k < p.cells.length
    · have hlt' : (k : Int) < (p.cells.length : Int) := by omega
      obtain ⟨⟨x0, x1, x2, x3⟩, ⟨fz0, fz1, fz2, fz3⟩, _⟩ := box4c HBX.out
      obtain ⟨p0, p1, _, _⟩ := HPR.out.cells
      obtain ⟨_, _, ek, _, hkc⟩ := HP.out.1.at.mono HBW.out
      injection ek with ek1 ek2 ek3
      subst ek1 ek3
      clear ek2
      obtain ⟨b4, off4, rfl, hb4, y0⟩ := hkc k hlt
      clear hkc
      obtain ⟨i0, hi0, hz0, hz1, hz2⟩ := info_parts (P := Try.prog) (e := 45) (z := .agg #[.int .i64 0, .int .i64 0, .int .i64 0]) (size := 3) (bytes := 24) (by kernel_rfl)
      have hPw : w.heap.size < w1.heap.size := by omega
      have hb4w : b4 < w1.heap.size := by
        have h1 := HP.out.1.at
        obtain ⟨_, _, ek, _, hkc⟩ := h1
        injection ek with ek1 ek2 ek3
        obtain ⟨b', off', e', hb', _⟩ := hkc k hlt
        rw [e'] at ek1
        injection ek1 with ek1
        injection ek1 with ek1
        omega
      have hbl4 := hb4
      have HTW : Hid (World.ownsRow (wr.alloc (.cells #[.int .i64 (nth 0 p.cells k), .int .i64 0, .int .i64 (-1)] 45)) w1.heap.size 45 3 (.slice ca k cc) k (cs.flatMap ceC)) := by
        have h1 : World.ownsRow wr w1.heap.size 45 3 (.slice ca k cc) cs.length (cs.flatMap ceC) := HO.out.c.1
        rw [HCL.out] at h1
        exact row_heap h1 (fun b hb => ((Below.refl _ _).alloc (Nat.le_refl _) _).block b (h1.lt b hb).2)
      go_wp2_with (at_builtin; go_loud (refine wpList_append_lies _ rfl _ _ 28 rfl w1.heap.size 45 i0 (.agg #[.int .i64 0, .int .i64 0, .int .i64 0]) 3 24 Try.underlying28 hi0 hz0 hz1 hz2 rfl (by omega) _ k (cs.flatMap ceC) rfl HTW.out ⟨wr.heap.size, 0, none⟩ 1 1 [.int .i64 (nth 0 p.cells k), .int .i64 0, .int .i64 (-1)] rfl rfl (cells_new wr [.int .i64 (nth 0 p.cells k), .int .i64 0, .int .i64 (-1)] _) (by intro u hu; simp at hu; rcases hu with rfl | rfl | rfl <;> rfl) (by omega) (by unfold maxLen; omega) (by omega) (by simp; omega) _ rfl ?_))
      intro g3 cap3 w3' hown3 hgrow hat3 hlt3
      clear HTW
      have HO3 := (show Hid (World.ownsRow _ _ _ _ _ _ _) from hown3)
      have HG3 := (show Hid (World.grownBy _ _ _) from hgrow)
      have HA3 := (show Hid (_ ∨ _) from hat3)
      have hnl : ∀ b, b < wr.heap.size → (Value.slice ca k cc).ownBlock ≠ some b → w3'.heap[b]? = wr.heap[b]? := fun b hb hne => (HG3.out.block b (by simp; omega) (fun e => hne e.symm)).trans (((Below.refl _ _).alloc (Nat.le_refl _) _).block b hb)
      have hXn : (Value.slice ca k cc).ownBlock ≠ some X := fun e => by have h1 := HO.out.c.2 X e; rw [HM.out.2.2] at h1; cases h1
      have X3 : ∃ q, w3'.cell? ⟨X, 0, none⟩ = some q := ⟨_, (World.cell?_of_block (hnl X hXl hXn)).trans x0⟩
      have XZ : w3'.frozen? ⟨X, 0, none⟩ = false := by
        rw [World.frozen?_of_block (hnl X hXl hXn)]; exact fz0
      clear hnl hXn hown3 hgrow hat3
      obtain ⟨x3', X3⟩ := X3
      have A1 : CB X w1.heap.size (w3'.setCell ⟨X, 0, none⟩ (.slice (some ⟨g3, 0, none⟩) (k + 1) cap3)) ⟨cs ++ [⟨nth 0 p.cells k, 0, -1⟩], [newTa 0 (-1)], 0, []⟩ := CB.cellA (s := ⟨cs, [newTa 0 (-1)], 0, []⟩) (by omega) ((Below.refl wr.heap.size wr).alloc (Nat.le_refl _) _) HO.out HM.out.1 HM.out.2.1 HM.out.2.2 HBX.out (by show World.ownsRow _ _ _ _ _ (cs.length + 1) _; rw [HCL.out]; exact HO3.out) HG3.out (fun b hb => by
        rcases HA3.out with e | e
        · left; rw [e]; exact hb
        · right; injection hb with hb; rw [← hb, e]; simp)
      have F1 : Below w1.heap.size w1 (w3'.setCell ⟨X, 0, none⟩ (.slice (some ⟨g3, 0, none⟩) (k + 1) cap3)) := by
        refine Below.setCell ?_ (by show w1.heap.size ≤ X; omega) _
        refine HBR.out.trans ((((Below.refl wr.heap.size wr).alloc (Nat.le_refl _) _).mono hsr).trans (grown_below HG3.out (fun g hg => (HO.out.c.1.lt g hg).1) (by simp; omega)))
      have HA1 := (show Hid (CB _ _ _ _) from A1)
      have HF1 := (show Hid (Below _ _ _) from F1)
      have HEE := (show Hid (_ = _) from HT0.out hlt)
      have hwk : IntKind.i64.wrap ((k : Int) + 1) = (k : Int) + 1 := by rw [IntKind.wrap_i64]; omega
      clear A1 F1 HT0 HTE x0 x1 x2 x3 fz0 fz1 fz2 fz3 p0 p1 y0
      go_wp2_with fail
      go_roundw
      case rel => exact ⟨k + 1, by omega, by go_num, by rw [HEE.out]; exact HA1.out, HF1.out⟩
      case measure => simp [intOf]; omega
    · have hk2 : ¬ (k : Int) < (p.cells.length : Int) := by omega
      have HF : Hid (newS p = ⟨cs, [newTa 0 (-1)], 0, []⟩) := by
        unfold Hid
        rw [newS_eq HOK.out, HTE.out (by omega)]; rfl
      obtain ⟨⟨x0, x1, x2, x3⟩, _, _⟩ := box4c HBX.out
      obtain ⟨p0, p1, _, _⟩ := HPR.out.cells
      obtain ⟨⟨z0, z1, z2, z3⟩, ⟨f0, f1, f2, f3⟩, hZl⟩ := box4c HZR.out
      have hOS : OwnS w1.heap.size wr (.slice ca k cc) (.slice ta 1 tc) (.slice la 0 lc) ⟨cs, [newTa 0 (-1)], 0, []⟩ := ⟨f, T, L, HO.out, HM.out.1, HM.out.2.1⟩
      have HOS := (show Hid (OwnS _ _ _ _ _ _) from hOS)
      obtain ⟨⟨r0, r1, r2, r3⟩, _, _⟩ := box4c (box4 (b0 := .slice ca k cc) (b1 := .slice ta 1 tc) (b2 := .int .i64 0) (b3 := .slice la 0 lc) HZR.out).1
      clear hOS HT0 HTE
      go_wp2_with fail
      (try simp only [Exit.inBlock, Exit.then])
      refine bodyPost_ret (v := .tuple #[.agg #[.slice ca k cc, .slice ta 1 tc, .int .i64 0, .slice la 0 lc], .bool true]) ?_ rfl ⟨.slice ca k cc, .slice ta 1 tc, .slice la 0 lc, by rw [HF.out, HOK.out], by rw [HF.out]; exact ((((HOS.out.setX hZ1 _).setX hZ1 _).setX hZ1 _).setX hZ1 _).base (by omega), (((HBW.out.setCell (by simp; omega) _).setCell (by simp; omega) _).setCell (by simp; omega) _).setCell (by simp; omega) _⟩
      rw [results_cell_tmp rfl]
      go_simp
end Go.Proofs.Ytgbgjljflgbcaaa
