import Derived.Test.YtgbgjljflgbcaaaNe09
namespace Go.Proofs.Ytgbgjljflgbcaaa
open Go.RowKit
set_option linter.unusedSimpArgs false
set_option linter.unusedVariables false
def deCells (ds : List De) : List Value := ds.flatMap fun d => [.int .i64 d.k, .int .i64 d.a, .int .i64 d.b]
def OwnDe (B : Nat) (w : World) (v : Value) (ds : List De) : Prop := w.ownsRow B 125 3 v ds.length (deCells ds)
def OwnInt (B : Nat) (w : World) (v : Value) (xs : List Int) : Prop := w.ownsRow B 3 1 v xs.length (xs.map (Value.int .i64))
theorem own_heap {w w' : World} {B : Nat} {e : TypeId} {size : Nat} {v : Value} {n : Nat} {xs : List Value} (h : w.ownsRow B e size v n xs) (hk : ∀ g, v.ownBlock = some g → w'.heap[g]? = w.heap[g]?) : w'.ownsRow B e size v n xs := by
  refine ⟨h.1, ?_⟩
  rcases h.2 with hn | ⟨g, cap, cur, rfl, hb, hgg, rest⟩
  · exact .inl hn
  · exact .inr ⟨g, cap, cur, rfl, hb, by rw [hk g rfl]; exact hgg, rest⟩
theorem own_fr {R : Nat} {w w' : World} {B : Nat} {e : TypeId} {size : Nat} {v : Value} {n : Nat} {xs : List Value} (h : w.ownsRow B e size v n xs) (hf : Fr R w.heap.size w w') (hR : R < B) : w'.ownsRow B e size v n xs :=
  own_heap h fun g hg => by
    have := h.lt g hg
    exact hf.block g (by omega) (by omega)
theorem deCells_snoc (ds : List De) (d : De) : deCells (ds ++ [d]) = deCells ds ++ [.int .i64 d.k, .int .i64 d.a, .int .i64 d.b] := by simp [deCells]
set_option maxHeartbeats 1000000 in
theorem l71Deeds_any (B R p : Nat) (c : Int) (w : World) (h : RdAt B w R p) (hp : p ≤ 800000) (hc0 : 0 ≤ c) (hc3 : c ≤ 3) :
    Calls Try.prog 97 #[.pointer (some ⟨R, 0, none⟩), .int .i64 c] w fun e w' => ∃ (v : Value) (ds : List De) (p' : Nat), e = .returned v ∧ OwnDe w.heap.size w' v ds ∧ ds.length ≤ 5 ∧ p ≤ p' ∧ p' ≤ p + 20 ∧ RdAt B w' R p' ∧ Fr R w.heap.size w w' := by
  have hlt := h.lt
  have hle := h.le
  obtain ⟨i0, hi, hz0, hz1, hz2⟩ := info_parts Try.info_deed
  by_cases hcz : c = 0
  · subst hcz
    have hFw : Fr R w.heap.size w w := Fr.refl _ _ _
    go_enter Try.func97, Try.ntmps97
    have HRe : Hid (∀ o, RdAt B (w.alloc o) R _) := fun o => h.below ((Below.refl _ _).alloc h.le _)
    have HFe : Hid (∀ o, Fr R w.heap.size w (w.alloc o)) := fun o => hFw.alloc hFw.size _
    have HOe : Hid (OwnDe w.heap.size (w.alloc (.cells #[] 125)) (.slice (some ⟨w.heap.size, 0, none⟩) 0 0) []) := World.ownsRow_made w #[] 0 hFw.size (by unfold maxLen; omega) (by simp)
    have hsz1 := hFw.size
    clear h hFw
    go_wp2_with fail
    refine (pick_any B R _ _ _ (HRe.out _) (by omega) (by omega) (by omega)).mono ?_
    rintro e w2 ⟨q2, rfl, a0, a1, hR2, hF2⟩
    obtain ⟨m, rfl⟩ := Int.eq_ofNat_of_zero_le a0
    have HF2 : Hid (Fr R w.heap.size w w2) := (HFe.out _).trans (hF2.mono (HFe.out _).size)
    have HR2 := (show Hid (RdAt _ _ _ _) from hR2)
    have HO2 : Hid (OwnDe w.heap.size w2 (.slice (some ⟨w.heap.size, 0, none⟩) 0 0) []) := own_fr HOe.out hF2 (by omega)
    clear HRe HFe HOe hF2 hR2
    go_wp2_with fail
    go_loopw [6, 7] (fun o q w' => ∃ (k : Nat) (ds : List De) (p' : Nat), q = .int .i64 k ∧ ds.length + k ≤ 5 ∧ OwnDe w.heap.size w' o ds ∧ p ≤ p' ∧ p' + 3 * k ≤ p + 17 ∧ RdAt B w' R p' ∧ Fr R w.heap.size w w') (fun _ q _ => (intOf q).toNat)
    case atStart => exact ⟨m + 1, [], _, by go_num, by simp; omega, HO2.out, by omega, by omega, HR2.out, HF2.out⟩
    clear HF2 HR2 HO2
    case round =>
      obtain ⟨k, ds, p', rfl, hk, hown, hp1, hp2, hR, hF⟩ := hrel
      have HOW := (show Hid (OwnDe _ _ _ _) from hown)
      have HFR := (show Hid (Fr _ _ _ _) from hF)
      clear hown hF
      by_cases hk0 : 0 < k
      · have hk' : (0 : Int) < (k : Int) := by omega
        go_wp2_with fail
        refine (l71Deed_any B R p' _ _ hR (by omega) (by omega) (by omega)).mono ?_
        rintro e w3 ⟨d, p3, rfl, hp3, hp3', hR3, hF3⟩
        have HO3 : Hid (OwnDe w.heap.size w3 u6 ds) := own_fr HOW.out hF3 (by omega)
        have HF3 : Hid (Fr R w.heap.size w w3) := HFR.out.trans (hF3.mono HFR.out.size)
        have HR3 := (show Hid (RdAt _ _ _ _) from hR3)
        clear hF3 hR3 hR HOW HFR
        go_wp2_with (at_builtin; refine wpList_append_own _ rfl _ _ 120 rfl w.heap.size 125 i0 (.agg #[.int .i64 0, .int .i64 0, .int .i64 0]) 3 24 Try.underlying120 hi hz0 hz1 hz2 rfl (by decide) _ _ _ rfl (HO3.out.alloc _) ⟨w3.heap.size, 0, none⟩ 1 1 [.int .i64 d.k, .int .i64 d.a, .int .i64 d.b] rfl rfl ?a1 ?a2 ?a3 ?a4 ?a5 ?_)
        case a1 =>
          intro j u hj
          match j, hj with
          | 0, hj => simp at hj; subst hj; simp [Addr.add]
          | 1, hj => simp at hj; subst hj; simp [Addr.add]
          | 2, hj => simp at hj; subst hj; simp [Addr.add]
        case a2 => intro u hu; simp at hu; rcases hu with rfl | rfl | rfl <;> rfl
        case a3 => unfold maxLen; omega
        case a4 => omega
        case a5 => have := HF3.out.size; simp; omega
        intro v' w4 hown' hgrow _
        have HO4 : Hid (OwnDe w.heap.size w4 v' (ds ++ [d])) := by
          unfold Hid OwnDe; rw [deCells_snoc, List.length_append]; exact hown'
        have hge : ∀ g, u6.ownBlock = some g → w.heap.size ≤ g := fun g hg => (HO3.out.lt g hg).1
        have HF4 : Hid (Fr R w.heap.size w w4) := (HF3.out.alloc HF3.out.size _).grown hgrow (by have := HF3.out.size; simp; omega) hge
        have HR4 : Hid (RdAt B w4 R p3) := HR3.out.below (((Below.refl _ _).alloc HR3.out.le _).grown hgrow (by have := HR3.out.le; simp; omega) (fun g hg => Nat.le_trans hle (hge g hg)))
        clear hown' hgrow HO3 HF3 HR3 hge
        go_wp2_with fail
        go_roundw
        case rel => exact ⟨k - 1, ds ++ [d], p3, by go_num, by simp; omega, HO4.out, by omega, by omega, HR4.out, HF4.out⟩
        case measure => simp [intOf]; omega
      · go_wp2_with fail
        go_ret
        exact ⟨_, ds, p', rfl, HOW.out, by omega, by omega, by omega, hR, HFR.out⟩
  have gc : decide (0 < c) = true := by simp; omega
  go_enter Try.func97, Try.ntmps97
  go_wp2_with fail
  refine (pick_any B R _ _ _ h (by omega) (by omega) (by omega)).mono ?_
  rintro e w1 ⟨q, rfl, q0, q1, hR1, hF1⟩
  clear h
  by_cases hq : q = 0
  · subst hq
    go_wp2_with fail
    refine (pick_any B R _ _ _ hR1 (by omega) (by omega) (by omega)).mono ?_
    rintro e w2 ⟨q2, rfl, a0, a1, hR2, hF2⟩
    have hF2' := hF1.trans (hF2.mono hF1.size)
    clear hR1 hF1 hF2
    go_wp2_with fail
    refine (pick_any B R _ _ _ hR2 (by omega) (by omega) (by omega)).mono ?_
    rintro e w3 ⟨q3, rfl, b0, b1, hR3, hF3⟩
    have HF3 : Hid (Fr R w.heap.size w w3) := hF2'.trans (hF3.mono hF2'.size)
    have HR3 := (show Hid (RdAt _ _ _ _) from hR3)
    clear hF2' hF3 hR3 hR2
    go_wp2_with fail
    go_ret
    refine ⟨_, [⟨1, 0, q2⟩, ⟨3, 1, 1 + q3⟩, ⟨4, 0, 1⟩, ⟨2, q2, 0⟩], p + 1 + 1 + 1, rfl, ?_, by simp, by omega, by omega, HR3.out.below ((Below.refl _ _).alloc HR3.out.le _), HF3.out.alloc HF3.out.size _⟩
    exact ⟨by simp [deCells], .inr ⟨w3.heap.size, 4, _, rfl, HF3.out.size, heap_alloc_new w3 _, by simp, by unfold maxLen; omega, by simp, by simp [deCells]⟩⟩
  · have gq : (q == 0) = false := by simp [hq]
    have HRe : Hid (∀ o, RdAt B (w1.alloc o) R _) := fun o => hR1.below ((Below.refl _ _).alloc hR1.le _)
    have HFe : Hid (∀ o, Fr R w.heap.size w (w1.alloc o)) := fun o => hF1.alloc hF1.size _
    have HOe : Hid (OwnDe w.heap.size (w1.alloc (.cells #[] 125)) (.slice (some ⟨w1.heap.size, 0, none⟩) 0 0) []) := World.ownsRow_made w1 #[] 0 hF1.size (by unfold maxLen; omega) (by simp)
    have hsz1 := hF1.size
    clear hR1 hF1
    go_wp2_with fail
    refine (pick_any B R _ _ _ (HRe.out _) (by omega) (by omega) (by omega)).mono ?_
    rintro e w2 ⟨q2, rfl, a0, a1, hR2, hF2⟩
    obtain ⟨m, rfl⟩ := Int.eq_ofNat_of_zero_le a0
    have HF2 : Hid (Fr R w.heap.size w w2) := (HFe.out _).trans (hF2.mono (HFe.out _).size)
    have HR2 := (show Hid (RdAt _ _ _ _) from hR2)
    have HO2 : Hid (OwnDe w.heap.size w2 (.slice (some ⟨w1.heap.size, 0, none⟩) 0 0) []) := own_fr HOe.out hF2 (by omega)
    clear HRe HFe HOe hF2 hR2
    go_wp2_with fail
    go_loopw [6, 7] (fun o q w' => ∃ (k : Nat) (ds : List De) (p' : Nat), q = .int .i64 k ∧ ds.length + k ≤ 5 ∧ OwnDe w.heap.size w' o ds ∧ p ≤ p' ∧ p' + 3 * k ≤ p + 17 ∧ RdAt B w' R p' ∧ Fr R w.heap.size w w') (fun _ q _ => (intOf q).toNat)
    case atStart => exact ⟨m + 1, [], _, by go_num, by simp; omega, HO2.out, by omega, by omega, HR2.out, HF2.out⟩
    clear HF2 HR2 HO2
    case round =>
      obtain ⟨k, ds, p', rfl, hk, hown, hp1, hp2, hR, hF⟩ := hrel
      have HOW := (show Hid (OwnDe _ _ _ _) from hown)
      have HFR := (show Hid (Fr _ _ _ _) from hF)
      clear hown hF
      by_cases hk0 : 0 < k
      · have hk' : (0 : Int) < (k : Int) := by omega
        go_wp2_with fail
        refine (l71Deed_any B R p' _ _ hR (by omega) (by omega) (by omega)).mono ?_
        rintro e w3 ⟨d, p3, rfl, hp3, hp3', hR3, hF3⟩
        have HO3 : Hid (OwnDe w.heap.size w3 u6 ds) := own_fr HOW.out hF3 (by omega)
        have HF3 : Hid (Fr R w.heap.size w w3) := HFR.out.trans (hF3.mono HFR.out.size)
        have HR3 := (show Hid (RdAt _ _ _ _) from hR3)
        clear hF3 hR3 hR HOW HFR
        go_wp2_with (at_builtin; refine wpList_append_own _ rfl _ _ 120 rfl w.heap.size 125 i0 (.agg #[.int .i64 0, .int .i64 0, .int .i64 0]) 3 24 Try.underlying120 hi hz0 hz1 hz2 rfl (by decide) _ _ _ rfl (HO3.out.alloc _) ⟨w3.heap.size, 0, none⟩ 1 1 [.int .i64 d.k, .int .i64 d.a, .int .i64 d.b] rfl rfl ?b1 ?b2 ?b3 ?b4 ?b5 ?_)
        case b1 =>
          intro j u hj
          match j, hj with
          | 0, hj => simp at hj; subst hj; simp [Addr.add]
          | 1, hj => simp at hj; subst hj; simp [Addr.add]
          | 2, hj => simp at hj; subst hj; simp [Addr.add]
        case b2 => intro u hu; simp at hu; rcases hu with rfl | rfl | rfl <;> rfl
        case b3 => unfold maxLen; omega
        case b4 => omega
        case b5 => have := HF3.out.size; simp; omega
        intro v' w4 hown' hgrow _
        have HO4 : Hid (OwnDe w.heap.size w4 v' (ds ++ [d])) := by
          unfold Hid OwnDe; rw [deCells_snoc, List.length_append]; exact hown'
        have hge : ∀ g, u6.ownBlock = some g → w.heap.size ≤ g := fun g hg => (HO3.out.lt g hg).1
        have HF4 : Hid (Fr R w.heap.size w w4) := (HF3.out.alloc HF3.out.size _).grown hgrow (by have := HF3.out.size; simp; omega) hge
        have HR4 : Hid (RdAt B w4 R p3) := HR3.out.below (((Below.refl _ _).alloc HR3.out.le _).grown hgrow (by have := HR3.out.le; simp; omega) (fun g hg => Nat.le_trans hle (hge g hg)))
        clear hown' hgrow HO3 HF3 HR3 hge
        go_wp2_with fail
        go_roundw
        case rel => exact ⟨k - 1, ds ++ [d], p3, by go_num, by simp; omega, HO4.out, by omega, by omega, HR4.out, HF4.out⟩
        case measure => simp [intOf]; omega
      · go_wp2_with fail
        go_ret
        exact ⟨_, ds, p', rfl, HOW.out, by omega, by omega, by omega, hR, HFR.out⟩
end Go.Proofs.Ytgbgjljflgbcaaa

namespace Go.Proofs.Ytgbgjljflgbcaaa
open Go.RowKit
set_option linter.unusedSimpArgs false
set_option linter.unusedVariables false
def acCells (L : List (Ac × Value × Value)) : List Value := L.flatMap fun x => [.int .i64 x.1.k, x.2.1, x.2.2, .int .i64 x.1.r]
theorem acCells_snoc (L : List (Ac × Value × Value)) (x : Ac × Value × Value) : acCells (L ++ [x]) = acCells L ++ [.int .i64 x.1.k, x.2.1, x.2.2, .int .i64 x.1.r] := by simp [acCells]
def OwnActs (B : Nat) (w : World) (v : Value) (acts : List Ac) : Prop :=
  ∃ L : List (Ac × Value × Value), acts = L.map (·.1) ∧ w.ownsRow B 122 4 v L.length (acCells L) ∧ ∀ x, x ∈ L → OwnDe B w x.2.1 x.1.ds ∧ OwnInt B w x.2.2 x.1.ks
def OwnBodies (B : Nat) (w : World) (v : Value) (bs : List (List Ac)) : Prop :=
  ∃ L : List (List Ac × Value), bs = L.map (·.1) ∧ w.ownsRow B 113 1 v L.length (L.map (·.2)) ∧ ∀ x, x ∈ L → OwnActs B w x.2 x.1
def TagKept (t : TypeId) (w w' : World) : Prop := ∀ (g : Nat) (cur : Array Value) (e : TypeId), w.heap[g]? = some (Obj.cells cur e (0, 0)) → e ≠ t → w'.heap[g]? = w.heap[g]?
theorem own_tag {t : TypeId} {w w' : World} {B : Nat} {e : TypeId} {size : Nat} {v : Value} {n : Nat} {xs : List Value} (h : w.ownsRow B e size v n xs) (hk : TagKept t w w') (he : e ≠ t) : w'.ownsRow B e size v n xs := by
  refine ⟨h.1, ?_⟩
  rcases h.2 with hn | ⟨g, cap, cur, rfl, hb, hgg, rest⟩
  · exact .inl hn
  · exact .inr ⟨g, cap, cur, rfl, hb, by rw [hk g cur e hgg he]; exact hgg, rest⟩
theorem TagKept.grown {t : TypeId} {w w' : World} {B : Nat} {size : Nat} {v : Value} {n : Nat} {xs : List Value} (h : w.ownsRow B t size v n xs) (hg : w.grownBy w' v.ownBlock) : TagKept t w w' := fun g cur e hgg he => by
  refine hg.block g (Array.getElem?_eq_some_iff.1 hgg).1 ?_
  rcases h.2 with ⟨rfl, _⟩ | ⟨g', cap, cur', rfl, hb, hg', _⟩
  · simp [Value.ownBlock]
  · intro e'
    simp [Value.ownBlock] at e'
    subst e'
    rw [hgg] at hg'
    injection hg' with h1
    injection h1 with h2 h3
    exact he h3
theorem TagKept.set {t : TypeId} {w : World} {b o : Nat} {cur : Array Value} {x : Value} (h : w.heap[b]? = some (.cells cur t (0, 0))) : TagKept t w (w.setCell ⟨b, o, none⟩ x) := fun g cur' e hgg he => by
  refine Below.heap_setCell w ⟨b, o, none⟩ x g ?_
  intro e'
  have e2 : g = b := e'
  subst e2
  rw [hgg] at h
  injection h with h1
  injection h1 with h2 h3
  exact he h3
theorem OwnActs.tag {t : TypeId} {B : Nat} {w w' : World} {v : Value} {acts : List Ac} (h : OwnActs B w v acts) (hk : TagKept t w w') (h1 : 122 ≠ t) (h2 : 125 ≠ t) (h3 : 3 ≠ t) : OwnActs B w' v acts := by
  obtain ⟨L, rfl, hr, hi⟩ := h
  exact ⟨L, rfl, own_tag hr hk h1, fun x hx => ⟨own_tag (hi x hx).1 hk h2, own_tag (hi x hx).2 hk h3⟩⟩
theorem OwnBodies.tag {t : TypeId} {B : Nat} {w w' : World} {v : Value} {bs : List (List Ac)} (h : OwnBodies B w v bs) (hk : TagKept t w w') (h0 : 113 ≠ t) (h1 : 122 ≠ t) (h2 : 125 ≠ t) (h3 : 3 ≠ t) : OwnBodies B w' v bs := by
  obtain ⟨L, rfl, hr, hi⟩ := h
  exact ⟨L, rfl, own_tag hr hk h0, fun x hx => (hi x hx).tag hk h1 h2 h3⟩
theorem OwnActs.fr {R B : Nat} {w w' : World} {v : Value} {acts : List Ac} (h : OwnActs B w v acts) (hf : Fr R w.heap.size w w') (hR : R < B) : OwnActs B w' v acts := by
  obtain ⟨L, rfl, hr, hi⟩ := h
  exact ⟨L, rfl, own_fr hr hf hR, fun x hx => ⟨own_fr (hi x hx).1 hf hR, own_fr (hi x hx).2 hf hR⟩⟩
theorem OwnBodies.fr {R B : Nat} {w w' : World} {v : Value} {bs : List (List Ac)} (h : OwnBodies B w v bs) (hf : Fr R w.heap.size w w') (hR : R < B) : OwnBodies B w' v bs := by
  obtain ⟨L, rfl, hr, hi⟩ := h
  exact ⟨L, rfl, own_fr hr hf hR, fun x hx => (hi x hx).fr hf hR⟩
theorem own_base {w : World} {B B' : Nat} {e : TypeId} {size : Nat} {v : Value} {n : Nat} {xs : List Value} (h : w.ownsRow B e size v n xs) (hB : B' ≤ B) : w.ownsRow B' e size v n xs := by
  refine ⟨h.1, ?_⟩
  rcases h.2 with hn | ⟨g, cap, cur, rfl, hb, rest⟩
  · exact .inl hn
  · exact .inr ⟨g, cap, cur, rfl, Nat.le_trans hB hb, rest⟩
theorem OwnActs.base {B B' : Nat} {w : World} {v : Value} {acts : List Ac} (h : OwnActs B w v acts) (hB : B' ≤ B) : OwnActs B' w v acts := by
  obtain ⟨L, rfl, hr, hi⟩ := h
  exact ⟨L, rfl, own_base hr hB, fun x hx => ⟨own_base (hi x hx).1 hB, own_base (hi x hx).2 hB⟩⟩
theorem act_snoc {B : Nat} {w w' : World} {v v' dv kv : Value} {L : List (Ac × Value × Value)} {a : Ac} (hr : w.ownsRow B 122 4 v L.length (acCells L)) (hi : ∀ x, x ∈ L → OwnDe B w x.2.1 x.1.ds ∧ OwnInt B w x.2.2 x.1.ks)
    (hd : OwnDe B w dv a.ds) (hk : OwnInt B w kv a.ks) (ho : w'.ownsRow B 122 4 v' (L.length + 1) (acCells L ++ [.int .i64 a.k, dv, kv, .int .i64 a.r])) (hg : w.grownBy w' v.ownBlock) : OwnActs B w' v' (L.map (·.1) ++ [a]) := by
  have T := TagKept.grown hr hg
  refine ⟨L ++ [(a, dv, kv)], by simp, by rw [acCells_snoc, List.length_append]; exact ho, fun x hx => ?_⟩
  rcases List.mem_append.1 hx with h | h
  · exact ⟨own_tag (hi x h).1 T (by decide), own_tag (hi x h).2 T (by decide)⟩
  · simp at h; subst h
    exact ⟨own_tag hd T (by decide), own_tag hk T (by decide)⟩
theorem body_snoc {B : Nat} {w w' : World} {v v' av : Value} {L : List (List Ac × Value)} {acts : List Ac} (hr : w.ownsRow B 113 1 v L.length (L.map (·.2))) (hi : ∀ x, x ∈ L → OwnActs B w x.2 x.1)
    (hd : OwnActs B w av acts) (ho : w'.ownsRow B 113 1 v' (L.length + 1) (L.map (·.2) ++ [av])) (hg : w.grownBy w' v.ownBlock) : OwnBodies B w' v' (L.map (·.1) ++ [acts]) := by
  have T := TagKept.grown hr hg
  refine ⟨L ++ [(acts, av)], by simp, by rw [List.map_append, List.length_append]; exact ho, fun x hx => ?_⟩
  rcases List.mem_append.1 hx with h | h
  · exact (hi x h).tag T (by decide) (by decide) (by decide)
  · simp at h; subst h
    exact hd.tag T (by decide) (by decide) (by decide)
theorem own_none (w : World) (B : Nat) : OwnDe B w (.slice none 0 0) [] ∧ OwnInt B w (.slice none 0 0) [] := ⟨World.ownsRow_nil _ _ _ _, World.ownsRow_nil _ _ _ _⟩
theorem own_shape {w : World} {B : Nat} {e : TypeId} {size : Nat} {v : Value} {n : Nat} {xs : List Value} (h : w.ownsRow B e size v n xs) : ∃ a cap, v = .slice a n cap ∧ n ≤ cap ∧ cap ≤ 9223372036854775807 := by
  rcases h.2 with ⟨rfl, rfl⟩ | ⟨g, cap, cur, rfl, hb, hg, h1, h2, _⟩
  · exact ⟨_, _, rfl, by omega, by omega⟩
  · exact ⟨_, _, rfl, h1, by unfold maxLen at h2; omega⟩
theorem own_cell {w : World} {B : Nat} {e : TypeId} {size : Nat} {v : Value} {n : Nat} {xs : List Value} (h : w.ownsRow B e size v n xs) (j : Nat) (hj : j < xs.length) :
    ∃ g cap, v = .slice (some ⟨g, 0, none⟩) n cap ∧ g < w.heap.size ∧ B ≤ g ∧ ∀ i, w.cell? ⟨g, i, none⟩ = xs[i]? ∨ xs.length ≤ i := by
  rcases h.2 with ⟨rfl, rfl⟩ | ⟨g, cap, cur, rfl, hb, hg, h1, h2, h3, h4⟩
  · have := h.1; omega
  · refine ⟨g, cap, rfl, (Array.getElem?_eq_some_iff.1 hg).1, hb, fun i => ?_⟩
    by_cases hi : i < xs.length
    · left
      rw [cell_of_row w g i cur e (0, 0) hg, ← h4, List.getElem?_take]
      rw [if_pos (by have := h.1; omega)]
      simp
    · right; omega
theorem OwnInt.at {B : Nat} {w : World} {v : Value} {xs : List Int} (h : OwnInt B w v xs) : IntsAt w v xs := by
  obtain ⟨a, cap, rfl, h1, h2⟩ := own_shape h
  refine ⟨a, cap, rfl, by omega, fun i hi => ?_⟩
  obtain ⟨g, c, hv, hg, _, hc⟩ := own_cell h i (by simpa using hi)
  injection hv with e1
  refine ⟨g, 0, e1, hg, ?_⟩
  rw [Nat.zero_add]
  rcases hc i with h3 | h3
  · rw [h3, nth_eq 0 xs i hi]; simp [hi]
  · simp at h3; omega
theorem flat_get {α : Type} (c : Nat) (f : α → List Value) (hf : ∀ x, (f x).length = c) (j : Nat) (hj : j < c) : ∀ (L : List α) (i : Nat) (hi : i < L.length), (L.flatMap f)[i * c + j]? = (f L[i])[j]? := by
  intro L
  induction L with
  | nil => intro i hi; simp at hi
  | cons x L ih =>
    intro i hi
    rw [List.flatMap_cons]
    cases i with
    | zero => rw [Nat.zero_mul, Nat.zero_add, List.getElem?_append_left (by rw [hf]; exact hj)]; rfl
    | succ i =>
      rw [List.getElem?_append_right (by rw [hf, Nat.succ_mul]; omega), hf]
      have : (i + 1) * c + j - c = i * c + j := by rw [Nat.succ_mul]; omega
      rw [this]
      exact ih i (by simpa using hi)
theorem OwnDe.at {B : Nat} {w : World} {v : Value} {ds : List De} (h : OwnDe B w v ds) : DeedsAt w v ds := by
  obtain ⟨a, cap, rfl, h1, h2⟩ := own_shape h
  have hl := h.1
  refine ⟨a, cap, rfl, by omega, fun i hi => ?_⟩
  obtain ⟨g, c, hv, hg, _, hc⟩ := own_cell h (i * 3) (by omega)
  injection hv with e1
  refine ⟨g, 0, e1, hg, ?_⟩
  have G := fun j hj => flat_get 3 (fun d : De => [Value.int .i64 d.k, .int .i64 d.a, .int .i64 d.b]) (fun _ => rfl) j hj ds i hi
  rw [nth_eq De.z ds i hi, Nat.zero_add]
  refine ⟨?_, ?_, ?_⟩
  · rcases hc (i * 3) with h3 | h3
    · rw [h3]; exact G 0 (by omega)
    · omega
  · rcases hc (i * 3 + 1) with h3 | h3
    · rw [h3]; exact G 1 (by omega)
    · omega
  · rcases hc (i * 3 + 2) with h3 | h3
    · rw [h3]; exact G 2 (by omega)
    · omega
theorem OwnActs.at {B : Nat} {w : World} {v : Value} {acts : List Ac} (h : OwnActs B w v acts) : ActsAt w v acts := by
  obtain ⟨L, rfl, hr, hin⟩ := h
  obtain ⟨a, cap, rfl, h1, h2⟩ := own_shape hr
  have hl := hr.1
  refine ⟨a, cap, by simp, by simp; omega, fun i hi => ?_⟩
  have hi' : i < L.length := by simpa using hi
  obtain ⟨g, c, hv, hg, _, hc⟩ := own_cell hr (i * 4) (by omega)
  injection hv with e1
  have G := fun j hj => flat_get 4 (fun x : Ac × Value × Value => [Value.int .i64 x.1.k, x.2.1, x.2.2, .int .i64 x.1.r]) (fun _ => rfl) j hj L i hi'
  have hx := hin L[i] (List.getElem_mem hi')
  have hn : nth Ac.z (L.map (·.1)) i = L[i].1 := by rw [nth_eq _ _ _ hi]; simp
  refine ⟨g, 0, L[i].2.1, L[i].2.2, e1, hg, ?_⟩
  rw [hn, Nat.zero_add]
  refine ⟨?_, ?_, ?_, ?_, hx.1.at, hx.2.at⟩
  · rcases hc (i * 4) with h3 | h3
    · rw [h3]; exact G 0 (by omega)
    · omega
  · rcases hc (i * 4 + 1) with h3 | h3
    · rw [h3]; exact G 1 (by omega)
    · omega
  · rcases hc (i * 4 + 2) with h3 | h3
    · rw [h3]; exact G 2 (by omega)
    · omega
  · rcases hc (i * 4 + 3) with h3 | h3
    · rw [h3]; exact G 3 (by omega)
    · omega
theorem OwnBodies.at {B : Nat} {w : World} {v : Value} {bs : List (List Ac)} (h : OwnBodies B w v bs) : BodiesAt w v bs := by
  obtain ⟨L, rfl, hr, hin⟩ := h
  obtain ⟨a, cap, rfl, h1, h2⟩ := own_shape hr
  have hl := hr.1
  refine ⟨a, cap, by simp, by simp; omega, fun i hi => ?_⟩
  have hi' : i < L.length := by simpa using hi
  obtain ⟨g, c, hv, hg, _, hc⟩ := own_cell hr i (by omega)
  injection hv with e1
  have hx := hin L[i] (List.getElem_mem hi')
  have hn : nth [] (L.map (·.1)) i = L[i].1 := by rw [nth_eq _ _ _ hi]; simp
  refine ⟨g, 0, L[i].2, e1, hg, ?_⟩
  rw [hn, Nat.zero_add]
  refine ⟨?_, hx.at⟩
  rcases hc i with h3 | h3
  · rw [h3]; simp [hi']
  · simp at h3; omega
end Go.Proofs.Ytgbgjljflgbcaaa
