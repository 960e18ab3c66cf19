import Derived.Test.YtgbgjljflgbcaaaXn36
namespace Go.Proofs.Ytgbgjljflgbcaaa
open Go.RowKit
set_option linter.unusedSimpArgs false
set_option linter.unusedVariables false
set_option maxRecDepth 20000
def newC (xs : List Int) : List Ce := xs.map fun n => ⟨n, 0, -1⟩
def NewR (p : Pr) (w : World) (r : Ending) (w' : World) : Prop :=
  ∃ cv' tv' lv', r = .returned (.tuple #[.agg #[cv', tv', .int .i64 (newS p).clock, lv'], .bool (okB p)]) ∧ OwnS w.heap.size w' cv' tv' lv' (newS p) ∧ Below w.heap.size w w'
theorem newS_no {p : Pr} (h : okB p = false) : newS p = ⟨[], [], 0, []⟩ := by unfold newS; rw [h]; rfl
theorem OwnS.nil (B : Nat) (w : World) : OwnS B w (.slice none 0 0) (.slice none 0 0) (.slice none 0 0) ⟨[], [], 0, []⟩ :=
  ⟨fun _ => .z, [], [], ⟨⟨World.ownsRow_nil _ _ _ _, fun g hg => by simp [Value.ownBlock] at hg⟩, ⟨World.ownsRow_nil _ _ _ _, fun g hg => by simp [Value.ownBlock] at hg⟩, ⟨World.ownsRow_nil _ _ _ _, fun g hg => by simp [Value.ownBlock] at hg⟩, fun i hi => absurd hi (by simp), fun i hi => absurd hi (by simp)⟩, rfl, rfl⟩
theorem OwnSy.addC {f f' : Nat → Key} {B : Nat} {w w' : World} {cv tv lv cv' : Value} {cs : List Ce} {T : List TT} {L : List EE} (h : OwnSy f B w cv tv lv cs T L) (y : Ce)
    (hf : ∀ g, B ≤ g → g < w.heap.size → f' g = f g) (hk : ∀ g, B ≤ g → g < w.heap.size → f g ≠ .c → w'.heap[g]? = w.heap[g]?)
    (hl : Row f' .c B w' 45 3 cv' (cs.length + 1) (cs.flatMap ceC ++ ceC y)) : OwnSy f' B w' cv' tv lv (cs ++ [y]) T L := by
  refine ⟨?_, h.t.move (fun g a b e => (hf g a b).trans e) fun k a b e => hk k a b (by rw [e]; simp), h.l.move (fun g a b e => (hf g a b).trans e) fun k a b e => hk k a b (by rw [e]; simp), fun k hk' => (h.ti k hk').move hf fun b p q e => hk b p q (by rcases e with e | e | e | e <;> rw [e] <;> simp), fun k hk' => (h.li k hk').move hf fun b p q e => hk b p q (by rcases e with e | e <;> rw [e] <;> simp)⟩
  rw [List.length_append, List.flatMap_append]; simpa using hl
theorem CB.cellA {X B : Nat} {w0 w1 w2 : World} {s : Sy} (hX : B ≤ X) (hb : Below w0.heap.size w0 w1) {f : Nat → Key} {cv tv lv cv' : Value} {T : List TT} {L : List EE} (ho : OwnSy f B w0 cv tv lv s.cells T L) (hT : T.map (·.1) = s.tasks) (hL : L.map (·.1) = s.log) (hz : f X = .z) (hbx : w0.heap[X]? = some (.cells #[cv, tv, .int .i64 s.clock, lv] 32 (0, 0)))
    {c : Ce} (hl : w2.ownsRow B 45 3 cv' (s.cells.length + 1) (s.cells.flatMap ceC ++ ceC c)) (hg : w1.grownBy w2 cv.ownBlock) (hlb : ∀ g, cv'.ownBlock = some g → cv.ownBlock = some g ∨ w1.heap.size ≤ g) :
    CB X B (w2.setCell ⟨X, 0, none⟩ cv') { s with cells := s.cells ++ [c] } := by
  have hX0 := bx_lt hbx
  have hX1 : X < w1.heap.size := Nat.lt_of_lt_of_le hX0 hb.size
  have hlv : ∀ g, cv.ownBlock = some g → B ≤ g ∧ g < w0.heap.size ∧ f g = .c := fun g hg => ⟨(ho.c.1.lt g hg).1, (ho.c.1.lt g hg).2, ho.c.2 g hg⟩
  have bl : ∀ k, k < w0.heap.size → f k ≠ .c → w2.heap[k]? = w0.heap[k]? := fun k hk hf => by
    rw [hg.block k (Nat.lt_of_lt_of_le hk hb.size) (fun e => hf (hlv k e.symm).2.2)]
    exact hb.block k hk
  have H := ho.addC (f' := fun b => if b < w1.heap.size then f b else .c) (w' := w2) (cv' := cv') c (fun b _ hb1 => (if_pos (Nat.lt_of_lt_of_le hb1 hb.size))) (fun b _ hb1 hf => bl b hb1 hf)
    ⟨hl, fun g hg' => by
      rcases hlb g hg' with h1 | h1
      · show (if g < w1.heap.size then f g else _) = _
        rw [if_pos (Nat.lt_of_lt_of_le (hlv g h1).2.1 hb.size)]; exact (hlv g h1).2.2
      · show (if g < w1.heap.size then f g else _) = _
        rw [if_neg (by omega)]⟩
  have hz' : (fun b => if b < w1.heap.size then f b else Key.c) X = .z := by
    show (if X < w1.heap.size then f X else _) = _
    rw [if_pos hX1]; exact hz
  refine ⟨⟨_, cv', tv, lv, T, L, H.setZ hz' cv', hT, hL, hz', ?_⟩, hX⟩
  rw [heap_setCell_same w2 X 0 _ _ cv' ((bl X hX0 (by rw [hz]; simp)).trans hbx)]
  rfl
theorem grown_below {w1 w2 : World} {B : Nat} {o : Option Nat} (h : w1.grownBy w2 o) (ho : ∀ g, o = some g → B ≤ g) (hB : B ≤ w1.heap.size) : Below B w1 w2 :=
  ⟨h.os, h.tape, h.output, h.size, fun k hk => h.block k (by omega) (fun e => by have := ho k e.symm; omega)⟩
theorem newC_take {xs : List Int} {k : Nat} (h : k < xs.length) : newC (xs.take (k + 1)) = newC (xs.take k) ++ [⟨nth 0 xs k, 0, -1⟩] := by
  unfold newC; rw [take_nth 0 xs k h, List.map_append]; rfl
theorem newC_len {xs : List Int} {k : Nat} (h : k ≤ xs.length) : (newC (xs.take k)).length = k := by unfold newC; simp; omega
theorem CB.begin {w1 w2 : World} {f : Nat → Key} {V : TV} {a3 a8 a9 a10 : Option Addr} {c3 c8 c9 c10 : Nat} (hV : V = ⟨.slice a3 3 c3, .slice a8 3 c8, .slice a9 0 c9, .slice a10 0 c10⟩) (hf : ∀ g, g < (w1.alloc (.cells #[] 45)).heap.size → f g = (fun _ => Key.c) g) (ht : TIn f w1.heap.size w2 0 (newTa 0 (-1), V)) (hb : Below (w1.alloc (.cells #[] 45)).heap.size (w1.alloc (.cells #[] 45)) w2) :
    CB (w2.heap.size + 1 + 1) w1.heap.size (((w2.alloc (.cells #[.int .i64 0, .int .i64 0, .int .i64 (-1), .slice a3 3 c3, .int .i64 0, .int .i64 0, .int .i64 0, .int .i64 0, .slice a8 3 c8, .slice a9 0 c9, .slice a10 0 c10, .int .i64 0, .int .i64 0] 70)).alloc (.cells #[] 55)).alloc (.cells #[.slice (some ⟨w1.heap.size, 0, none⟩) 0 0, .slice (some ⟨w2.heap.size, 0, none⟩) 1 1, .int .i64 0, .slice (some ⟨w2.heap.size + 1, 0, none⟩) 0 0] 32)) ⟨[], [newTa 0 (-1)], 0, []⟩ := by
  subst hV
  have hsz : w1.heap.size + 1 ≤ w2.heap.size := by have := hb.size; simpa using this
  have K : ∀ g, g < w2.heap.size → (((w2.alloc (.cells #[.int .i64 0, .int .i64 0, .int .i64 (-1), .slice a3 3 c3, .int .i64 0, .int .i64 0, .int .i64 0, .int .i64 0, .slice a8 3 c8, .slice a9 0 c9, .slice a10 0 c10, .int .i64 0, .int .i64 0] 70)).alloc (.cells #[] 55)).alloc (.cells #[.slice (some ⟨w1.heap.size, 0, none⟩) 0 0, .slice (some ⟨w2.heap.size, 0, none⟩) 1 1, .int .i64 0, .slice (some ⟨w2.heap.size + 1, 0, none⟩) 0 0] 32)).heap[g]? = w2.heap[g]? := fun g hg => by
    rw [Below.heap_alloc _ _ _ (by simp; omega), Below.heap_alloc _ _ _ (by simp; omega), Below.heap_alloc _ _ _ hg]
  refine ⟨⟨fun g => if g < w2.heap.size then f g else if g = w2.heap.size then .t else if g = w2.heap.size + 1 then .l else .z, .slice (some ⟨w1.heap.size, 0, none⟩) 0 0, .slice (some ⟨w2.heap.size, 0, none⟩) 1 1, .slice (some ⟨w2.heap.size + 1, 0, none⟩) 0 0, [(newTa 0 (-1), ⟨.slice a3 3 c3, .slice a8 3 c8, .slice a9 0 c9, .slice a10 0 c10⟩)], [], ⟨⟨?_, ?_⟩, ⟨?_, ?_⟩, ⟨?_, ?_⟩, ?_, fun j hj => absurd hj (by simp)⟩, rfl, rfl, ?_, ?_⟩, by omega⟩
  · refine ⟨rfl, .inr ⟨w1.heap.size, 0, #[], rfl, Nat.le_refl _, ?_, by simp, by unfold maxLen; omega, rfl, rfl⟩⟩
    rw [K _ (by omega)]
    exact (hb.block w1.heap.size (by simp)).trans (heap_alloc_new w1 _)
  · intro g hg
    injection hg with hg
    subst hg
    show (if w1.heap.size < w2.heap.size then f w1.heap.size else _) = _
    rw [if_pos (by omega)]
    exact hf _ (by simp)
  · refine ⟨rfl, .inr ⟨w2.heap.size, 1, #[.int .i64 0, .int .i64 0, .int .i64 (-1), .slice a3 3 c3, .int .i64 0, .int .i64 0, .int .i64 0, .int .i64 0, .slice a8 3 c8, .slice a9 0 c9, .slice a10 0 c10, .int .i64 0, .int .i64 0], rfl, by omega, ?_, by simp, by unfold maxLen; omega, rfl, rfl⟩⟩
    rw [Below.heap_alloc _ _ _ (by simp; omega), Below.heap_alloc _ _ _ (by simp)]
    exact heap_alloc_new w2 _
  · intro g hg
    injection hg with hg
    subst hg
    show (if w2.heap.size < w2.heap.size then _ else if w2.heap.size = w2.heap.size then _ else _) = _
    rw [if_neg (by omega), if_pos rfl]
  · refine ⟨rfl, .inr ⟨w2.heap.size + 1, 0, #[], rfl, by omega, ?_, by simp, by unfold maxLen; omega, rfl, rfl⟩⟩
    rw [Below.heap_alloc _ _ _ (by simp)]
    simpa using heap_alloc_new (w2.alloc (.cells #[.int .i64 0, .int .i64 0, .int .i64 (-1), .slice a3 3 c3, .int .i64 0, .int .i64 0, .int .i64 0, .int .i64 0, .slice a8 3 c8, .slice a9 0 c9, .slice a10 0 c10, .int .i64 0, .int .i64 0] 70)) (.cells #[] 55)
  · intro g hg
    injection hg with hg
    subst hg
    show (if w2.heap.size + 1 < w2.heap.size then _ else if w2.heap.size + 1 = w2.heap.size then _ else if w2.heap.size + 1 = w2.heap.size + 1 then _ else _) = _
    rw [if_neg (by omega), if_neg (by omega), if_pos rfl]
  · intro i hi
    have : i = 0 := by simpa using hi
    subst this
    exact ht.move (fun g _ hg => if_pos hg) (fun g _ hg _ => K g hg)
  · show (if w2.heap.size + 1 + 1 < w2.heap.size then _ else if w2.heap.size + 1 + 1 = w2.heap.size then _ else if w2.heap.size + 1 + 1 = w2.heap.size + 1 then _ else _) = _
    rw [if_neg (by omega), if_neg (by omega), if_neg (by omega)]
  · simpa using heap_alloc_new ((w2.alloc (.cells #[.int .i64 0, .int .i64 0, .int .i64 (-1), .slice a3 3 c3, .int .i64 0, .int .i64 0, .int .i64 0, .int .i64 0, .slice a8 3 c8, .slice a9 0 c9, .slice a10 0 c10, .int .i64 0, .int .i64 0] 70)).alloc (.cells #[] 55)) (.cells #[.slice (some ⟨w1.heap.size, 0, none⟩) 0 0, .slice (some ⟨w2.heap.size, 0, none⟩) 1 1, .int .i64 0, .slice (some ⟨w2.heap.size + 1, 0, none⟩) 0 0] 32)
set_option maxHeartbeats 4000000 in
theorem sSysNew_any (S : Nat → Prop) (p : Pr) (pc pb : Value) (w : World) (hp : PrS S w pc pb p) : Calls Try.prog 10 #[.agg #[pc, pb]] w (NewR p w) := by
  obtain ⟨pa, pca, rfl, _⟩ := hp.1.shape
  obtain ⟨pba, pbc, rfl, _⟩ := hp.2.shape
  have HP := (show Hid (PrS _ _ _ _ _) from hp)
  clear hp
  have HY : Hid (∃ V, V = ((w.alloc (.cells #[.slice pa p.cells.length pca, .slice pba p.bodies.length pbc] 26)).alloc (.cells #[.slice none 0 0, .slice none 0 0, .int .i64 0, .slice none 0 0] 32)) ∧ PBox V w.heap.size (.slice pa p.cells.length pca) (.slice pba p.bodies.length pbc) ∧ V.heap[w.heap.size + 1]? = some (.cells #[.slice none 0 0, .slice none 0 0, .int .i64 0, .slice none 0 0] 32 (0, 0)) ∧ V.heap.size = w.heap.size + 2 ∧ Below w.heap.size w V) := by
    refine ⟨_, rfl, PBox.alloc (heap_alloc_new w _) _, ?_, by simp, (((Below.refl _ _).alloc (Nat.le_refl _) _).alloc (by simp) _)⟩
    simpa using heap_alloc_new (w.alloc (.cells #[.slice pa p.cells.length pca, .slice pba p.bodies.length pbc] 26)) (.cells #[.slice none 0 0, .slice none 0 0, .int .i64 0, .slice none 0 0] 32)
  go_enter Try.func10, Try.ntmps10
  go_wp2_with fail
  obtain ⟨V, hV, hVP, hVZ, hVs, hVb⟩ := HY.out
  rw [← hV]
  clear hV HY
  have hVg : w.heap.size + 1 < V.heap.size := by omega
  clear hVs
  revert hVP hVZ hVg
  generalize hZe : w.heap.size + 1 = Z
  intro hVP hVZ hVg
  have hwZ : w.heap.size < Z := by omega
  have HVP := (show Hid (PBox _ _ _ _) from hVP)
  have HVZ := (show Hid (_ = _) from hVZ)
  have HVB := (show Hid (Below _ _ _) from hVb)
  have hsw := hVb.size
  clear hVP hVZ hVb hZe
  refine (sProgOk_any p _ _ _ (HP.out.1.at.mono HVB.out) (HP.out.2.at.mono HVB.out)).mono ?_
  rintro e w1 ⟨rfl, hb1⟩
  have hs1 := hb1.size
  have HZ1 : Hid (w1.heap[Z]? = _) := (hb1.block Z hVg).trans HVZ.out
  have HP1 : Hid (PBox w1 w.heap.size (.slice pa p.cells.length pca) (.slice pba p.bodies.length pbc)) := HVP.out.heap (hb1.block _ (by omega))
  have HB1 : Hid (Below w.heap.size w w1) := HVB.out.trans (hb1.mono hsw)
  have hZ1 : Z < w1.heap.size := by omega
  clear hb1 hs1 HVP HVZ HVB
  cases hok : okB p
  · have HOK := (show Hid (_ = _) from hok)
    clear hok
    obtain ⟨⟨z0, z1, z2, z3⟩, ⟨f0, f1, f2, f3⟩, hZl⟩ := box4c HZ1.out
    go_wp2_with fail
    (try simp only [Exit.inBlock, Exit.then])
    obtain ⟨⟨r0, r1, r2, r3⟩, _, _⟩ := box4c (box4 (b0 := .slice none 0 0) (b1 := .slice none 0 0) (b2 := .int .i64 0) (b3 := .slice none 0 0) HZ1.out).1
    refine bodyPost_ret (v := .tuple #[.agg #[.slice none 0 0, .slice none 0 0, .int .i64 0, .slice none 0 0], .bool false]) ?_ rfl ⟨.slice none 0 0, .slice none 0 0, .slice none 0 0, by rw [newS_no HOK.out, HOK.out], by rw [newS_no HOK.out]; exact OwnS.nil _ _, (((HB1.out.setCell (by simp; omega) _).setCell (by simp; omega) _).setCell (by simp; omega) _).setCell (by simp; omega) _⟩
    rw [results_cell_tmp rfl]
    go_simp
  have HOK := (show Hid (_ = _) from hok)
  have hc3 : p.cells.length ≤ 3 := (ok_sizes hok).1
  clear hok
  go_wp2_with fail
  refine (l11Task_any (fun _ => .c) 0 w1.heap.size 0 (-1) _ (by simp)).mono ?_
  rintro e w2 ⟨f, V2, rfl, hf, hti, hb2⟩
  obtain ⟨a3, c3, a8, c8, a9, c9, a10, c10, rfl⟩ := hti.shapes
  have HCB := (show Hid (CB _ _ _ _) from CB.begin rfl hf hti hb2)
  have HB2 : Hid (Below w1.heap.size w1 w2) := ((Below.refl w1.heap.size w1).alloc (Nat.le_refl _) _).trans (hb2.mono (by simp))
  have hs2 : w1.heap.size < w2.heap.size := by have := hb2.size; simp at this; omega
  clear hf hti hb2
  unfold taskAgg taC newTa
  simp only [List.length_cons, List.length_nil, Nat.zero_add, Nat.reduceAdd]
  go_wp2_with fail
  have HB3 : Hid (Below w1.heap.size w1 (((w2.alloc (.cells #[.int .i64 0, .int .i64 0, .int .i64 (-1), .slice a3 3 c3, .int .i64 0, .int .i64 0, .int .i64 0, .int .i64 0, .slice a8 3 c8, .slice a9 0 c9, .slice a10 0 c10, .int .i64 0, .int .i64 0] 70)).alloc (.cells #[] 55)).alloc (.cells #[.slice (some ⟨w1.heap.size, 0, none⟩) 0 0, .slice (some ⟨w2.heap.size, 0, none⟩) 1 1, .int .i64 0, .slice (some ⟨w2.heap.size + 1, 0, none⟩) 0 0] 32))) := ((HB2.out.alloc (by omega) _).alloc (by simp; omega) _).alloc (by simp; omega) _
  have hXs : w1.heap.size < w2.heap.size + 1 + 1 := by omega
  revert HCB HB3 hXs
  generalize (((w2.alloc (.cells #[.int .i64 0, .int .i64 0, .int .i64 (-1), .slice a3 3 c3, .int .i64 0, .int .i64 0, .int .i64 0, .int .i64 0, .slice a8 3 c8, .slice a9 0 c9, .slice a10 0 c10, .int .i64 0, .int .i64 0] 70)).alloc (.cells #[] 55)).alloc (.cells #[.slice (some ⟨w1.heap.size, 0, none⟩) 0 0, .slice (some ⟨w2.heap.size, 0, none⟩) 1 1, .int .i64 0, .slice (some ⟨w2.heap.size + 1, 0, none⟩) 0 0] 32)) = w3
  generalize w2.heap.size + 1 + 1 = X
  intro HCB HB3 hXs
  clear HB2 hs2
  go_loopw [5] (fun q w' => ∃ k : Nat, k ≤ p.cells.length ∧ q = .int .i64 k ∧ CB X w1.heap.size w' ⟨newC (p.cells.take k), [newTa 0 (-1)], 0, []⟩ ∧ Below w1.heap.size w1 w') (fun q _ => p.cells.length - (intOf q).toNat)
  case atStart => exact ⟨0, Nat.zero_le _, rfl, HCB.out, HB3.out⟩
  clear HCB HB3
  case round =>
    obtain ⟨k, hk, rfl, hcb, hbr⟩ := hrel
    have HBR := (show Hid (Below _ _ _) from hbr)
    have hsr := hbr.size
    have HPR : Hid (PBox wr w.heap.size (.slice pa p.cells.length pca) (.slice pba p.bodies.length pbc)) := HP1.out.heap (hbr.block _ (by omega))
    have HZR : Hid (wr.heap[Z]? = _) := (hbr.block Z hZ1).trans HZ1.out
    have HBW : Hid (Below w.heap.size w wr) := HB1.out.trans (hbr.mono (by omega))
    have hcl := newC_len (xs := p.cells) hk
    obtain ⟨f, cv, tv, lv, T, L, hO, hT, hL, hz, hbx⟩ := hcb.ex
    have HT0 : Hid (k < p.cells.length → newC (p.cells.take (k + 1)) = newC (p.cells.take k) ++ [⟨nth 0 p.cells k, 0, -1⟩]) := newC_take
    have HTE : Hid (k = p.cells.length → newC (p.cells.take k) = newC p.cells) := fun e => by rw [e, List.take_length]
    revert hO hbx hcl HT0 HTE
    generalize newC (p.cells.take k) = cs
    intro hcl hO hbx HT0 HTE
    obtain ⟨ca, cc, ec, _⟩ := own_shape hO.c.1
    rw [show (⟨cs, [newTa 0 (-1)], 0, []⟩ : Sy).cells = cs from rfl, hcl] at ec
    subst ec
    have hTl : T.length = 1 := by have := congrArg List.length hT; simpa using this
    have hLl : L.length = 0 := by have := congrArg List.length hL; simpa using this
    obtain ⟨ta, tc, et, _⟩ := own_shape hO.t.1
    rw [hTl] at et
    subst et
    obtain ⟨la, lc, el, _⟩ := own_shape hO.l.1
    rw [hLl] at el
    subst el
    have HO := (show Hid (OwnSy _ _ _ _ _ _ _ _ _) from hO)
    have HM := (show Hid (_ ∧ _ ∧ _) from ⟨hT, hL, hz⟩)
    have HBX := (show Hid (_ = _) from hbx)
    have HCL := (show Hid (_ = k) from hcl)
    have hXl := bx_lt hbx
    clear hcb hbr hO hT hL hz hbx hcl hTl hLl
    by_cases hlt : k < p.cells.length
    · have hlt' : (k : Int) < (p.cells.length : Int) := by omega
      obtain ⟨⟨x0, x1, x2, x3⟩, ⟨fz0, fz1, fz2, fz3⟩, _⟩ := box4c HBX.out
      obtain ⟨p0, p1, _, _⟩ := HPR.out.cells
      obtain ⟨_, _, ek, _, hkc⟩ := HP.out.1.at.mono HBW.out
      injection ek with ek1 ek2 ek3
      subst ek1 ek3
      clear ek2
      obtain ⟨b4, off4, rfl, hb4, y0⟩ := hkc k hlt
      clear hkc
      obtain ⟨i0, hi0, hz0, hz1, hz2⟩ := info_parts (P := Try.prog) (e := 45) (z := .agg #[.int .i64 0, .int .i64 0, .int .i64 0]) (size := 3) (bytes := 24) (by kernel_rfl)
      have hPw : w.heap.size < w1.heap.size := by omega
      have hb4w : b4 < w1.heap.size := by
        have h1 := HP.out.1.at
        obtain ⟨_, _, ek, _, hkc⟩ := h1
        injection ek with ek1 ek2 ek3
        obtain ⟨b', off', e', hb', _⟩ := hkc k hlt
        rw [e'] at ek1
        injection ek1 with ek1
        injection ek1 with ek1
        omega
      have SM : Hid (∀ W : World, (∀ b, b < wr.heap.size → (Value.slice ca k cc).ownBlock ≠ some b → W.heap[b]? = wr.heap[b]?) → W.cell? ⟨X, 0, none⟩ = some (.slice ca k cc) ∧ W.cell? ⟨w.heap.size, 0, none⟩ = some (.slice (some ⟨b4, off4, none⟩) p.cells.length pca) ∧ W.cell? ⟨b4, off4 + k, none⟩ = some (.int .i64 (nth 0 p.cells k))) := fun W hb => by
        have hX1 : (Value.slice ca k cc).ownBlock ≠ some X := fun e => by have h1 := HO.out.c.2 X e; rw [HM.out.2.2] at h1; cases h1
        have c1 : W.cell? ⟨X, 0, none⟩ = wr.cell? ⟨X, 0, none⟩ := World.cell?_of_block (hb X hXl hX1)
        have c2 : W.cell? ⟨b4, off4 + k, none⟩ = wr.cell? ⟨b4, off4 + k, none⟩ := World.cell?_of_block (hb b4 hb4 (fun e => by have h1 := HO.out.c.1.lt b4 e; omega))
        have c3 : W.cell? ⟨w.heap.size, 0, none⟩ = wr.cell? ⟨w.heap.size, 0, none⟩ := World.cell?_of_block (hb w.heap.size (by omega) (fun e => by have h1 := HO.out.c.1.lt w.heap.size e; omega))
        rw [c1, c2, c3]
        exact ⟨x0, p0, y0⟩
      go_wp2_with fail
      refine till_begin (S := fun w' => w'.cell? ⟨X, 0, none⟩ = some (.slice ca k cc) ∧ w'.cell? ⟨w.heap.size, 0, none⟩ = some (.slice (some ⟨b4, off4, none⟩) p.cells.length pca) ∧ w'.cell? ⟨b4, off4 + k, none⟩ = some (.int .i64 (nth 0 p.cells k))) (z := 11) (by kernel_rfl) ?_
      refine till_take (i := 0) (v := (.pointer (some ⟨X, 0, none⟩))) rfl (by kernel_rfl) (fun _ _ _ h => h) (by rfl) ?_ (SM.out _ (fun b hb _ => rfl)) ?_
      · (intro w hSw; obtain ⟨q0, q1, q2⟩ := hSw; go_simp)
      (try simp only [Act.put, List.setIfInBounds_toArray, List.set_cons_zero, List.set_cons_succ])
      refine till_take (i := 1) (v := (.slice ca k cc)) rfl (by kernel_rfl) (fun _ _ _ h => h) (by rfl) ?_ (SM.out _ (fun b hb _ => rfl)) ?_
      · (intro w hSw; obtain ⟨q0, q1, q2⟩ := hSw; go_simp)
      (try simp only [Act.put, List.setIfInBounds_toArray, List.set_cons_zero, List.set_cons_succ])
      refine till_take (i := 2) (v := (.pointer (some ⟨w.heap.size, 0, none⟩))) rfl (by kernel_rfl) (fun _ _ _ h => h) (by rfl) ?_ (SM.out _ (fun b hb _ => rfl)) ?_
      · (intro w hSw; obtain ⟨q0, q1, q2⟩ := hSw; go_simp)
      (try simp only [Act.put, List.setIfInBounds_toArray, List.set_cons_zero, List.set_cons_succ])
      refine till_take (i := 3) (v := (.slice (some ⟨b4, off4, none⟩) p.cells.length pca)) rfl (by kernel_rfl) (fun _ _ _ h => h) (by rfl) ?_ (SM.out _ (fun b hb _ => rfl)) ?_
      · (intro w hSw; obtain ⟨q0, q1, q2⟩ := hSw; go_simp)
      (try simp only [Act.put, List.setIfInBounds_toArray, List.set_cons_zero, List.set_cons_succ])
      refine till_take (i := 4) (v := (.int .i64 (k : Int))) rfl (by kernel_rfl) (fun _ _ _ h => h) (by rfl) ?_ (SM.out _ (fun b hb _ => rfl)) ?_
      · (intro w hSw; obtain ⟨q0, q1, q2⟩ := hSw; go_simp)
      (try simp only [Act.put, List.setIfInBounds_toArray, List.set_cons_zero, List.set_cons_succ])
      refine till_take (i := 5) (v := (.pointer (some ⟨b4, off4 + k, none⟩))) rfl (by kernel_rfl) (fun _ _ _ h => h) (by rfl) ?_ (SM.out _ (fun b hb _ => rfl)) ?_
      · (intro w hSw; obtain ⟨q0, q1, q2⟩ := hSw; go_simp)
      (try simp only [Act.put, List.setIfInBounds_toArray, List.set_cons_zero, List.set_cons_succ])
      refine till_take (i := 6) (v := (.int .i64 (nth 0 p.cells k))) rfl (by kernel_rfl) (fun _ _ _ h => h) (by rfl) ?_ (SM.out _ (fun b hb _ => rfl)) ?_
      · (intro w hSw; obtain ⟨q0, q1, q2⟩ := hSw; go_simp)
      (try simp only [Act.put, List.setIfInBounds_toArray, List.set_cons_zero, List.set_cons_succ])
      refine till_take (i := 7) (v := (.agg #[.int .i64 (nth 0 p.cells k), .int .i64 0, .int .i64 (-1)])) rfl (by kernel_rfl) (fun _ _ _ h => h) (by rfl) ?_ (SM.out _ (fun b hb _ => rfl)) ?_
      · (intro w hSw; obtain ⟨q0, q1, q2⟩ := hSw; go_simp)
      (try simp only [Act.put, List.setIfInBounds_toArray, List.set_cons_zero, List.set_cons_succ])
      refine till_step (i := 8) rfl (by kernel_rfl) (fun K hK => ?_)
      go_simp
      refine hK.out _ _ (fun _ => SM.out _ (fun b hb _ => (((Below.refl _ _).drew).alloc (Nat.le_refl _) _).block b hb)) ?_
      clear hK
      (try simp only [Act.put, List.setIfInBounds_toArray, List.set_cons_zero, List.set_cons_succ])
      refine till_step (i := 9) rfl (by kernel_rfl) (fun K hK => ?_)
      have HTW : World.ownsRow (wr.drew.alloc (.cells #[.int .i64 (nth 0 p.cells k), .int .i64 0, .int .i64 (-1)] 45)) w1.heap.size 45 3 (.slice ca k cc) k (cs.flatMap ceC) := by
        have h1 : World.ownsRow wr w1.heap.size 45 3 (.slice ca k cc) cs.length (cs.flatMap ceC) := HO.out.c.1
        rw [HCL.out] at h1
        exact row_heap h1 (fun b hb => (((Below.refl _ _).drew).alloc (Nat.le_refl _) _).block b (h1.lt b hb).2)
      refine step_append_lies _ (by rfl) _ _ 28 (by rfl) w1.heap.size 45 i0 (.agg #[.int .i64 0, .int .i64 0, .int .i64 0]) 3 24 Try.underlying28 hi0 hz0 hz1 hz2 rfl (by omega) _ k (cs.flatMap ceC) (by rfl) HTW ⟨wr.drew.heap.size, 0, none⟩ 1 1 [.int .i64 (nth 0 p.cells k), .int .i64 0, .int .i64 (-1)] (by rfl) rfl (cells_new wr.drew [.int .i64 (nth 0 p.cells k), .int .i64 0, .int .i64 (-1)] _) (by intro u hu; simp at hu; rcases hu with rfl | rfl | rfl <;> rfl) (by omega) (by unfold maxLen; omega) (by omega) (by simp; omega) _ (by rfl) ?_
      intro g3 cap3 w3' hown3 hgrow hat3 hlt3
      clear HTW
      have HO3 := (show Hid (World.ownsRow _ _ _ _ _ _ _) from hown3)
      have HG3 := (show Hid (World.grownBy _ _ _) from hgrow)
      have HA3 := (show Hid (_ ∨ _) from hat3)
      have hnl : ∀ b, b < wr.heap.size → (Value.slice ca k cc).ownBlock ≠ some b → w3'.heap[b]? = wr.heap[b]? := fun b hb hne => (HG3.out.block b (by simp; omega) (fun e => hne e.symm)).trans ((((Below.refl _ _).drew).alloc (Nat.le_refl _) _).block b hb)
      have hXn : (Value.slice ca k cc).ownBlock ≠ some X := fun e => by have h1 := HO.out.c.2 X e; rw [HM.out.2.2] at h1; cases h1
      have X3 : ∃ q, w3'.cell? ⟨X, 0, none⟩ = some q := ⟨_, (World.cell?_of_block (hnl X hXl hXn)).trans x0⟩
      have XZ : w3'.frozen? ⟨X, 0, none⟩ = false := by
        rw [World.frozen?_of_block (hnl X hXl hXn)]; exact fz0
      have HNL := (show Hid (∀ b, _) from hnl)
      clear hnl hXn hown3 hgrow hat3
      obtain ⟨x3', X3⟩ := X3
      refine hK.out _ _ (fun _ => SM.out _ HNL.out) ?_
      clear hK
      (try simp only [Act.put, List.setIfInBounds_toArray, List.set_cons_zero, List.set_cons_succ])
      refine till_take (i := 10) (v := (.pointer (some ⟨X, 0, none⟩))) rfl (by kernel_rfl) (fun _ _ _ h => h) (by rfl) ?_ (SM.out _ HNL.out) ?_
      · (intro w hSw; obtain ⟨q0, q1, q2⟩ := hSw; go_simp)
      (try simp only [Act.put, List.setIfInBounds_toArray, List.set_cons_zero, List.set_cons_succ])
      refine till_step (i := 11) rfl (by kernel_rfl) (fun K hK => ?_)
      go_simp
      refine hK.out _ _ (fun h => absurd rfl h) ?_
      clear hK
      refine till_done (by kernel_rfl) ?_ _
      have A1 : CB X w1.heap.size (w3'.setCell ⟨X, 0, none⟩ (.slice (some ⟨g3, 0, none⟩) (k + 1) cap3)) ⟨cs ++ [⟨nth 0 p.cells k, 0, -1⟩], [newTa 0 (-1)], 0, []⟩ := CB.cellA (s := ⟨cs, [newTa 0 (-1)], 0, []⟩) (by omega) (((Below.refl wr.heap.size wr).alloc (Nat.le_refl _) _).drew) HO.out HM.out.1 HM.out.2.1 HM.out.2.2 HBX.out (by show World.ownsRow _ _ _ _ _ (cs.length + 1) _; rw [HCL.out]; exact HO3.out) HG3.out (fun b hb => by
        rcases HA3.out with e | e
        · left; rw [e]; exact hb
        · right; injection hb with hb; rw [← hb, e]; simp)
      have F1 : Below w1.heap.size w1 (w3'.setCell ⟨X, 0, none⟩ (.slice (some ⟨g3, 0, none⟩) (k + 1) cap3)) := by
        refine Below.setCell ?_ (by show w1.heap.size ≤ X; omega) _
        refine HBR.out.trans (((((Below.refl wr.heap.size wr).alloc (Nat.le_refl _) _).drew).mono hsr).trans (grown_below HG3.out (fun g hg => (HO.out.c.1.lt g hg).1) (by simp; omega)))
      have HA1 := (show Hid (CB _ _ _ _) from A1)
      have HF1 := (show Hid (Below _ _ _) from F1)
      have HEE := (show Hid (_ = _) from HT0.out hlt)
      clear A1 F1 HT0 HTE X3 XZ x0 x1 x2 x3 fz0 fz1 fz2 fz3 p0 p1 y0
      go_wp2_with fail
      go_roundw
      case rel => exact ⟨k + 1, by omega, by go_num, by rw [HEE.out]; exact HA1.out, HF1.out⟩
      case measure => simp [intOf]; omega
    · have hk2 : ¬ (k : Int) < (p.cells.length : Int) := by omega
      have HF : Hid (newS p = ⟨cs, [newTa 0 (-1)], 0, []⟩) := by
        unfold Hid
        rw [newS_eq HOK.out, HTE.out (by omega)]; rfl
      obtain ⟨⟨x0, x1, x2, x3⟩, _, _⟩ := box4c HBX.out
      obtain ⟨p0, p1, _, _⟩ := HPR.out.cells
      obtain ⟨⟨z0, z1, z2, z3⟩, ⟨f0, f1, f2, f3⟩, hZl⟩ := box4c HZR.out
      have hOS : OwnS w1.heap.size wr (.slice ca k cc) (.slice ta 1 tc) (.slice la 0 lc) ⟨cs, [newTa 0 (-1)], 0, []⟩ := ⟨f, T, L, HO.out, HM.out.1, HM.out.2.1⟩
      have HOS := (show Hid (OwnS _ _ _ _ _ _) from hOS)
      obtain ⟨⟨r0, r1, r2, r3⟩, _, _⟩ := box4c (box4 (b0 := .slice ca k cc) (b1 := .slice ta 1 tc) (b2 := .int .i64 0) (b3 := .slice la 0 lc) HZR.out).1
      clear hOS HT0 HTE
      go_wp2_with fail
      (try simp only [Exit.inBlock, Exit.then])
      refine bodyPost_ret (v := .tuple #[.agg #[.slice ca k cc, .slice ta 1 tc, .int .i64 0, .slice la 0 lc], .bool true]) ?_ rfl ⟨.slice ca k cc, .slice ta 1 tc, .slice la 0 lc, by rw [HF.out, HOK.out], by rw [HF.out]; exact ((((HOS.out.setX hZ1 _).setX hZ1 _).setX hZ1 _).setX hZ1 _).base (by omega), (((HBW.out.setCell (by simp; omega) _).setCell (by simp; omega) _).setCell (by simp; omega) _).setCell (by simp; omega) _⟩
      rw [results_cell_tmp rfl]
      go_simp
end Go.Proofs.Ytgbgjljflgbcaaa
