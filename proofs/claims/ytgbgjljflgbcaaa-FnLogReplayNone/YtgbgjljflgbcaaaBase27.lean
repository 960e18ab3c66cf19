import Derived.Test.YtgbgjljflgbcaaaBase26
import Derived.Test.YtgbgjljflgbcaaaBase25
import Derived.Test.YtgbgjljflgbcaaaBase23
namespace Go.Proofs.Ytgbgjljflgbcaaa
open Go.RowKit
set_option linter.unusedSimpArgs false
set_option linter.unusedVariables false
set_option maxRecDepth 20000
def posL (x : En) (L : List En) : Nat → Nat
  | 0 => 0
  | n + 1 => if ahB x (nth En.z L n) then posL x L n else n + 1
def insL (x : En) (L : List En) : List En := (L.take (posL x L L.length) ++ [x]) ++ L.drop (posL x L L.length)
def ordL (xs : List En) : List En := xs.foldl (fun L x => insL x L) []
theorem posL_le (x : En) (L : List En) (n : Nat) : posL x L n ≤ n := by
  induction n with
  | zero => exact Nat.le_refl _
  | succ n ih => unfold posL; split <;> omega
theorem insL_len (x : En) (L : List En) : (insL x L).length = L.length + 1 := by
  have := posL_le x L L.length
  unfold insL; simp; omega
theorem ordL_next (xs : List En) {k : Nat} (hk : k < xs.length) : ordL (xs.take (k + 1)) = insL (nth En.z xs k) (ordL (xs.take k)) := by
  unfold ordL
  rw [List.take_succ_eq_append_getElem hk, List.foldl_append, nth_eq En.z xs k hk]
  rfl
theorem ordL_take_len (xs : List En) (k : Nat) (hk : k ≤ xs.length) : (ordL (xs.take k)).length = k := by
  induction k with
  | zero => rfl
  | succ k ih => rw [ordL_next xs (by omega), insL_len, ih (by omega)]
theorem ordL_len (xs : List En) : (ordL xs).length = xs.length := by
  have := ordL_take_len xs xs.length (Nat.le_refl _)
  rwa [List.take_length] at this
theorem ins_map (t : En) (V : EV) (L : List EE) {m : Nat} (h : posL t (L.map (·.1)) L.length = m) : (((L.take m ++ [(t, V)]) ++ L.drop m).map (·.1)) = insL t (L.map (·.1)) := by
  unfold insL
  rw [List.length_map, h]
  simp
theorem take_src {w : World} {g m : Nat} {L : List EE} (h : ∀ j, j < L.length * 6 → w.cell? ⟨g, j, none⟩ = (L.flatMap enC)[j]?) {j : Nat} {u : Value} (hj : ((L.take m).flatMap enC)[j]? = some u) : w.cell? ⟨g, j, none⟩ = some u := by
  have hl : j < ((L.take m).flatMap enC).length := by
    rcases Nat.lt_or_ge j ((L.take m).flatMap enC).length with q | q
    · exact q
    · rw [List.getElem?_eq_none q] at hj; cases hj
  rw [flat_len 6 enC enC_len, List.length_take] at hl
  rw [h j (by have : min m L.length * 6 ≤ L.length * 6 := Nat.mul_le_mul_right _ (Nat.min_le_right _ _); omega)]
  conv => lhs; rw [← List.take_append_drop m L, List.flatMap_append]
  rw [List.getElem?_append_left (by rw [flat_len 6 enC enC_len, List.length_take]; exact hl)]
  exact hj
theorem drop_src {w : World} {g m : Nat} {L : List EE} (h : ∀ j, j < L.length * 6 → w.cell? ⟨g, j, none⟩ = (L.flatMap enC)[j]?) {j : Nat} {u : Value} (hj : ((L.drop m).flatMap enC)[j]? = some u) : w.cell? ⟨g, m * 6 + j, none⟩ = some u := by
  have hl : j < ((L.drop m).flatMap enC).length := by
    rcases Nat.lt_or_ge j ((L.drop m).flatMap enC).length with q | q
    · exact q
    · rw [List.getElem?_eq_none q] at hj; cases hj
  rw [flat_len 6 enC enC_len, List.length_drop] at hl
  have hm : m ≤ L.length := by omega
  rw [h _ (by omega)]
  conv => lhs; rw [← List.take_append_drop m L, List.flatMap_append]
  have ht : ((L.take m).flatMap enC).length = m * 6 := by rw [flat_len 6 enC enC_len, List.length_take, Nat.min_eq_left hm]
  rw [List.getElem?_append_right (by omega), ht, show m * 6 + j - m * 6 = j by omega]
  exact hj
theorem OE.one {B : Nat} {w : World} {v : Value} {L M : List EE} (h : OE B w v L) (hM : ∀ x, x ∈ M → x ∈ L) : ∀ u, u ∈ M.flatMap enC → u.oneCell' = true := fun u hu => by
  obtain ⟨x, hx, hu⟩ := List.mem_flatMap.1 hu
  obtain ⟨h1, h2⟩ := h.e x (hM x hx)
  obtain ⟨_, _, e3, _⟩ := own_shape h1
  obtain ⟨_, _, e4, _⟩ := own_shape h2
  simp [enC] at hu
  rcases hu with rfl | rfl | rfl | rfl | rfl | rfl
  · rfl
  · rfl
  · rfl
  · rw [e3]; rfl
  · rw [e4]; rfl
  · rfl
set_option maxHeartbeats 8000000 in
theorem sLogOrder_any (v : Value) (xs : List En) (w : World) (h : EnsAt w v xs) (hsm : SmsEn xs) :
    Calls Try.prog 57 #[v] w fun r w' => ∃ v', r = .returned v' ∧ EnsOn (fun b => w.heap.size ≤ b) w' v' (ordL xs) ∧ Below w.heap.size w w' := by
  obtain ⟨i0, hi0, hz0, hz1, hz2⟩ := info_parts (P := Try.prog) (e := 55) (z := (.agg #[.int .i64 0, .int .i64 0, .int .i64 0, .slice none 0 0, .slice none 0 0, .int .i64 0])) (size := 6) (bytes := 80) (by kernel_rfl)
  obtain ⟨la, lc, rfl, hlc, hlm⟩ := h.cap
  have HLG := (show Hid (EnsAt _ _ _) from h)
  have HSM := (show Hid (SmsEn _) from hsm)
  have hn2 : xs.length ≤ 1048576 := hsm.1
  clear h hsm
  go_enter Try.func57, Try.ntmps57
  go_wp2_with fail
  go_loopw [3, 4] (fun o q w' => ∃ (k : Nat) (L : List EE), k ≤ xs.length ∧ q = .int .i64 k ∧ Hid (L.map (·.1) = ordL (xs.take k)) ∧ Hid (OE w.heap.size w' o L) ∧ Hid (Below w.heap.size w w')) (fun _ q _ => xs.length - (intOf q).toNat)
  case atStart => exact ⟨0, [], Nat.zero_le _, rfl, rfl, OE.nil w (Nat.le_refl _), (Below.refl _ _).alloc (Nat.le_refl _) _⟩
  case round =>
    obtain ⟨k, L, hk, rfl, HLM, HO, HB⟩ := hrel
    obtain ⟨g, c, rfl⟩ := HO.out.s
    have HLl : Hid (L.length = k) := by
      have h1 := congrArg List.length HLM.out
      rw [List.length_map, ordL_take_len xs k hk] at h1
      exact h1
    have hLn : L.length ≤ 1048576 := by have := HLl.out; omega
    obtain ⟨_, hLc, hc63, hgl, hgB, hgc⟩ := HO.out.src
    have HGC := (show Hid (∀ j, j < L.length * 6 → _) from hgc)
    clear hgc
    by_cases hlt : k < xs.length
    case neg =>
      have hlt' : ¬ (k : Int) < (xs.length : Int) := by omega
      have HF : Hid (EnsOn (fun b => w.heap.size ≤ b) wr (.slice (some ⟨g, 0, none⟩) L.length c) (ordL xs)) := by
        have h1 := HO.out.on
        rw [HLM.out, show k = xs.length by omega, List.take_length] at h1
        exact h1
      clear HLM HO
      go_wp2_with fail
      go_ret
      exact ⟨_, rfl, HF.out, HB.out⟩
    have hlt' : (k : Int) < (xs.length : Int) := by omega
    have hbs := HB.out.size
    obtain ⟨wo, hwo⟩ : ∃ wo : World, wo = wr := ⟨_, rfl⟩
    subst hwo
    go_wp2_with fail
    go_loopw [5] (fun q w' => ∃ m : Nat, m ≤ L.length ∧ q = .int .i64 m ∧ Hid (posL (nth En.z xs k) (L.map (·.1)) L.length = posL (nth En.z xs k) (L.map (·.1)) m) ∧ Hid (Below wo.heap.size wo w')) (fun q _ => (intOf q).toNat)
    case atStart => exact ⟨L.length, Nat.le_refl _, rfl, rfl, Below.refl _ _⟩
    case round =>
      obtain ⟨m, hm, rfl, HP, HB2⟩ := hrel
      have hs2 := HB2.out.size
      obtain ⟨_, _, et, _, hts⟩ := HLG.out.mono (HB.out.trans (HB2.out.mono hbs))
      injection et with et1 et2 et3
      subst et1 et3
      obtain ⟨b, off, v3, v4, rfl, hbl, c0, c1, c2, c3, c4, c5, h3, h4⟩ := hts k hlt
      obtain ⟨a3, k3, rfl, _, _⟩ := h3.cap
      obtain ⟨a4, k4, rfl, _, _⟩ := h4.cap
      have H3 := (show Hid (PusAt _ _ _) from h3)
      have H4 := (show Hid (PusAt _ _ _) from h4)
      clear hts et2 h3 h4
      by_cases hm0 : m = 0
      case pos =>
        have HPE : Hid (posL (nth En.z xs k) (L.map (·.1)) L.length = m) := by have h1 := HP.out; rw [hm0] at h1 ⊢; exact h1
        have HM0 := (show Hid (m = 0) from hm0)
        clear HP hm0
        go_wp2_with fail
        refine lo_reg6z wr b off xs.length lc g L.length c k m HM0.out _ _ _ _ _ _ _ _ _ _ _ _ _ _ _ _ _ _ _ _ _ _ _ _ _ _ _ _ _ _ _ _ _ _ _ _ _ _ _ _ _ _ _ _ _ _ _ ?_
        intro v16 v17 v18 v19 v20 v21 v22 v23 v24 v25 v26 v27 v28 w1 hb3
        have HB3 : Hid (Below wo.heap.size wo w1) := HB2.out.trans (hb3.mono hs2)
        have HBR := (show Hid (Below wr.heap.size wr w1) from hb3)
        clear hb3
        go_wp2_with fail
        have hbx := HB3.out
        have hxw := HBR.out
        clear HB3 HBR
        revert hbx hxw
        generalize w1 = wx
        intro hbx hxw
        have HBX := (show Hid (Below _ _ _) from hbx)
        have hsx := hbx.size
        have hsxr := hxw.size
        have HS0 : Hid (b < wx.heap.size ∧ wx.cell? ⟨b, off + k * 6, none⟩ = some (.int .i64 (nth En.z xs k).task) ∧ wx.cell? ⟨b, off + k * 6 + 1, none⟩ = some (.int .i64 (nth En.z xs k).act) ∧ wx.cell? ⟨b, off + k * 6 + 2, none⟩ = some (.int .i64 (nth En.z xs k).when_) ∧ wx.cell? ⟨b, off + k * 6 + 3, none⟩ = some (.slice a3 (nth En.z xs k).reads.length k3) ∧ wx.cell? ⟨b, off + k * 6 + 4, none⟩ = some (.slice a4 (nth En.z xs k).puts.length k4) ∧ wx.cell? ⟨b, off + k * 6 + 5, none⟩ = some (.int .i64 (nth En.z xs k).from_)) := ⟨by omega, (hxw.cell (p := ⟨b, _, none⟩) hbl).trans c0, (hxw.cell (p := ⟨b, _, none⟩) hbl).trans c1, (hxw.cell (p := ⟨b, _, none⟩) hbl).trans c2, (hxw.cell (p := ⟨b, _, none⟩) hbl).trans c3, (hxw.cell (p := ⟨b, _, none⟩) hbl).trans c4, (hxw.cell (p := ⟨b, _, none⟩) hbl).trans c5⟩
        have H3x : Hid (PusAt wx (.slice a3 (nth En.z xs k).reads.length k3) (nth En.z xs k).reads) := H3.out.mono hxw
        have H4x : Hid (PusAt wx (.slice a4 (nth En.z xs k).puts.length k4) (nth En.z xs k).puts) := H4.out.mono hxw
        have HSR : Hid (g < wx.heap.size ∧ ∀ j u, ((L.take m).flatMap enC)[j]? = some u → wx.cell? ⟨g, j, none⟩ = some u) := ⟨by omega, fun j u hj => by
          rw [hbx.cell (p := ⟨g, _, none⟩) hgl]
          exact take_src HGC.out hj⟩
        have HLL : Hid (((L.take m).flatMap enC).length = m * 6 ∧ ∀ u, u ∈ (L.take m).flatMap enC → u.oneCell' = true) := ⟨by rw [flat_len 6 enC enC_len, List.length_take, Nat.min_eq_left (by omega)], OE.one HO.out (fun x hx => List.mem_of_mem_take hx)⟩
        have HSE : Hid (SmEn (nth En.z xs k)) := HSM.out.2 k hlt
        clear c0 c1 c2 c3 c4 c5 hxw hbx H3 H4
        refine lo_reg8 wx b off xs.length lc g L.length c k m a3 a4 k3 k4 (nth En.z xs k) ((L.take m).flatMap enC) HS0 H3x H4x HSE HSR HLL hlt' (by omega) (by omega) (by omega) (by omega) _ _ _ _ _ _ _ _ _ _ _ _ _ _ _ _ _ _ _ _ _ _ _ _ _ _ _ _ _ _ _ _ _ _ _ _ _ _ _ _ _ _ _ _ _ _ _ ?_
        intro v32 v33 v34 v35 v36 v37 v38 v39 v40 v41 v42 v43 W d u hF
        have HF := (show Hid (MoF _ _ _ _ _ _ _ _) from hF)
        clear hF HS0 H3x H4x HSR HLL HSE
        obtain ⟨a43, k43, e43, h43a, h43b⟩ := own_shape HF.out.r
        subst e43
        have HBW : Hid (Below wo.heap.size wo W) := HBX.out.trans (HF.out.bel.mono hsx)
        have HOW : Hid (∀ j, j < L.length * 6 → W.cell? ⟨g, j, none⟩ = (L.flatMap enC)[j]?) := fun j hj => (HBW.out.cell (p := ⟨g, _, none⟩) hgl).trans (HGC.out j hj)
        have hqc : ((m : Nat) : Int) ≤ (L.length : Int) := by omega
        have hqc0 : (0 : Int) ≤ ((m : Nat) : Int) := by omega
        have hsW := HF.out.bel.size
        have HNX : Hid (∀ (v' : Value) (W' : World), W'.ownsRow wx.heap.size 55 6 v' (m + 1 + (L.length - m)) ((((L.take m).flatMap enC) ++ [.int .i64 (nth En.z xs k).task, .int .i64 (nth En.z xs k).act, .int .i64 (nth En.z xs k).when_, d, u, .int .i64 (nth En.z xs k).from_]) ++ (L.drop m).flatMap enC) → W.grownBy W' (Value.slice a43 (m + 1) k43).ownBlock → OE w.heap.size W' v' ((L.take m ++ [((nth En.z xs k, EV.mk d u) : EE)]) ++ L.drop m) ∧ Below w.heap.size w W') := fun v' W' ho hg => by
          have TK := TagKept.grown HF.out.r hg
          have hbl' : ∀ g', g' < wx.heap.size → W'.heap[g']? = W.heap[g']? := fun g' hg' => hg.block g' (by omega) (fun e => by have := (HF.out.r.lt g' e.symm).1; omega)
          have hkk : ∀ g', g' < wo.heap.size → W'.heap[g']? = wo.heap[g']? := fun g' hg' => (hbl' g' (by omega)).trans (HBW.out.block g' hg')
          refine ⟨OE.ins (x := ((nth En.z xs k, EV.mk d u) : EE)) HO.out (by omega) (by omega) hkk (own_base (by rw [show L.length + 1 = m + 1 + (L.length - m) by omega]; exact ho) (by omega)) (PuR.base (own_tag HF.out.d TK (by decide)) (by omega)) (PuR.base (own_tag HF.out.u TK (by decide)) (by omega)), ?_⟩
          exact (HB.out.trans (HBW.out.mono hbs)).grown hg (by omega) (fun b hb => by have := (HF.out.r.lt b hb).1; omega)
        have HNM : Hid (((L.take m ++ [((nth En.z xs k, EV.mk d u) : EE)]) ++ L.drop m).map (·.1) = ordL (xs.take (k + 1))) := by
          rw [Hid, ordL_next xs hlt, ← HLM.out]
          exact ins_map _ _ L HPE.out
        have HDL : Hid (((L.drop m).flatMap enC).length = (L.length - m) * 6 ∧ ∀ u, u ∈ (L.drop m).flatMap enC → u.oneCell' = true) := ⟨by rw [flat_len 6 enC enC_len, List.length_drop], OE.one HO.out (fun x hx => List.mem_of_mem_drop hx)⟩
        have HDS : Hid (∀ j u, ((L.drop m).flatMap enC)[j]? = some u → W.cell? ⟨g, m * 6 + j, none⟩ = some u) := fun j u hj => drop_src HOW.out hj
        have hR := HF.out.r
        have HR := (show Hid (World.ownsRow _ _ _ _ _ _ _) from hR)
        clear hR HOW HGC HF
        by_cases hend : m = L.length
        case pos =>
          have HDZ : Hid ((L.drop m).flatMap enC = []) := by rw [Hid, List.drop_eq_nil_of_le (by omega)]; rfl
          have HLZ : Hid (L.length - m = 0) := by rw [Hid]; omega
          have HN0 : Hid (∀ (v' : Value) (W' : World), W'.ownsRow wx.heap.size 55 6 v' (L.length + 1) (L.flatMap enC ++ [.int .i64 (nth En.z xs k).task, .int .i64 (nth En.z xs k).act, .int .i64 (nth En.z xs k).when_, d, u, .int .i64 (nth En.z xs k).from_]) → W.grownBy W' (Value.slice a43 (L.length + 1) k43).ownBlock → ∃ LL : List EE, OE w.heap.size W' v' LL ∧ Below w.heap.size w W' ∧ LL.map (·.1) = ordL (xs.take (k + 1))) := fun v' W' ho hg => by
            have h1 := HNX.out v' W' (by rw [HDZ.out, HLZ.out, List.append_nil, hend, List.take_length]; exact ho) (by rw [hend]; exact hg)
            exact ⟨_, h1.1, h1.2, HNM.out⟩
          clear HNX HNM HDZ HLZ HDL HDS HPE
          go_wp2_with (at_builtin; go_loud (refine wpList_append_src rfl _ _ 30 rfl wx.heap.size 55 i0 (.agg #[.int .i64 0, .int .i64 0, .int .i64 0, .slice none 0 0, .slice none 0 0, .int .i64 0]) 6 80 Try.underlying30 hi0 hz0 hz1 hz2 rfl (by decide) _ (m + 1) _ rfl HR.out _ 0 _ [] rfl rfl (.inl rfl) (by simp) (by unfold maxLen; omega) (by omega) (by omega) ?_))
          all_goals
            intro v9 W9 hown9 hgrow9
            obtain ⟨LL, hO9, hB9, hm9⟩ := HN0.out v9 W9 hown9 hgrow9
            have HO9 := (show Hid (OE _ _ _ _) from hO9)
            have HB9 := (show Hid (Below _ _ _) from hB9)
            have HM9 := (show Hid (_ = _) from hm9)
            clear hO9 hB9 hown9 hgrow9 hm9
            go_wp2_with fail
            go_roundw
            case rel => exact ⟨k + 1, LL, by omega, by go_num, HM9, HO9, HB9⟩
            case measure => simp [intOf]; omega
        have hlt3 : ((m : Nat) : Int) < (L.length : Int) := by omega
        go_wp2_with (at_builtin; go_loud (refine wpList_append_src rfl _ _ 30 rfl wx.heap.size 55 i0 (.agg #[.int .i64 0, .int .i64 0, .int .i64 0, .slice none 0 0, .slice none 0 0, .int .i64 0]) 6 80 Try.underlying30 hi0 hz0 hz1 hz2 rfl (by decide) _ (m + 1) _ rfl HR.out _ (L.length - m) _ ((L.drop m).flatMap enC) rfl HDL.out.1 (.inr ⟨⟨g, m * 6, none⟩, rfl, fun j u hj => by rw [Go.WideShapes.add_plain]; exact HDS.out j u hj⟩) HDL.out.2 (by unfold maxLen; omega) (by omega) (by omega) ?_))
        intro v9 W9 hown9 hgrow9
        obtain ⟨hO9, hB9⟩ := HNX.out v9 W9 (by have h1 := hown9; simp only [List.append_assoc, List.cons_append, List.nil_append] at h1 ⊢; exact h1) hgrow9
        have HO9 := (show Hid (OE _ _ _ _) from hO9)
        have HB9 := (show Hid (Below _ _ _) from hB9)
        clear hO9 hB9 hown9 hgrow9
        go_wp2_with fail
        go_roundw
        case rel => exact ⟨k + 1, _, by omega, by go_num, HNM, HO9, HB9⟩
        case measure => simp [intOf]; omega
      have hmp : (0 : Int) < (m : Int) := by omega
      have hwm : IntKind.i64.wrap ((m : Int) - 1) = ((m - 1 : Nat) : Int) := by rw [IntKind.wrap_i64]; omega
      have hml : ((m - 1 : Nat) : Int) < (L.length : Int) := by omega
      have hml0 : (0 : Int) ≤ ((m - 1 : Nat) : Int) := by omega
      obtain ⟨_, _, et, _, hts⟩ := (HO.out.go (fun b _ hb => HB2.out.block b hb)).on.at
      rw [List.length_map] at et hts
      injection et with et1 et2 et3
      subst et1 et3
      obtain ⟨b', off', u3, u4, eb, hbl', d0, d1, d2, d3, d4, d5, g3, g4⟩ := hts (m - 1) (by omega)
      injection eb with eb
      injection eb with eb1 eb2
      subst eb1 eb2
      obtain ⟨f3, e3, rfl, _⟩ := g3.shape
      obtain ⟨f4, e4, rfl, _⟩ := g4.shape
      clear hts et2 g3 g4
      have HS6 : Hid (wr.cell? ⟨b, off + k * 6, none⟩ = some (.int .i64 (nth En.z xs k).task) ∧ wr.cell? ⟨b, off + k * 6 + 1, none⟩ = some (.int .i64 (nth En.z xs k).act) ∧ wr.cell? ⟨b, off + k * 6 + 2, none⟩ = some (.int .i64 (nth En.z xs k).when_) ∧ wr.cell? ⟨b, off + k * 6 + 3, none⟩ = some (.slice a3 (nth En.z xs k).reads.length k3) ∧ wr.cell? ⟨b, off + k * 6 + 4, none⟩ = some (.slice a4 (nth En.z xs k).puts.length k4) ∧ wr.cell? ⟨b, off + k * 6 + 5, none⟩ = some (.int .i64 (nth En.z xs k).from_) ∧ wr.cell? ⟨g, (m - 1) * 6, none⟩ = some (.int .i64 (nth En.z (L.map (·.1)) (m - 1)).task) ∧ wr.cell? ⟨g, (m - 1) * 6 + 1, none⟩ = some (.int .i64 (nth En.z (L.map (·.1)) (m - 1)).act) ∧ wr.cell? ⟨g, (m - 1) * 6 + 2, none⟩ = some (.int .i64 (nth En.z (L.map (·.1)) (m - 1)).when_) ∧ wr.cell? ⟨g, (m - 1) * 6 + 3, none⟩ = some (.slice f3 (nth En.z (L.map (·.1)) (m - 1)).reads.length e3) ∧ wr.cell? ⟨g, (m - 1) * 6 + 4, none⟩ = some (.slice f4 (nth En.z (L.map (·.1)) (m - 1)).puts.length e4) ∧ wr.cell? ⟨g, (m - 1) * 6 + 5, none⟩ = some (.int .i64 (nth En.z (L.map (·.1)) (m - 1)).from_)) := by
        rw [Nat.zero_add] at d0 d1 d2 d3 d4 d5
        exact ⟨c0, c1, c2, c3, c4, c5, d0, d1, d2, d3, d4, d5⟩
      clear d0 d1 d2 d3 d4 d5
      go_wp2_with fail
      refine lo_reg6 wr b off xs.length lc g L.length c k m a3 a4 f3 f4 k3 k4 e3 e4 (nth En.z xs k) (nth En.z (L.map (·.1)) (m - 1)) HS6 hlt' (by omega) hml hwm hml0 _ _ _ _ _ _ _ _ _ _ _ _ _ _ _ _ _ _ _ _ _ _ _ _ _ _ _ _ _ _ _ _ _ _ _ _ _ _ _ _ _ _ _ _ _ _ _ ?_ ⟨hbl, by omega⟩
      intro v16 v17 v18 v19 v20 v21 v22 v23 v24 v25 v26 v27 v28 w1 hb3
      clear HS6
      all_goals
        have HB3 : Hid (Below wo.heap.size wo w1) := HB2.out.trans (hb3.mono hs2)
        have HBR := (show Hid (Below wr.heap.size wr w1) from hb3)
        clear hb3
        cases hd : ahB (nth En.z xs k) (nth En.z (L.map (·.1)) (m - 1))
        case true =>
          have HPN : Hid (posL (nth En.z xs k) (L.map (·.1)) L.length = posL (nth En.z xs k) (L.map (·.1)) (m - 1)) := by
            rw [Hid, HP.out]
            conv => lhs; rw [show m = (m - 1) + 1 by omega]; unfold posL
            rw [if_pos hd]
          clear hd HP HBR c0 c1 c2 c3 c4 c5
          go_wp2_with fail
          go_roundw
          case rel => exact ⟨m - 1, by omega, by go_num, HPN, HB3⟩
          case measure => simp [intOf]; omega
        case false =>
          have HPE : Hid (posL (nth En.z xs k) (L.map (·.1)) L.length = m) := by
            rw [Hid, HP.out]
            conv => lhs; rw [show m = (m - 1) + 1 by omega]; unfold posL
            rw [if_neg (by rw [hd]; simp)]
            omega
          clear hd HP
          go_wp2_with fail
          have hbx := HB3.out
          have hxw := HBR.out
          clear HB3 HBR
          revert hbx hxw
          generalize w1 = wx
          intro hbx hxw
          have HBX := (show Hid (Below _ _ _) from hbx)
          have hsx := hbx.size
          have hsxr := hxw.size
          have HS0 : Hid (b < wx.heap.size ∧ wx.cell? ⟨b, off + k * 6, none⟩ = some (.int .i64 (nth En.z xs k).task) ∧ wx.cell? ⟨b, off + k * 6 + 1, none⟩ = some (.int .i64 (nth En.z xs k).act) ∧ wx.cell? ⟨b, off + k * 6 + 2, none⟩ = some (.int .i64 (nth En.z xs k).when_) ∧ wx.cell? ⟨b, off + k * 6 + 3, none⟩ = some (.slice a3 (nth En.z xs k).reads.length k3) ∧ wx.cell? ⟨b, off + k * 6 + 4, none⟩ = some (.slice a4 (nth En.z xs k).puts.length k4) ∧ wx.cell? ⟨b, off + k * 6 + 5, none⟩ = some (.int .i64 (nth En.z xs k).from_)) := ⟨by omega, (hxw.cell (p := ⟨b, _, none⟩) hbl).trans c0, (hxw.cell (p := ⟨b, _, none⟩) hbl).trans c1, (hxw.cell (p := ⟨b, _, none⟩) hbl).trans c2, (hxw.cell (p := ⟨b, _, none⟩) hbl).trans c3, (hxw.cell (p := ⟨b, _, none⟩) hbl).trans c4, (hxw.cell (p := ⟨b, _, none⟩) hbl).trans c5⟩
          have H3x : Hid (PusAt wx (.slice a3 (nth En.z xs k).reads.length k3) (nth En.z xs k).reads) := H3.out.mono hxw
          have H4x : Hid (PusAt wx (.slice a4 (nth En.z xs k).puts.length k4) (nth En.z xs k).puts) := H4.out.mono hxw
          have HSR : Hid (g < wx.heap.size ∧ ∀ j u, ((L.take m).flatMap enC)[j]? = some u → wx.cell? ⟨g, j, none⟩ = some u) := ⟨by omega, fun j u hj => by
            rw [hbx.cell (p := ⟨g, _, none⟩) hgl]
            exact take_src HGC.out hj⟩
          have HLL : Hid (((L.take m).flatMap enC).length = m * 6 ∧ ∀ u, u ∈ (L.take m).flatMap enC → u.oneCell' = true) := ⟨by rw [flat_len 6 enC enC_len, List.length_take, Nat.min_eq_left (by omega)], OE.one HO.out (fun x hx => List.mem_of_mem_take hx)⟩
          have HSE : Hid (SmEn (nth En.z xs k)) := HSM.out.2 k hlt
          clear c0 c1 c2 c3 c4 c5 hxw hbx H3 H4
          refine lo_reg8 wx b off xs.length lc g L.length c k m a3 a4 k3 k4 (nth En.z xs k) ((L.take m).flatMap enC) HS0 H3x H4x HSE HSR HLL hlt' (by omega) (by omega) (by omega) (by omega) _ _ _ _ _ _ _ _ _ _ _ _ _ _ _ _ _ _ _ _ _ _ _ _ _ _ _ _ _ _ _ _ _ _ _ _ _ _ _ _ _ _ _ _ _ _ _ ?_
          intro v32 v33 v34 v35 v36 v37 v38 v39 v40 v41 v42 v43 W d u hF
          have HF := (show Hid (MoF _ _ _ _ _ _ _ _) from hF)
          clear hF HS0 H3x H4x HSR HLL HSE
          obtain ⟨a43, k43, e43, h43a, h43b⟩ := own_shape HF.out.r
          subst e43
          have HBW : Hid (Below wo.heap.size wo W) := HBX.out.trans (HF.out.bel.mono hsx)
          have HOW : Hid (∀ j, j < L.length * 6 → W.cell? ⟨g, j, none⟩ = (L.flatMap enC)[j]?) := fun j hj => (HBW.out.cell (p := ⟨g, _, none⟩) hgl).trans (HGC.out j hj)
          have hqc : ((m : Nat) : Int) ≤ (L.length : Int) := by omega
          have hqc0 : (0 : Int) ≤ ((m : Nat) : Int) := by omega
          have hsW := HF.out.bel.size
          have HNX : Hid (∀ (v' : Value) (W' : World), W'.ownsRow wx.heap.size 55 6 v' (m + 1 + (L.length - m)) ((((L.take m).flatMap enC) ++ [.int .i64 (nth En.z xs k).task, .int .i64 (nth En.z xs k).act, .int .i64 (nth En.z xs k).when_, d, u, .int .i64 (nth En.z xs k).from_]) ++ (L.drop m).flatMap enC) → W.grownBy W' (Value.slice a43 (m + 1) k43).ownBlock → OE w.heap.size W' v' ((L.take m ++ [((nth En.z xs k, EV.mk d u) : EE)]) ++ L.drop m) ∧ Below w.heap.size w W') := fun v' W' ho hg => by
            have TK := TagKept.grown HF.out.r hg
            have hbl' : ∀ g', g' < wx.heap.size → W'.heap[g']? = W.heap[g']? := fun g' hg' => hg.block g' (by omega) (fun e => by have := (HF.out.r.lt g' e.symm).1; omega)
            have hkk : ∀ g', g' < wo.heap.size → W'.heap[g']? = wo.heap[g']? := fun g' hg' => (hbl' g' (by omega)).trans (HBW.out.block g' hg')
            refine ⟨OE.ins (x := ((nth En.z xs k, EV.mk d u) : EE)) HO.out (by omega) (by omega) hkk (own_base (by rw [show L.length + 1 = m + 1 + (L.length - m) by omega]; exact ho) (by omega)) (PuR.base (own_tag HF.out.d TK (by decide)) (by omega)) (PuR.base (own_tag HF.out.u TK (by decide)) (by omega)), ?_⟩
            exact (HB.out.trans (HBW.out.mono hbs)).grown hg (by omega) (fun b hb => by have := (HF.out.r.lt b hb).1; omega)
          have HNM : Hid (((L.take m ++ [((nth En.z xs k, EV.mk d u) : EE)]) ++ L.drop m).map (·.1) = ordL (xs.take (k + 1))) := by
            rw [Hid, ordL_next xs hlt, ← HLM.out]
            exact ins_map _ _ L HPE.out
          have HDL : Hid (((L.drop m).flatMap enC).length = (L.length - m) * 6 ∧ ∀ u, u ∈ (L.drop m).flatMap enC → u.oneCell' = true) := ⟨by rw [flat_len 6 enC enC_len, List.length_drop], OE.one HO.out (fun x hx => List.mem_of_mem_drop hx)⟩
          have HDS : Hid (∀ j u, ((L.drop m).flatMap enC)[j]? = some u → W.cell? ⟨g, m * 6 + j, none⟩ = some u) := fun j u hj => drop_src HOW.out hj
          have hR := HF.out.r
          have HR := (show Hid (World.ownsRow _ _ _ _ _ _ _) from hR)
          clear hR HOW HGC HF
          by_cases hend : m = L.length
          case pos =>
            have HDZ : Hid ((L.drop m).flatMap enC = []) := by rw [Hid, List.drop_eq_nil_of_le (by omega)]; rfl
            have HLZ : Hid (L.length - m = 0) := by rw [Hid]; omega
            have HN0 : Hid (∀ (v' : Value) (W' : World), W'.ownsRow wx.heap.size 55 6 v' (L.length + 1) (L.flatMap enC ++ [.int .i64 (nth En.z xs k).task, .int .i64 (nth En.z xs k).act, .int .i64 (nth En.z xs k).when_, d, u, .int .i64 (nth En.z xs k).from_]) → W.grownBy W' (Value.slice a43 (L.length + 1) k43).ownBlock → ∃ LL : List EE, OE w.heap.size W' v' LL ∧ Below w.heap.size w W' ∧ LL.map (·.1) = ordL (xs.take (k + 1))) := fun v' W' ho hg => by
              have h1 := HNX.out v' W' (by rw [HDZ.out, HLZ.out, List.append_nil, hend, List.take_length]; exact ho) (by rw [hend]; exact hg)
              exact ⟨_, h1.1, h1.2, HNM.out⟩
            clear HNX HNM HDZ HLZ HDL HDS HPE
            go_wp2_with (at_builtin; go_loud (refine wpList_append_src rfl _ _ 30 rfl wx.heap.size 55 i0 (.agg #[.int .i64 0, .int .i64 0, .int .i64 0, .slice none 0 0, .slice none 0 0, .int .i64 0]) 6 80 Try.underlying30 hi0 hz0 hz1 hz2 rfl (by decide) _ (m + 1) _ rfl HR.out _ 0 _ [] rfl rfl (.inl rfl) (by simp) (by unfold maxLen; omega) (by omega) (by omega) ?_))
            all_goals
              intro v9 W9 hown9 hgrow9
              obtain ⟨LL, hO9, hB9, hm9⟩ := HN0.out v9 W9 hown9 hgrow9
              have HO9 := (show Hid (OE _ _ _ _) from hO9)
              have HB9 := (show Hid (Below _ _ _) from hB9)
              have HM9 := (show Hid (_ = _) from hm9)
              clear hO9 hB9 hown9 hgrow9 hm9
              go_wp2_with fail
              go_roundw
              case rel => exact ⟨k + 1, LL, by omega, by go_num, HM9, HO9, HB9⟩
              case measure => simp [intOf]; omega
          have hlt3 : ((m : Nat) : Int) < (L.length : Int) := by omega
          go_wp2_with (at_builtin; go_loud (refine wpList_append_src rfl _ _ 30 rfl wx.heap.size 55 i0 (.agg #[.int .i64 0, .int .i64 0, .int .i64 0, .slice none 0 0, .slice none 0 0, .int .i64 0]) 6 80 Try.underlying30 hi0 hz0 hz1 hz2 rfl (by decide) _ (m + 1) _ rfl HR.out _ (L.length - m) _ ((L.drop m).flatMap enC) rfl HDL.out.1 (.inr ⟨⟨g, m * 6, none⟩, rfl, fun j u hj => by rw [Go.WideShapes.add_plain]; exact HDS.out j u hj⟩) HDL.out.2 (by unfold maxLen; omega) (by omega) (by omega) ?_))
          intro v9 W9 hown9 hgrow9
          obtain ⟨hO9, hB9⟩ := HNX.out v9 W9 (by have h1 := hown9; simp only [List.append_assoc, List.cons_append, List.nil_append] at h1 ⊢; exact h1) hgrow9
          have HO9 := (show Hid (OE _ _ _ _) from hO9)
          have HB9 := (show Hid (Below _ _ _) from hB9)
          clear hO9 hB9 hown9 hgrow9
          go_wp2_with fail
          go_roundw
          case rel => exact ⟨k + 1, _, by omega, by go_num, HNM, HO9, HB9⟩
          case measure => simp [intOf]; omega
end Go.Proofs.Ytgbgjljflgbcaaa

namespace Go.Proofs.Ytgbgjljflgbcaaa
open Go.RowKit
set_option linter.unusedSimpArgs false
set_option linter.unusedVariables false
set_option maxRecDepth 20000
set_option maxHeartbeats 8000000 in
theorem awaits_any (X B : Nat) (pc pb : Value) (p : Pr) (s : Sy) (i : Nat) (w : World) (h : SW X B w pc pb p s) (hi : i < s.tasks.length) (hnp : Np p s) (hbd : Bd p s) :
    Calls Try.prog 148 #[.pointer (some ⟨X, 0, none⟩), .int .i64 (i : Int)] w fun r w' => r = .returned (.tuple #[]) ∧ SW X B w' pc pb p (awaitS s i) ∧ FrS (SX X B) w w' := by
  have hpc0 := (hnp.t i hi).pc
  have hpc4 : (tkN s i).pc ≤ 100 := by
    have h2 := (hnp.t i hi).body
    have hf := hnp.ok
    simp only [okB, foB, Bool.and_eq_true, List.all_eq_true, List.mem_range] at hf
    have := hf.1.2 (tkN s i).body.toNat (by omega)
    simp only [boB, Bool.and_eq_true, decide_eq_true_eq] at this
    unfold acts at hpc0
    omega
  have hpc1 := hpc0.1
  have hwr : IntKind.i64.wrap ((tkN s i).pc + 1) = (tkN s i).pc + 1 := by rw [IntKind.wrap_i64]; omega
  have HNP := (show Hid (Np _ _) from hnp)
  have HBD := (show Hid (Bd _ _) from hbd)
  have hl7 : s.tasks.length ≤ 7 := hbd.n7
  clear hpc0 hnp hbd
  obtain ⟨f, cv, g, cap, lv, T, L, V, h1, h2, h3, h4, h5, h6, h7, h8, h9⟩ := h.tk hi
  obtain ⟨a3, c3, a8, c8, a9, c9, a10, c10, rfl⟩ := h7.ti.shapes
  obtain ⟨t0, t1, t2, t3, t4, t5, t6, t7, t8, t9, t10, t11, t12⟩ := h7.cells
  simp only at t3 t8 t9 t10
  have tz := h7.fz
  have hi' : (i : Int) < (s.tasks.length : Int) := by omega
  have hX := h.lt
  have hB := h.le
  have hgB := h7.ge
  have hgl := h7.lt
  have hXl : X < w.heap.size := by omega
  have hXg : X ≠ g := by omega
  have HTI := (show Hid (TIn _ _ _ _ _) from h7.ti)
  have HK := (show Hid (f g = .t ∧ ∀ b, cv.ownBlock = some b → f b = .c) from ⟨h7.key, h1.c.2⟩)
  have HS := (show Hid (SW _ _ _ _ _ _ _) from h)
  clear h1 h2 h3 h7 h8 h9 h
  clear t0 t2 t3 t5 t6 t7 t8 t9 t10 t11 t12
  have HTS := (show Hid (TasAt _ _ _) from HS.out.tas h5)
  go_enter Try.func148, Try.ntmps148
  go_wp2_with fail
  refine (kids_any X s.tasks _ _ i 3 _ h5 HTS.out).mono ?_
  rintro e w1 ⟨rfl, hw⟩
  have hw := hw.symm
  subst hw
  by_cases q : kin s.tasks i 3 = 0
  · have q' : ((kin s.tasks (i : Int) 3 : Nat) : Int) = 0 := by omega
    have q2 : (((kin s.tasks (i : Int) 3 : Nat) : Int) == 0) = true := by simp [q]
    have HF : Hid (awaitS s i = setTk s i { tkN s i with way := 0, pc := (tkN s i).pc + 1 }) := by unfold Hid awaitS; rw [if_pos q]
    clear q q' HTS
    go_wp2_with fail
    go_region
    all_goals
      go_wp2_with fail
      first | go_end0 | ((try simp only [Exit.inBlock, Exit.then]); refine bodyPost_ret (results_none rfl _ _ _) rfl ?_)
      exact ⟨rfl, by rw [HF.out]; exact (HS.out.scs [(4, 0), (1, (tkN s i).pc + 1)] rfl h5 hi).drew, (((FrS.refl _ _).setCell (Or.inr hgB) _).setCell (Or.inr hgB) _).drew⟩
  · have q2 : (((kin s.tasks (i : Int) 3 : Nat) : Int) == 0) = false := by simp; omega
    have HF : Hid (awaitS s i = setTk (kidsS (offS s.tasks.length) s i s.tasks.length) i { tkN (kidsS (offS s.tasks.length) s i s.tasks.length) i with way := 3 }) := by unfold Hid awaitS; rw [if_neg q]
    clear q HTS t1 t4 tz h4 h5 h6 hi' hgB hgl hXl hXg HTI HK
    go_wp2_with fail
    go_loopw [4] (fun q w' => ∃ k : Nat, k ≤ s.tasks.length ∧ q = .int .i64 k ∧ SW X B w' pc pb p (kidsS (offS s.tasks.length) s i k) ∧ FrS (SX X B) w w') (fun q _ => s.tasks.length - (intOf q).toNat)
    case atStart => exact ⟨0, Nat.zero_le _, rfl, by rw [show kidsS (offS s.tasks.length) s i 0 = s from rfl]; exact HS.out, FrS.refl _ _⟩
    case round =>
      obtain ⟨k, hk, rfl, hs, hfr⟩ := hrel
      have hl : (kidsS (offS s.tasks.length) s i k).tasks.length = s.tasks.length := kidsS_len (offS_len _) s i k
      have n1 : Hid (Np p (kidsS (offS s.tasks.length) s i k)) := Np.kids (offS_len _) (fun s k h hk => h.offS _ hk) HNP.out i k hk
      have b1 : Hid (Bd p (kidsS (offS s.tasks.length) s i k)) := HBD.out.mono (Lq.kids (offS_len _) (fun s k h hk => h.offS _ hk) (fun s k h hk => Lq.offS _ h hk) HNP.out i k hk)
      have HE : Hid (kidsS (offS s.tasks.length) s i (k + 1) = if (tkN (kidsS (offS s.tasks.length) s i k) k).up = i then offS s.tasks.length (kidsS (offS s.tasks.length) s i k) k else kidsS (offS s.tasks.length) s i k) := kidsS_succ _ _ _ _
      have HO : Hid (k = s.tasks.length → awaitS s i = setTk (kidsS (offS s.tasks.length) s i k) i { tkN (kidsS (offS s.tasks.length) s i k) i with way := 3 }) := fun e => by rw [HF.out, e]
      have HFR := (show Hid (FrS _ _ _) from hfr)
      clear hfr HS HNP HBD HF
      revert hs hl n1 b1 HE HO
      generalize kidsS (offS s.tasks.length) s i k = s1
      intro hs hl n1 b1 HE HO
      have hi1 : i < s1.tasks.length := by omega
      by_cases hlt : k < s.tasks.length
      · have hk1 : k < s1.tasks.length := by omega
        have hk1' : (k : Int) < (s1.tasks.length : Int) := by omega
        obtain ⟨f, cv, g, cap, lv, T, L, V, h1, h2, h3, h4, h5, h6, h7, h8, h9⟩ := hs.tk hk1
        obtain ⟨a3, c3, a8, c8, a9, c9, a10, c10, rfl⟩ := h7.ti.shapes
        obtain ⟨t0, t1, t2, t3, t4, t5, t6, t7, t8, t9, t10, t11, t12⟩ := h7.cells
        simp only at t3 t8 t9 t10
        have tz := h7.fz
        have hi' : (i : Int) < (s1.tasks.length : Int) := by omega
        have hX := hs.lt
        have hB := hs.le
        have hgB := h7.ge
        have hgl := h7.lt
        have hXl : X < wr.heap.size := by omega
        have hXg : X ≠ g := by omega
        have HTI := (show Hid (TIn _ _ _ _ _) from h7.ti)
        have HK := (show Hid (f g = .t ∧ ∀ b, cv.ownBlock = some b → f b = .c) from ⟨h7.key, h1.c.2⟩)
        have HS := (show Hid (SW _ _ _ _ _ _ _) from hs)
        clear h1 h2 h3 h7 h8 h9 hs
        clear t0 t1 t3 t4 t5 t6 t7 t8 t9 t10 t11 t12
        have hwk : IntKind.i64.wrap ((k : Int) + 1) = (k : Int) + 1 := by rw [IntKind.wrap_i64]; omega
        by_cases qu : (tkN s1 k).up = (i : Int)
        · have qu' : ((tkN s1 k).up == (i : Int)) = true := by simp [qu]
          have QU := (show Hid (_ = _) from qu)
          clear qu
          go_wp2_with fail
          refine (off_any X B pc pb p s.tasks.length s1 k _ HS.out hk1 n1.out b1.out (by omega)).mono ?_
          rintro e w2 ⟨rfl, hs2, hf2⟩
          have HS2 := (show Hid (SW _ _ _ _ _ _ _) from hs2)
          have HF2 : Hid (FrS (SX X B) w w2) := HFR.out.trans hf2
          clear hs2 hf2
          go_wp2_with fail
          go_roundw
          case rel => exact ⟨k + 1, by omega, by go_num, by rw [HE.out, if_pos QU.out]; exact HS2.out, HF2.out⟩
          case measure => simp [intOf]; omega
        · have qu' : ((tkN s1 k).up == (i : Int)) = false := by simp [qu]
          have QU := (show Hid (¬ _) from qu)
          clear qu
          go_wp2_with fail
          go_roundw
          case rel => exact ⟨k + 1, by omega, by go_num, by rw [HE.out, if_neg QU.out]; exact HS.out, HFR.out⟩
          case measure => simp [intOf]; omega
      · have HO1 : Hid (awaitS s i = setTk s1 i { tkN s1 i with way := 3 }) := HO.out (by omega)
        have hk2 : ¬ (k : Int) < (s1.tasks.length : Int) := by omega
        clear HE HO
        obtain ⟨f, cv, g, cap, lv, T, L, V, h1, h2, h3, h4, h5, h6, h7, h8, h9⟩ := hs.tk hi1
        obtain ⟨a3, c3, a8, c8, a9, c9, a10, c10, rfl⟩ := h7.ti.shapes
        obtain ⟨t0, t1, t2, t3, t4, t5, t6, t7, t8, t9, t10, t11, t12⟩ := h7.cells
        simp only at t3 t8 t9 t10
        have tz := h7.fz
        have hi' : (i : Int) < (s1.tasks.length : Int) := by omega
        have hX := hs.lt
        have hB := hs.le
        have hgB := h7.ge
        have hgl := h7.lt
        have hXl : X < wr.heap.size := by omega
        have hXg : X ≠ g := by omega
        have HTI := (show Hid (TIn _ _ _ _ _) from h7.ti)
        have HK := (show Hid (f g = .t ∧ ∀ b, cv.ownBlock = some b → f b = .c) from ⟨h7.key, h1.c.2⟩)
        have HS := (show Hid (SW _ _ _ _ _ _ _) from hs)
        clear h1 h2 h3 h7 h8 h9 hs
        clear t0 t1 t2 t3 t4 t5 t6 t7 t8 t9 t10 t11 t12
        go_wp2_with fail
        refine (fails_any X B pc pb p s1 i _ HS.out hi1).mono ?_
        rintro e w2 ⟨rfl, hs2, hf2⟩
        have HS2 := (show Hid (SW _ _ _ _ _ _ _) from hs2)
        have HF2 : Hid (FrS (SX X B) w w2) := HFR.out.trans hf2
        clear hs2 hf2
        go_wp2_with fail
        first | go_end0 | ((try simp only [Exit.inBlock, Exit.then]); refine bodyPost_ret (results_none rfl _ _ _) rfl ?_)
        exact ⟨rfl, by rw [HO1.out]; exact HS2.out, HF2.out⟩
end Go.Proofs.Ytgbgjljflgbcaaa
