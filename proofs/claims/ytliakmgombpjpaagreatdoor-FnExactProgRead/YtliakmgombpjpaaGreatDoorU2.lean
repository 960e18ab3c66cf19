/-
  The model cuts a text at a byte.
-/
import Derived.Test.YtliakmgombpjpaaGreatDoorU1
namespace Go.Proofs.YtliakmgombpjpaaGreatDoor
open Go.RowKit
set_option linter.unusedSimpArgs false
set_option linter.unusedVariables false

theorem splC_last (c : UInt8) : ∀ l : List UInt8, ∃ o y, splC c l = o ++ [y] ∧ splC c (l ++ [c]) = o ++ [y, []] ∧ ∀ x, x ≠ c → splC c (l ++ [x]) = o ++ [y ++ [x]] := by
  intro l
  induction l with
  | nil => exact ⟨[], [], rfl, by simp [splC], fun x hx => by simp [splC, hx]⟩
  | cons a l ih =>
    obtain ⟨o, y, h1, h2, h3⟩ := ih
    by_cases ha : a = c
    · refine ⟨[] :: o, y, by rw [splC_step, if_pos ha, h1]; rfl, by rw [List.cons_append, splC_step, if_pos ha, h2]; rfl, fun x hx => by rw [List.cons_append, splC_step, if_pos ha, h3 x hx]; rfl⟩
    · cases o with
      | nil =>
        refine ⟨[], a :: y, by rw [splC_step, if_neg ha, h1]; rfl, by rw [List.cons_append, splC_step, if_neg ha, h2]; rfl, fun x hx => by rw [List.cons_append, splC_step, if_neg ha, h3 x hx]; rfl⟩
      | cons b o =>
        refine ⟨(a :: b) :: o, y, by rw [splC_step, if_neg ha, h1]; rfl, by rw [List.cons_append, splC_step, if_neg ha, h2]; rfl, fun x hx => by rw [List.cons_append, splC_step, if_neg ha, h3 x hx]; rfl⟩
/-- how far a text is cut -/
def Cut (c : UInt8) (l : List UInt8) (k f : Nat) (o : List (List UInt8)) : Prop := f ≤ k ∧ k ≤ l.length ∧ splC c (l.take k) = o ++ [(l.take k).drop f]
theorem Cut.start (c : UInt8) (l : List UInt8) : Cut c l 0 0 [] := ⟨Nat.le_refl _, Nat.zero_le _, by simp [splC]⟩
theorem Cut.hit {c : UInt8} {l : List UInt8} {k f : Nat} {o : List (List UInt8)} (h : Cut c l k f o) (hk : k < l.length) (hc : l[k] = c) : Cut c l (k + 1) (k + 1) (o ++ [(l.take k).drop f]) := by
  refine ⟨Nat.le_refl _, hk, ?_⟩
  obtain ⟨o', y, h1, h2, _⟩ := splC_last c (l.take k)
  rw [h.2.2] at h1
  have e := List.append_inj' h1 rfl
  rw [List.take_succ_eq_append_getElem hk, hc, h2]
  have h4 : (l.take k).drop f = y := by simpa using e.2
  rw [e.1, h4]
  have hl : (l.take k).length = k := by simp; omega
  simp [hl]
theorem Cut.pass {c : UInt8} {l : List UInt8} {k f : Nat} {o : List (List UInt8)} (h : Cut c l k f o) (hk : k < l.length) (hc : l[k] ≠ c) : Cut c l (k + 1) f o := by
  refine ⟨by have := h.1; omega, hk, ?_⟩
  obtain ⟨o', y, h1, _, h3⟩ := splC_last c (l.take k)
  rw [h.2.2] at h1
  have e := List.append_inj' h1 rfl
  have h4 : (l.take k).drop f = y := by simpa using e.2
  rw [List.take_succ_eq_append_getElem hk, h3 _ hc, ← e.1, ← h4, List.drop_append_of_le_length (by have := h.1; simp; omega)]
theorem Cut.fin {c : UInt8} {l : List UInt8} {f : Nat} {o : List (List UInt8)} (h : Cut c l l.length f o) : splC c l = o ++ [l.drop f] := by
  have := h.2.2
  rwa [List.take_length] at this
theorem Cut.len {c : UInt8} {l : List UInt8} {k f : Nat} {o : List (List UInt8)} (h : Cut c l k f o) : o.length ≤ k := by
  have h1 := (splC_len c (l.take k)).1
  rw [h.2.2] at h1
  simp at h1
  omega

def OwnStr (B : Nat) (w : World) (v : Value) (ws : List (List UInt8)) : Prop := w.ownsRow B 9 1 v ws.length (ws.map fun x => Value.string (bs x))
theorem OwnStr.at {B : Nat} {w : World} {v : Value} {ws : List (List UInt8)} (h : OwnStr B w v ws) : StrsAt w v ws := by
  obtain ⟨a, cap, e, h1, h2⟩ := own_shape h
  refine ⟨a, cap, e, ⟨h1, h2⟩, fun i hi => ?_⟩
  rcases h.2 with ⟨_, h0⟩ | ⟨g, cap', cur, e', hb, hg, _⟩
  · omega
  · rw [e] at e'
    injection e' with e1 e2 e3
    subst e1
    refine ⟨g, 0, rfl, (Array.getElem?_eq_some_iff.1 hg).1, ?_⟩
    rw [Nat.zero_add]
    have := World.ownsRow.cells h (g := g) (by rw [e]; rfl) i (.string (bs (nth [] ws i))) (by
      rw [List.getElem?_map, List.getElem?_eq_getElem hi, nth_eq [] ws i hi]; rfl)
    rwa [Go.WideShapes.add_plain, Nat.zero_add] at this

theorem info_stringU : (Tryz.prog.info? 9).map (fun i => (i.zero, i.size, i.bytes)) = some (some (.string ⟨#[]⟩), 1, 16) := by kernel_rfl

theorem ex_bs (s : ByteArray) (f k : Nat) : s.extract f k = bs ((s.data.toList.take k).drop f) := by
  apply ByteArray.ext
  rw [ByteArray.data_extract]
  apply Array.ext'
  simp [bs, List.extract, List.drop_take]
set_option maxRecDepth 20000 in
set_option maxHeartbeats 1000000 in
theorem l1Split_any (s : ByteArray) (c : UInt8) (w : World) (hs : s.size ≤ 1048576) :
    Calls Tryz.prog 30 #[.string s, .int .u8 (c.toNat : Int)] w fun e w' => ∃ v', e = .returned v' ∧ OwnStr w.heap.size w' v' (splC c s.data.toList) ∧ Below w.heap.size w w' := by
  obtain ⟨i0, hi, hz0, hz1, hz2⟩ := info_parts info_stringU
  have hsl : s.data.toList.length = s.size := by simp
  go_enter Tryz.func30, Tryz.ntmps30
  go_wp2_with fail
  go_loopw [5, 6, 7] (fun o f q w' => ∃ (k fr : Nat) (os : List (List UInt8)), q = .int .i64 k ∧ f = .int .i64 fr ∧ Cut c s.data.toList k fr os ∧ OwnStr w.heap.size w' o os ∧ Below w.heap.size w w') (fun _ _ q _ => s.size - (intOf q).toNat)
  case atStart => exact ⟨0, 0, [], rfl, rfl, Cut.start _ _, World.ownsRow_made w #[] 0 (Nat.le_refl _) (by unfold maxLen; omega) (by simp), (Below.refl _ _).alloc (Nat.le_refl _) _⟩
  case round =>
    obtain ⟨k, fr, os, rfl, rfl, hcut, hown, hb⟩ := hrel
    have HC := (show Hid (Cut _ _ _ _ _) from hcut)
    have HO := (show Hid (OwnStr _ _ _ _) from hown)
    have HB := (show Hid (Below _ _ _) from hb)
    have hsz := hb.size
    have hfk : fr ≤ k := hcut.1
    have hks : k ≤ s.size := by have := hcut.2.1; omega
    have hol := hcut.len
    clear hcut hown hb
    by_cases hlt : k < s.size
    · have hlt' : (k : Int) < (s.size : Int) := by omega
      have hget : ∀ h : k < s.data.toList.length, s.data.toList[k] = s[k]'hlt := fun h => by simp; rfl
      by_cases hc : s[k]'hlt = c
      · have hc' : (((s[k]'hlt).toNat : Int) == (c.toNat : Int)) = true := by simp [hc]
        have HC2 : Hid (Cut c s.data.toList (k + 1) (k + 1) (os ++ [(s.data.toList.take k).drop fr])) := HC.out.hit (by omega) (by rw [hget]; exact hc)
        have HE : Hid (s.extract fr k = bs ((s.data.toList.take k).drop fr)) := ex_bs s fr k
        clear hget hc
        go_wp2_with (at_builtin; refine wpList_append_own _ rfl _ _ 56 rfl w.heap.size 9 i0 (.string ⟨#[]⟩) 1 16 Tryz.underlying56 hi hz0 hz1 hz2 rfl (by decide) _ _ _ rfl (World.ownsRow.alloc HO.out _) ⟨wr.heap.size, 0, none⟩ 1 1 [.string (s.extract fr k)] rfl rfl ?a1 ?a2 ?a3 ?a4 ?a5 ?_)
        case a1 =>
          intro j u hj
          match j, hj with
          | 0, hj => simp at hj; subst hj; simp [Addr.add]
        case a2 => intro u hu; simp at hu; subst hu; rfl
        case a3 => unfold maxLen; omega
        case a4 => omega
        case a5 => simp; omega
        intro v' w4 hown' hgrow _
        have HO4 : Hid (OwnStr w.heap.size w4 v' (os ++ [(s.data.toList.take k).drop fr])) := by
          unfold Hid OwnStr; rw [List.map_append, List.length_append, List.map_cons, List.map_nil, ← HE.out]; exact hown'
        have HB4 : Hid (Below w.heap.size w w4) := (HB.out.alloc hsz _).grown hgrow (by simp; omega) (fun g hg => (HO.out.lt g hg).1)
        clear hown' hgrow HO HB
        go_wp2_with fail
        go_roundw
        case rel => exact ⟨k + 1, k + 1, _, by go_num, by go_num, HC2.out, HO4.out, HB4.out⟩
        case measure => simp [intOf]; omega
      · have hc' : (((s[k]'hlt).toNat : Int) == (c.toNat : Int)) = false := by
          have : (s[k]'hlt).toNat ≠ c.toNat := fun e => hc (UInt8.toNat_inj.1 e)
          simp; omega
        have HC2 : Hid (Cut c s.data.toList (k + 1) fr os) := HC.out.pass (by omega) (by rw [hget]; exact hc)
        clear hget hc
        go_wp2_with fail
        go_roundw
        case rel => exact ⟨k + 1, fr, os, by go_num, rfl, HC2.out, HO.out, HB.out⟩
        case measure => simp [intOf]; omega
    · have hlt' : ¬ (k : Int) < (s.size : Int) := by omega
      have hke : k = s.size := by omega
      have HC2 : Hid (splC c s.data.toList = os ++ [s.data.toList.drop fr]) := by
        have h1 := HC.out
        rw [hke, ← hsl] at h1
        exact h1.fin
      have HE : Hid (s.extract fr s.size = bs (s.data.toList.drop fr)) := by
        have := ex_bs s fr s.size
        rw [show s.data.toList.take s.size = s.data.toList by rw [← hsl, List.take_length]] at this
        exact this
      have hfs : fr ≤ s.size := by omega
      clear hke HC
      go_wp2_with (at_builtin; refine wpList_append_own _ rfl _ _ 56 rfl w.heap.size 9 i0 (.string ⟨#[]⟩) 1 16 Tryz.underlying56 hi hz0 hz1 hz2 rfl (by decide) _ _ _ rfl (World.ownsRow.alloc HO.out _) ⟨wr.heap.size, 0, none⟩ 1 1 [.string (s.extract fr s.size)] rfl rfl (fun j u hj => by match j, hj with | 0, hj => simp at hj; subst hj; simp [Addr.add]) ?b2 ?b3 ?b4 ?b5 ?_)
      case b2 => first | rfl | (intro u hu; simp at hu; subst hu; rfl)
      case b3 => unfold maxLen; omega
      case b4 => omega
      case b5 => first | exact hsz | omega | (simp; omega)
      intro v' w4 hown' hgrow _
      have HO4 : Hid (OwnStr w.heap.size w4 v' (splC c s.data.toList)) := by
        unfold Hid OwnStr; rw [HC2.out, List.map_append, List.length_append, List.map_cons, List.map_nil, ← HE.out]; exact hown'
      have HB4 : Hid (Below w.heap.size w w4) := (HB.out.alloc hsz _).grown hgrow (by simp; omega) (fun g hg => (HO.out.lt g hg).1)
      clear hown' hgrow HO HB
      obtain ⟨a4, k4, rfl, _⟩ := own_shape HO4.out
      go_wp2_with fail
      go_ret
      exact ⟨_, rfl, HO4.out, HB4.out⟩

end Go.Proofs.YtliakmgombpjpaaGreatDoor
