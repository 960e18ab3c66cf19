/- What the pruned base of the six laws lacks for the laws of LogReal (for their claims alone). -/
import Derived.Test.YtnbgonmdjgapnaaBase32
import Derived.Test.YtnbgonmdjgapnaaBase03
import Derived.Test.YtnbgonmdjgapnaaBaseL
namespace Go.Proofs.Ytnbgonmdjgapnaa
open Go.RowKit

theorem EnsOn.shape {S : Nat → Prop} {w : World} {v : Value} {xs : List En} (h : EnsOn S w v xs) : ∃ a cap, v = .slice a xs.length cap ∧ xs.length ≤ 9223372036854775807 := h.at.shape
theorem rnd_inx {p : Pr} (f : Nat) {s : Sy} {i m : Nat} {b : Bool} (h : Inx p s) : Inx p (rndS p f s i m b).1 := by
  induction f generalizing s i m b with
  | zero => exact h
  | succ f ih =>
    rw [rndS]
    split
    · split
      · exact ih (h.do i)
      · exact ih h
    · exact h
theorem Inx.rest {p : Pr} {s : Sy} (h : Inx p s) (m : Nat) : Inx p (restS p s m) := by
  induction m using Nat.strongRecOn generalizing s with
  | _ m ih =>
    rcases Nat.eq_zero_or_pos m with h0 | h0
    · subst h0; rw [restS_zero]; exact h
    · cases e : (rndS p 8 s 0 m false).2.2
      · rw [restS_none h0 e]; exact rnd_inx 8 h
      · rw [restS_some h0 e]
        exact ih _ ((rnd_most (p := p) 8 (s := s) (i := 0) (m := m) (b := false)).2 rfl e) (rnd_inx 8 h)
theorem OwnS.tblock {B : Nat} {w : World} {c t l : Value} {s : Sy} (h : OwnS B w c t l s) (hn : 0 < s.tasks.length) : ∃ g cap, t = .slice (some ⟨g, 0, none⟩) s.tasks.length cap ∧ B ≤ g ∧ g < w.heap.size ∧ (∀ o, w.frozen? ⟨g, o, none⟩ = false) ∧ ∀ j, j < s.tasks.length * 13 → ∃ u, w.cell? ⟨g, j, none⟩ = some u := by
  obtain ⟨f, T, L, h, hT, hL⟩ := h
  have hTl : T.length = s.tasks.length := by rw [← hT]; simp
  obtain ⟨g, cap, e, h1, h2, h3, h4, h5, h6, h7⟩ := row_cells h.t (by omega) (by omega)
  have hl := flat_len 13 taC taC_len T
  refine ⟨g, cap, by rw [e, hTl], h1, h2, h7, fun j hj => ?_⟩
  rw [← hTl, ← hl] at hj
  exact ⟨_, (h6 j hj).trans (List.getElem?_eq_getElem hj)⟩

end Go.Proofs.Ytnbgonmdjgapnaa
