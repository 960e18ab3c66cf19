import Derived.Test.YtgbgjljflgbcaaaXn26
import Derived.Deep.QuietTactic
import Derived.BigQuiet
import Derived.Deep.RegionWith
import Derived.Test.YtgbgjljflgbcaaaXn24
import Derived.Deep.Upon
import Derived.Deep.AppendLies
import Derived.Handy
import Derived.BigRegion
import Derived.Laws.ResultCell
import Derived.Deep.LoopGhost
import Derived.Test.YtgbgjljflgbcaaaXn33
import Derived.Test.YtgbgjljflgbcaaaXn34
namespace Go.Proofs.Ytgbgjljflgbcaaa
open Go.RowKit
set_option linter.unusedSimpArgs false
set_option linter.unusedVariables false
set_option maxRecDepth 20000
theorem iR_sh {f : Nat → Key} {κ : Key} {B : Nat} {w : World} {v : Value} {xs : List Int} (h : iR f κ B w v xs) : RowSh 1 w v := own_rowShW h.1 (by omega) fun x hx => by
  obtain ⟨z, _, rfl⟩ := List.mem_map.1 hx
  exact ⟨z, rfl⟩
theorem pR_sh {f : Nat → Key} {κ : Key} {B : Nat} {w : World} {v : Value} {xs : List Pu} (h : pR f κ B w v xs) : RowSh 2 w v := own_rowShW h.1 (by omega) fun x hx => by
  obtain ⟨y, _, hy⟩ := List.mem_flatMap.1 hx
  simp only [puC, List.mem_cons, List.not_mem_nil, or_false] at hy
  rcases hy with rfl | rfl <;> exact ⟨_, rfl⟩
abbrev Z4v : Value × Value × Value × Value := (.slice none 0 0, .slice none 0 0, .slice none 0 0, .slice none 0 0)
abbrev Z2v : Value × Value := (.slice none 0 0, .slice none 0 0)
def tvv (x : TT) : Value × Value × Value × Value := (x.2.r, x.2.o, x.2.d, x.2.u)
def evv (x : EE) : Value × Value := (x.2.d, x.2.u)
theorem OwnSy.csh {f : Nat → Key} {B : Nat} {w : World} {cv tv lv : Value} {cs : List Ce} {T : List TT} {L : List EE} (h : OwnSy f B w cv tv lv cs T L) : RowSh 3 w cv := own_rowShW h.c.1 (by omega) fun x hx => by
  obtain ⟨y, _, hy⟩ := List.mem_flatMap.1 hx
  simp only [ceC, List.mem_cons, List.not_mem_nil, or_false] at hy
  rcases hy with rfl | rfl | rfl <;> exact ⟨_, rfl⟩
theorem OwnSy.tsh {f : Nat → Key} {B : Nat} {w : World} {cv tv lv : Value} {cs : List Ce} {T : List TT} {L : List EE} (h : OwnSy f B w cv tv lv cs T L) : TasSh w tv (T.map tvv) := by
  obtain ⟨a, c, e, h1, h2⟩ := own_shape h.t.1
  refine ⟨a, c, by rw [List.length_map]; exact e, by rw [List.length_map]; omega, fun i hi => ?_⟩
  rw [List.length_map] at hi
  obtain ⟨g, c', e', hg, hc⟩ := own_allW h.t.1 (by rw [flat_len 13 taC taC_len]; omega)
  rw [e] at e'
  injection e' with e1 e2 e3
  have hcc : ∀ j, j < 13 → w.cell? ⟨g, i * 13 + j, none⟩ = (taC (nth TT.z T i))[j]? ∧ w.frozen? ⟨g, i * 13 + j, none⟩ = false := fun j hj => by
    have hlt : i * 13 + j < (T.flatMap taC).length := by rw [flat_len 13 taC taC_len]; have : (i + 1) * 13 ≤ T.length * 13 := Nat.mul_le_mul_right _ hi; omega
    obtain ⟨k1, k2⟩ := hc _ hlt
    exact ⟨k1.trans (flat_at 13 taC taC_len TT.z j hj T i hi), k2⟩
  have hti := h.ti i hi
  rw [map_nth tvv TT.z Z4v T i hi]
  have K : ∀ j, j < 13 → ∀ z, (taC (nth TT.z T i))[j]? = some (.int .i64 z) → ICell w ⟨g, i * 13 + j, none⟩ := fun j hj z hz => ⟨⟨z, (hcc j hj).1.trans hz⟩, (hcc j hj).2⟩
  refine ⟨g, 0, e1, hg, ?_, ?_, ?_, ?_, ?_, ?_, ?_, ?_, ?_, ?_, ?_, ?_, ?_, iR_sh hti.r, iR_sh hti.o, pR_sh hti.d, pR_sh hti.u⟩ <;> rw [Nat.zero_add]
  · exact K 0 (by omega) _ rfl
  · exact K 1 (by omega) _ rfl
  · exact K 2 (by omega) _ rfl
  · exact (hcc 3 (by omega)).1
  · exact K 4 (by omega) _ rfl
  · exact K 5 (by omega) _ rfl
  · exact K 6 (by omega) _ rfl
  · exact K 7 (by omega) _ rfl
  · exact (hcc 8 (by omega)).1
  · exact (hcc 9 (by omega)).1
  · exact (hcc 10 (by omega)).1
  · exact K 11 (by omega) _ rfl
  · exact K 12 (by omega) _ rfl
theorem OwnSy.esh {f : Nat → Key} {B : Nat} {w : World} {cv tv lv : Value} {cs : List Ce} {T : List TT} {L : List EE} (h : OwnSy f B w cv tv lv cs T L) : EnsSh w lv (L.map evv) := by
  obtain ⟨a, c, e, h1, h2⟩ := own_shape h.l.1
  refine ⟨a, c, by rw [List.length_map]; exact e, by rw [List.length_map]; omega, fun i hi => ?_⟩
  rw [List.length_map] at hi
  obtain ⟨g, c', e', hg, hc⟩ := own_allW h.l.1 (by rw [flat_len 6 enC enC_len]; omega)
  rw [e] at e'
  injection e' with e1 e2 e3
  have hcc : ∀ j, j < 6 → w.cell? ⟨g, i * 6 + j, none⟩ = (enC (nth EE.z L i))[j]? ∧ w.frozen? ⟨g, i * 6 + j, none⟩ = false := fun j hj => by
    have hlt : i * 6 + j < (L.flatMap enC).length := by rw [flat_len 6 enC enC_len]; have : (i + 1) * 6 ≤ L.length * 6 := Nat.mul_le_mul_right _ hi; omega
    obtain ⟨k1, k2⟩ := hc _ hlt
    exact ⟨k1.trans (flat_at 6 enC enC_len EE.z j hj L i hi), k2⟩
  have hli := h.li i hi
  rw [map_nth evv EE.z Z2v L i hi]
  have K : ∀ j, j < 6 → ∀ z, (enC (nth EE.z L i))[j]? = some (.int .i64 z) → ICell w ⟨g, i * 6 + j, none⟩ := fun j hj z hz => ⟨⟨z, (hcc j hj).1.trans hz⟩, (hcc j hj).2⟩
  refine ⟨g, 0, e1, hg, ?_, ?_, ?_, ?_, ?_, ?_, pR_sh hli.d, pR_sh hli.u⟩ <;> rw [Nat.zero_add]
  · exact K 0 (by omega) _ rfl
  · exact K 1 (by omega) _ rfl
  · exact K 2 (by omega) _ rfl
  · exact (hcc 3 (by omega)).1
  · exact (hcc 4 (by omega)).1
  · exact K 5 (by omega) _ rfl
theorem Row.blk {f : Nat → Key} {κ : Key} {B : Nat} {w : World} {e : TypeId} {size : Nat} {v : Value} {n : Nat} {xs : List Value} (h : Row f κ B w e size v n xs) (m : Nat) : ∀ p, p ∈ trR m v → f p.block = κ ∧ B ≤ p.block := by
  intro p hp
  have hb : v.ownBlock = some p.block := by
    rcases h.1.2 with ⟨rfl, _⟩ | ⟨g, cap, cur, rfl, _⟩
    · simp [trR] at hp
    · simp only [trR] at hp
      obtain ⟨j, hj, rfl⟩ := rowT_mem.1 hp
      rfl
  exact ⟨h.2 _ hb, (h.1.lt _ hb).1⟩
theorem Row.trlen {f : Nat → Key} {κ : Key} {B : Nat} {w : World} {e : TypeId} {size : Nat} {v : Value} {n : Nat} {xs : List Value} (h : Row f κ B w e size v n xs) (m : Nat) : (trR m v).length ≤ n * m := by
  obtain ⟨a, cap, rfl, _, _⟩ := own_shape h.1
  rcases a with _ | ⟨b, off, _ | s⟩ <;> simp [trR, rowT_len]
theorem nodup_app {α : Type} {A C : List α} (hA : A.Nodup) (hC : C.Nodup) (h : ∀ a, a ∈ A → a ∉ C) : (A ++ C).Nodup :=
  List.nodup_append.2 ⟨hA, hC, fun x hx y hy e => h x hx (e ▸ hy)⟩
theorem nodup_parts {α : Type} (φ : α → Nat) : ∀ (Ls : List (List α)) (k : Nat), (∀ A, A ∈ Ls → A.Nodup) → (∀ j A, Ls[j]? = some A → ∀ p, p ∈ A → φ p = k + j) → Ls.flatten.Nodup ∧ ∀ p, p ∈ Ls.flatten → k ≤ φ p := by
  intro Ls
  induction Ls with
  | nil => intro k _ _; exact ⟨List.nodup_nil, fun p hp => by simp at hp⟩
  | cons A Ls ih =>
    intro k h1 h2
    obtain ⟨i1, i2⟩ := ih (k + 1) (fun B hB => h1 B (by simp [hB])) (fun j B hj p hp => by have := h2 (j + 1) B (by simpa using hj) p hp; omega)
    have h0 : ∀ p, p ∈ A → φ p = k := fun p hp => h2 0 A (by simp) p hp
    rw [List.flatten_cons]
    refine ⟨nodup_app (h1 A (by simp)) i1 fun a ha hb => ?_, fun p hp => ?_⟩
    · have := h0 a ha; have := i2 a hb; omega
    · rcases List.mem_append.1 hp with h | h
      · exact Nat.le_of_eq (h0 p h).symm
      · have := i2 p h; omega
def inTa : Key → Nat → Nat
  | .t, o => o % 13
  | .r _, _ => 3
  | .o _, _ => 8
  | .d _, _ => 9
  | .u _, _ => 10
  | _, _ => 0
def ofTa : Key → Nat → Nat
  | .t, o => o / 13
  | .r i, _ => i
  | .o i, _ => i
  | .d i, _ => i
  | .u i, _ => i
  | _, _ => 0
def isTa : Key → Bool
  | .t => true
  | .r _ => true
  | .o _ => true
  | .d _ => true
  | .u _ => true
  | _ => false
def inEn : Key → Nat → Nat
  | .l, o => o % 6
  | .ed _, _ => 3
  | .eu _, _ => 4
  | _, _ => 0
def ofEn : Key → Nat → Nat
  | .l, o => o / 6
  | .ed i, _ => i
  | .eu i, _ => i
  | _, _ => 0
def isEn : Key → Bool
  | .l => true
  | .ed _ => true
  | .eu _ => true
  | _ => false
theorem mtTa_parts (b o : Nat) (d : Value × Value × Value × Value) : mtTa b o d = [[⟨b, o, none⟩], [⟨b, o + 1, none⟩], [⟨b, o + 2, none⟩], trR 1 d.1, [⟨b, o + 4, none⟩], [⟨b, o + 5, none⟩], [⟨b, o + 6, none⟩], [⟨b, o + 7, none⟩], trR 1 d.2.1, trR 2 d.2.2.1, trR 2 d.2.2.2, [⟨b, o + 11, none⟩], [⟨b, o + 12, none⟩]].flatten := by
  simp [mtTa]
theorem mtEn_parts (b o : Nat) (d : Value × Value) : mtEn b o d = [[⟨b, o, none⟩], [⟨b, o + 1, none⟩], [⟨b, o + 2, none⟩], trR 2 d.1, trR 2 d.2, [⟨b, o + 5, none⟩]].flatten := by
  simp [mtEn]
theorem mtTa_nodup {f : Nat → Key} {B : Nat} {w : World} {i g : Nat} {x : TT} (h : TIn f B w i x) (hg : f g = .t) (hB : B ≤ g) :
    (mtTa g (i * 13) (tvv x)).Nodup ∧ ∀ p, p ∈ mtTa g (i * 13) (tvv x) → ofTa (f p.block) p.off = i ∧ isTa (f p.block) = true ∧ B ≤ p.block := by
  have k1 := h.r.blk 1
  have k2 := h.o.blk 1
  have k3 := h.d.blk 2
  have k4 := h.u.blk 2
  constructor
  · rw [mtTa_parts]
    refine (nodup_parts (fun p => inTa (f p.block) p.off) _ 0 ?_ ?_).1
    · intro A hA
      simp only [List.mem_cons, List.not_mem_nil, or_false] at hA
      rcases hA with rfl | rfl | rfl | rfl | rfl | rfl | rfl | rfl | rfl | rfl | rfl | rfl | rfl <;> first | exact trR_nodup _ _ | simp
    · intro j A hj p hp
      rcases j with _ | _ | _ | _ | _ | _ | _ | _ | _ | _ | _ | _ | _ | j
      case succ.succ.succ.zero => injection hj with hj; subst hj; simp only [(k1 p hp).1, inTa]
      case succ.succ.succ.succ.succ.succ.succ.succ.zero => injection hj with hj; subst hj; simp only [(k2 p hp).1, inTa]
      case succ.succ.succ.succ.succ.succ.succ.succ.succ.zero => injection hj with hj; subst hj; simp only [(k3 p hp).1, inTa]
      case succ.succ.succ.succ.succ.succ.succ.succ.succ.succ.zero => injection hj with hj; subst hj; simp only [(k4 p hp).1, inTa]
      case succ.succ.succ.succ.succ.succ.succ.succ.succ.succ.succ.succ.succ => simp at hj
      all_goals
        injection hj with hj
        subst hj
        rw [List.mem_singleton] at hp
        subst hp
        simp only [hg, inTa]
        omega
  · intro p hp
    simp only [mtTa, List.mem_append, List.mem_singleton] at hp
    have q : ∀ j, j < 13 → p = ⟨g, i * 13 + j, none⟩ → ofTa (f p.block) p.off = i ∧ isTa (f p.block) = true ∧ B ≤ p.block := by
      rintro j hj rfl
      refine ⟨?_, ?_, hB⟩ <;> simp only [hg, ofTa, isTa]
      omega
    rcases hp with hp | hp | hp | hp | hp | hp | hp | hp | hp | hp | hp | hp | hp
    · exact q 0 (by omega) hp
    · exact q 1 (by omega) hp
    · exact q 2 (by omega) hp
    · obtain ⟨a, b⟩ := k1 p hp; exact ⟨by rw [a]; rfl, by rw [a]; rfl, b⟩
    · exact q 4 (by omega) hp
    · exact q 5 (by omega) hp
    · exact q 6 (by omega) hp
    · exact q 7 (by omega) hp
    · obtain ⟨a, b⟩ := k2 p hp; exact ⟨by rw [a]; rfl, by rw [a]; rfl, b⟩
    · obtain ⟨a, b⟩ := k3 p hp; exact ⟨by rw [a]; rfl, by rw [a]; rfl, b⟩
    · obtain ⟨a, b⟩ := k4 p hp; exact ⟨by rw [a]; rfl, by rw [a]; rfl, b⟩
    · exact q 11 (by omega) hp
    · exact q 12 (by omega) hp
theorem mtEn_nodup {f : Nat → Key} {B : Nat} {w : World} {i g : Nat} {x : EE} (h : EIn f B w i x) (hg : f g = .l) (hB : B ≤ g) :
    (mtEn g (i * 6) (evv x)).Nodup ∧ ∀ p, p ∈ mtEn g (i * 6) (evv x) → ofEn (f p.block) p.off = i ∧ isEn (f p.block) = true ∧ B ≤ p.block := by
  have k3 := h.d.blk 2
  have k4 := h.u.blk 2
  constructor
  · rw [mtEn_parts]
    refine (nodup_parts (fun p => inEn (f p.block) p.off) _ 0 ?_ ?_).1
    · intro A hA
      simp only [List.mem_cons, List.not_mem_nil, or_false] at hA
      rcases hA with rfl | rfl | rfl | rfl | rfl | rfl <;> first | exact trR_nodup _ _ | simp
    · intro j A hj p hp
      rcases j with _ | _ | _ | _ | _ | _ | j
      case succ.succ.succ.zero => injection hj with hj; subst hj; simp only [(k3 p hp).1, inEn]
      case succ.succ.succ.succ.zero => injection hj with hj; subst hj; simp only [(k4 p hp).1, inEn]
      case succ.succ.succ.succ.succ.succ => simp at hj
      all_goals
        injection hj with hj
        subst hj
        rw [List.mem_singleton] at hp
        subst hp
        simp only [hg, inEn]
        omega
  · intro p hp
    simp only [mtEn, List.mem_append, List.mem_singleton] at hp
    have q : ∀ j, j < 6 → p = ⟨g, i * 6 + j, none⟩ → ofEn (f p.block) p.off = i ∧ isEn (f p.block) = true ∧ B ≤ p.block := by
      rintro j hj rfl
      refine ⟨?_, ?_, hB⟩ <;> simp only [hg, ofEn, isEn]
      omega
    rcases hp with hp | hp | hp | hp | hp | hp
    · exact q 0 (by omega) hp
    · exact q 1 (by omega) hp
    · exact q 2 (by omega) hp
    · obtain ⟨a, b⟩ := k3 p hp; exact ⟨by rw [a]; rfl, by rw [a]; rfl, b⟩
    · obtain ⟨a, b⟩ := k4 p hp; exact ⟨by rw [a]; rfl, by rw [a]; rfl, b⟩
    · exact q 5 (by omega) hp
theorem mtTas_nodup {f : Nat → Key} {B : Nat} {w : World} {g : Nat} {T : List TT} (h : ∀ i, i < T.length → TIn f B w i (nth TT.z T i)) (hg : f g = .t) (hB : B ≤ g) : ∀ n, n ≤ T.length →
    (mtTas g 0 (T.map tvv) n).Nodup ∧ ∀ p, p ∈ mtTas g 0 (T.map tvv) n → ofTa (f p.block) p.off < n ∧ isTa (f p.block) = true ∧ B ≤ p.block := by
  intro n
  induction n with
  | zero => intro _; exact ⟨List.nodup_nil, fun p hp => by simp [mtTas] at hp⟩
  | succ n ih =>
    intro hn
    obtain ⟨i1, i2⟩ := ih (by omega)
    obtain ⟨j1, j2⟩ := mtTa_nodup (h n hn) hg hB
    rw [mtTas, map_nth tvv TT.z Z4v T n hn, Nat.zero_add]
    refine ⟨nodup_app i1 j1 fun a ha hb => ?_, fun p hp => ?_⟩
    · have := (i2 a ha).1; have := (j2 a hb).1; omega
    · rcases List.mem_append.1 hp with hp | hp
      · obtain ⟨a, b, c⟩ := i2 p hp; exact ⟨by omega, b, c⟩
      · obtain ⟨a, b, c⟩ := j2 p hp; exact ⟨by omega, b, c⟩
theorem mtEns_nodup {f : Nat → Key} {B : Nat} {w : World} {g : Nat} {L : List EE} (h : ∀ i, i < L.length → EIn f B w i (nth EE.z L i)) (hg : f g = .l) (hB : B ≤ g) : ∀ n, n ≤ L.length →
    (mtEns g 0 (L.map evv) n).Nodup ∧ ∀ p, p ∈ mtEns g 0 (L.map evv) n → ofEn (f p.block) p.off < n ∧ isEn (f p.block) = true ∧ B ≤ p.block := by
  intro n
  induction n with
  | zero => intro _; exact ⟨List.nodup_nil, fun p hp => by simp [mtEns] at hp⟩
  | succ n ih =>
    intro hn
    obtain ⟨i1, i2⟩ := ih (by omega)
    obtain ⟨j1, j2⟩ := mtEn_nodup (h n hn) hg hB
    rw [mtEns, map_nth evv EE.z Z2v L n hn, Nat.zero_add]
    refine ⟨nodup_app i1 j1 fun a ha hb => ?_, fun p hp => ?_⟩
    · have := (i2 a ha).1; have := (j2 a hb).1; omega
    · rcases List.mem_append.1 hp with hp | hp
      · obtain ⟨a, b, c⟩ := i2 p hp; exact ⟨by omega, b, c⟩
      · obtain ⟨a, b, c⟩ := j2 p hp; exact ⟨by omega, b, c⟩
theorem row_block {f : Nat → Key} {κ : Key} {B : Nat} {w : World} {e : TypeId} {size : Nat} {v : Value} {n : Nat} {xs : List Value} (h : Row f κ B w e size v n xs) : v = .slice none 0 0 ∨ ∃ g cap, v = .slice (some ⟨g, 0, none⟩) n cap ∧ f g = κ ∧ B ≤ g := by
  have h2 := h.2
  rcases h.1.2 with ⟨rfl, _⟩ | ⟨g, cap, cur, rfl, hb, _⟩
  · exact .inl rfl
  · exact .inr ⟨g, cap, rfl, h2 g rfl, hb⟩
theorem OwnSy.trail {f : Nat → Key} {B : Nat} {w : World} {cv tv lv : Value} {cs : List Ce} {T : List TT} {L : List EE} (h : OwnSy f B w cv tv lv cs T L) :
    (mtSy cv tv lv (T.map tvv) (L.map evv)).Nodup ∧ ∀ p, p ∈ mtSy cv tv lv (T.map tvv) (L.map evv) → B ≤ p.block := by
  have ht : (mtTaR (T.map tvv) tv).Nodup ∧ ∀ p, p ∈ mtTaR (T.map tvv) tv → isTa (f p.block) = true ∧ B ≤ p.block := by
    rcases row_block h.t with rfl | ⟨g, cap, rfl, hg, hB⟩
    · exact ⟨List.nodup_nil, fun p hp => by simp [mtTaR] at hp⟩
    · obtain ⟨a, b⟩ := mtTas_nodup h.ti hg hB T.length (Nat.le_refl _)
      simp only [mtTaR, List.length_map]
      exact ⟨a, fun p hp => (b p hp).2⟩
  have hl : (mtEnR (L.map evv) lv).Nodup ∧ ∀ p, p ∈ mtEnR (L.map evv) lv → isEn (f p.block) = true ∧ B ≤ p.block := by
    rcases row_block h.l with rfl | ⟨g, cap, rfl, hg, hB⟩
    · exact ⟨List.nodup_nil, fun p hp => by simp [mtEnR] at hp⟩
    · obtain ⟨a, b⟩ := mtEns_nodup h.li hg hB L.length (Nat.le_refl _)
      simp only [mtEnR, List.length_map]
      exact ⟨a, fun p hp => (b p hp).2⟩
  have hc := h.c.blk 3
  refine ⟨nodup_app (trR_nodup 3 cv) (nodup_app ht.1 hl.1 fun a ha hb => ?_) fun a ha hb => ?_, fun p hp => ?_⟩
  · have k1 := (ht.2 a ha).1
    have k2 := (hl.2 a hb).1
    generalize f a.block = κ at k1 k2
    cases κ <;> simp [isTa, isEn] at k1 k2
  · have k0 := (hc a ha).1
    rcases List.mem_append.1 hb with hb | hb
    · have k1 := (ht.2 a hb).1
      rw [k0] at k1; simp [isTa] at k1
    · have k1 := (hl.2 a hb).1
      rw [k0] at k1; simp [isEn] at k1
  · rcases List.mem_append.1 hp with hp | hp
    · exact (hc p hp).2
    · rcases List.mem_append.1 hp with hp | hp
      · exact (ht.2 p hp).2
      · exact (hl.2 p hp).2
end Go.Proofs.Ytgbgjljflgbcaaa
