/-
  Copies of one's own can be marked (by mky.py).
-/
import Derived.Test.YteebdfifbmpmhaaZ2
import Derived.Test.YteebdfifbmpmhaaZ3
import Derived.Test.YteebdfifbmpmhaaY1
import Derived.Deep.Slices
namespace Go.Proofs.Yteebdfifbmpmhaa
open Go.RowKit
set_option linter.unusedSimpArgs false
set_option linter.unusedVariables false
set_option maxRecDepth 20000
theorem nth_range' {α : Type} (z : α) (f : Nat → α) (n i : Nat) (h : i < n) : nth z ((List.range n).map f) i = f i := by
  simp [nth, h]
theorem IntsOn.sh {S : Nat → Prop} {w : World} {v : Value} {xs : List Int} (h : IntsOn S w v xs) (hf : ∀ b o, S b → w.frozen? ⟨b, o, none⟩ = false) :
    RowSh 1 w v ∧ (∀ p, p ∈ trR 1 v → S p.block) ∧ (trR 1 v).length ≤ xs.length * 1 := by
  obtain ⟨a, cap, rfl, hm, hc⟩ := h
  refine ⟨⟨a, xs.length, cap, rfl, by omega, fun i hi => ?_⟩, ?_, ?_⟩
  · obtain ⟨b, off, e, hS, hbw, _⟩ := hc i hi
    refine ⟨b, off, e, hbw, fun j hj => ?_⟩
    obtain ⟨b2, off2, e2, _, _, c0⟩ := hc j (by simpa using hj)
    rw [e] at e2; injection e2 with e2; injection e2 with e3 e4; subst e3 e4
    exact ⟨⟨_, c0⟩, hf _ _ hS⟩
  · intro p hp
    rcases a with _ | ⟨b, off, _ | s⟩
    · simp [trR] at hp
    · simp only [trR] at hp
      obtain ⟨j, hj, rfl⟩ := rowT_mem.1 hp
      have h0 : 0 < xs.length := by rcases Nat.eq_zero_or_pos xs.length with h | h; · rw [h] at hj; simp at hj
                                    · exact h
      obtain ⟨b2, off2, e2, hS, _⟩ := hc 0 h0
      injection e2 with e2; injection e2 with e3 e4; subst e3 e4
      exact hS
    · simp [trR] at hp
  · rcases a with _ | ⟨b, off, _ | s⟩
    · simp [trR]
    · simp [trR, rowT_len]
    · simp [trR]
theorem PusOn.sh {S : Nat → Prop} {w : World} {v : Value} {xs : List Pu} (h : PusOn S w v xs) (hf : ∀ b o, S b → w.frozen? ⟨b, o, none⟩ = false) :
    RowSh 2 w v ∧ (∀ p, p ∈ trR 2 v → S p.block) ∧ (trR 2 v).length ≤ xs.length * 2 := by
  obtain ⟨a, cap, rfl, hm, hc⟩ := h
  refine ⟨⟨a, xs.length, cap, rfl, by omega, fun i hi => ?_⟩, ?_, ?_⟩
  · obtain ⟨b, off, e, hS, hbw, _⟩ := hc i hi
    refine ⟨b, off, e, hbw, fun j hj => ?_⟩
    have hjd : j = j / 2 * 2 + j % 2 := by omega
    have hq : j / 2 < xs.length := by omega
    obtain ⟨b2, off2, e2, _, _, c0, c1⟩ := hc (j / 2) hq
    rw [e] at e2; injection e2 with e2; injection e2 with e3 e4; subst e3 e4
    refine ⟨?_, hf _ _ hS⟩
    have hr : j = j / 2 * 2 ∨ j = j / 2 * 2 + 1 := by omega
    rcases hr with hr | hr
    · rw [hr]; exact ⟨_, c0⟩
    · rw [hr, ← Nat.add_assoc]; exact ⟨_, c1⟩
  · intro p hp
    rcases a with _ | ⟨b, off, _ | s⟩
    · simp [trR] at hp
    · simp only [trR] at hp
      obtain ⟨j, hj, rfl⟩ := rowT_mem.1 hp
      have h0 : 0 < xs.length := by rcases Nat.eq_zero_or_pos xs.length with h | h; · rw [h] at hj; simp at hj
                                    · exact h
      obtain ⟨b2, off2, e2, hS, _⟩ := hc 0 h0
      injection e2 with e2; injection e2 with e3 e4; subst e3 e4
      exact hS
    · simp [trR] at hp
  · rcases a with _ | ⟨b, off, _ | s⟩
    · simp [trR]
    · simp [trR, rowT_len]
    · simp [trR]
theorem CesOn.sh {S : Nat → Prop} {w : World} {v : Value} {xs : List Ce} (h : CesOn S w v xs) (hf : ∀ b o, S b → w.frozen? ⟨b, o, none⟩ = false) :
    RowSh 3 w v ∧ (∀ p, p ∈ trR 3 v → S p.block) ∧ (trR 3 v).length ≤ xs.length * 3 := by
  obtain ⟨a, cap, rfl, hm, hc⟩ := h
  refine ⟨⟨a, xs.length, cap, rfl, by omega, fun i hi => ?_⟩, ?_, ?_⟩
  · obtain ⟨b, off, e, hS, hbw, _⟩ := hc i hi
    refine ⟨b, off, e, hbw, fun j hj => ?_⟩
    have hjd : j = j / 3 * 3 + j % 3 := by omega
    have hq : j / 3 < xs.length := by omega
    obtain ⟨b2, off2, e2, _, _, c0, c1, c2⟩ := hc (j / 3) hq
    rw [e] at e2; injection e2 with e2; injection e2 with e3 e4; subst e3 e4
    refine ⟨?_, hf _ _ hS⟩
    have hr : j = j / 3 * 3 ∨ j = j / 3 * 3 + 1 ∨ j = j / 3 * 3 + 2 := by omega
    rcases hr with hr | hr | hr
    · rw [hr]; exact ⟨_, c0⟩
    · rw [hr, ← Nat.add_assoc]; exact ⟨_, c1⟩
    · rw [hr, ← Nat.add_assoc]; exact ⟨_, c2⟩
  · intro p hp
    rcases a with _ | ⟨b, off, _ | s⟩
    · simp [trR] at hp
    · simp only [trR] at hp
      obtain ⟨j, hj, rfl⟩ := rowT_mem.1 hp
      have h0 : 0 < xs.length := by rcases Nat.eq_zero_or_pos xs.length with h | h; · rw [h] at hj; simp at hj
                                    · exact h
      obtain ⟨b2, off2, e2, hS, _⟩ := hc 0 h0
      injection e2 with e2; injection e2 with e3 e4; subst e3 e4
      exact hS
    · simp [trR] at hp
  · rcases a with _ | ⟨b, off, _ | s⟩
    · simp [trR]
    · simp [trR, rowT_len]
    · simp [trR]
theorem mtTas_len_le {b off : Nat} {L : List (Value × Value × Value × Value)} {n C : Nat} (h : ∀ i, i < n → (mtTa b (off + i * 13) (nth (.slice none 0 0, .slice none 0 0, .slice none 0 0, .slice none 0 0) L i)).length ≤ C) : (mtTas b off L n).length ≤ n * C := by
  induction n with
  | zero => simp [mtTas]
  | succ n ih =>
    have h1 := ih (fun i hi => h i (by omega))
    have h2 := h n (by omega)
    rw [mtTas, List.length_append, Nat.succ_mul]; omega
theorem TasOn.sh {S : Nat → Prop} {w : World} {v : Value} {xs : List Ta} (h : TasOn S w v xs) (hf : ∀ b o, S b → w.frozen? ⟨b, o, none⟩ = false) (hsm : SmsTa xs) :
    ∃ L : List (Value × Value × Value × Value), TasSh w v L ∧ (∀ p, p ∈ mtTaR L v → S p.block) ∧ (mtTaR L v).length ≤ xs.length * 6291465 := by
  obtain ⟨a, cap, rfl, hm, hc⟩ := h
  obtain ⟨f, hF⟩ := @Go.Deep.choose_lt (Value × Value × Value × Value) ⟨(.slice none 0 0, .slice none 0 0, .slice none 0 0, .slice none 0 0)⟩ xs.length (fun i q => ∃ b off, a = some ⟨b, off, none⟩ ∧ S b ∧ b < w.heap.size ∧ ICell w ⟨b, off + i * 13, none⟩ ∧ ICell w ⟨b, off + i * 13 + 1, none⟩ ∧ ICell w ⟨b, off + i * 13 + 2, none⟩ ∧ w.cell? ⟨b, off + i * 13 + 3, none⟩ = some q.1 ∧ ICell w ⟨b, off + i * 13 + 4, none⟩ ∧ ICell w ⟨b, off + i * 13 + 5, none⟩ ∧ ICell w ⟨b, off + i * 13 + 6, none⟩ ∧ ICell w ⟨b, off + i * 13 + 7, none⟩ ∧ w.cell? ⟨b, off + i * 13 + 8, none⟩ = some q.2.1 ∧ w.cell? ⟨b, off + i * 13 + 9, none⟩ = some q.2.2.1 ∧ w.cell? ⟨b, off + i * 13 + 10, none⟩ = some q.2.2.2 ∧ ICell w ⟨b, off + i * 13 + 11, none⟩ ∧ ICell w ⟨b, off + i * 13 + 12, none⟩ ∧ RowSh 1 w q.1 ∧ RowSh 1 w q.2.1 ∧ RowSh 2 w q.2.2.1 ∧ RowSh 2 w q.2.2.2 ∧ (∀ p, p ∈ trR 1 q.1 → S p.block) ∧ (∀ p, p ∈ trR 1 q.2.1 → S p.block) ∧ (∀ p, p ∈ trR 2 q.2.2.1 → S p.block) ∧ (∀ p, p ∈ trR 2 q.2.2.2 → S p.block) ∧ (trR 1 q.1).length ≤ 1048576 ∧ (trR 1 q.2.1).length ≤ 1048576 ∧ (trR 2 q.2.2.1).length ≤ 2097152 ∧ (trR 2 q.2.2.2).length ≤ 2097152) (fun i hi => by
    obtain ⟨b, off, v3, v8, v9, v10, e, hS, hb, c0, c1, c2, c3, c4, c5, c6, c7, c8, c9, c10, c11, c12, h3, h8, h9, h10⟩ := hc i hi
    obtain ⟨k3, t3, l3⟩ := h3.sh hf
    have b3 : (nth Ta.z xs i).regs.length ≤ 1048576 := (hsm.2 i hi).1
    obtain ⟨k8, t8, l8⟩ := h8.sh hf
    have b8 : (nth Ta.z xs i).old.length ≤ 1048576 := (hsm.2 i hi).2.1
    obtain ⟨k9, t9, l9⟩ := h9.sh hf
    have b9 : (nth Ta.z xs i).reads.length ≤ 1048576 := (hsm.2 i hi).2.2.1
    obtain ⟨k10, t10, l10⟩ := h10.sh hf
    have b10 : (nth Ta.z xs i).puts.length ≤ 1048576 := (hsm.2 i hi).2.2.2
    exact ⟨(v3, v8, v9, v10), b, off, e, hS, hb, ⟨⟨_, c0⟩, hf _ _ hS⟩, ⟨⟨_, c1⟩, hf _ _ hS⟩, ⟨⟨_, c2⟩, hf _ _ hS⟩, c3, ⟨⟨_, c4⟩, hf _ _ hS⟩, ⟨⟨_, c5⟩, hf _ _ hS⟩, ⟨⟨_, c6⟩, hf _ _ hS⟩, ⟨⟨_, c7⟩, hf _ _ hS⟩, c8, c9, c10, ⟨⟨_, c11⟩, hf _ _ hS⟩, ⟨⟨_, c12⟩, hf _ _ hS⟩, k3, k8, k9, k10, t3, t8, t9, t10, by dsimp only; omega, by dsimp only; omega, by dsimp only; omega, by dsimp only; omega⟩)
  have hL : ((List.range xs.length).map f).length = xs.length := by simp
  refine ⟨(List.range xs.length).map f, ⟨a, cap, by rw [hL], by rw [hL]; omega, fun i hi => ?_⟩, ?_, ?_⟩
  · have hi' : i < xs.length := by simpa using hi
    obtain ⟨b, off, e, _, hb, c0, c1, c2, c3, c4, c5, c6, c7, c8, c9, c10, c11, c12, k3, k8, k9, k10, _⟩ := hF i hi'
    refine ⟨b, off, e, hb, ?_⟩
    rw [nth_range' _ _ _ _ hi']
    exact ⟨c0, c1, c2, c3, c4, c5, c6, c7, c8, c9, c10, c11, c12, k3, k8, k9, k10⟩
  · intro p hp
    rcases a with _ | ⟨b, off, _ | s⟩
    · simp [mtTaR] at hp
    · simp only [mtTaR] at hp
      obtain ⟨i, hi, hp⟩ := mtTas_mem.1 hp
      have hi' : i < xs.length := by simpa using hi
      obtain ⟨b2, off2, e2, hS, hb, c0, c1, c2, c3, c4, c5, c6, c7, c8, c9, c10, c11, c12, k3, k8, k9, k10, t3, t8, t9, t10, _⟩ := hF i hi'
      injection e2 with e2; injection e2 with e3 e4; subst e3 e4
      rw [nth_range' _ _ _ _ hi'] at hp
      simp only [mtTa, List.mem_append, List.mem_singleton] at hp
      rcases hp with rfl | rfl | rfl | hp | rfl | rfl | rfl | rfl | hp | hp | hp | rfl | rfl
      · exact hS
      · exact hS
      · exact hS
      · exact t3 p hp
      · exact hS
      · exact hS
      · exact hS
      · exact hS
      · exact t8 p hp
      · exact t9 p hp
      · exact t10 p hp
      · exact hS
      · exact hS
    · simp [mtTaR] at hp
  · rcases a with _ | ⟨b, off, _ | s⟩
    · simp [mtTaR]
    · simp only [mtTaR, hL]
      refine mtTas_len_le (fun i hi => ?_)
      obtain ⟨b2, off2, e2, hS, hb, c0, c1, c2, c3, c4, c5, c6, c7, c8, c9, c10, c11, c12, k3, k8, k9, k10, t3, t8, t9, t10, l3, l8, l9, l10⟩ := hF i hi
      rw [nth_range' _ _ _ _ hi, mtTa_len]
      omega
    · simp [mtTaR]
theorem mtEns_len_le {b off : Nat} {L : List (Value × Value)} {n C : Nat} (h : ∀ i, i < n → (mtEn b (off + i * 6) (nth (.slice none 0 0, .slice none 0 0) L i)).length ≤ C) : (mtEns b off L n).length ≤ n * C := by
  induction n with
  | zero => simp [mtEns]
  | succ n ih =>
    have h1 := ih (fun i hi => h i (by omega))
    have h2 := h n (by omega)
    rw [mtEns, List.length_append, Nat.succ_mul]; omega
theorem EnsOn.sh {S : Nat → Prop} {w : World} {v : Value} {xs : List En} (h : EnsOn S w v xs) (hf : ∀ b o, S b → w.frozen? ⟨b, o, none⟩ = false) (hsm : SmsEn xs) :
    ∃ L : List (Value × Value), EnsSh w v L ∧ (∀ p, p ∈ mtEnR L v → S p.block) ∧ (mtEnR L v).length ≤ xs.length * 4194308 := by
  obtain ⟨a, cap, rfl, hm, hc⟩ := h
  obtain ⟨f, hF⟩ := @Go.Deep.choose_lt (Value × Value) ⟨(.slice none 0 0, .slice none 0 0)⟩ xs.length (fun i q => ∃ b off, a = some ⟨b, off, none⟩ ∧ S b ∧ b < w.heap.size ∧ ICell w ⟨b, off + i * 6, none⟩ ∧ ICell w ⟨b, off + i * 6 + 1, none⟩ ∧ ICell w ⟨b, off + i * 6 + 2, none⟩ ∧ w.cell? ⟨b, off + i * 6 + 3, none⟩ = some q.1 ∧ w.cell? ⟨b, off + i * 6 + 4, none⟩ = some q.2 ∧ ICell w ⟨b, off + i * 6 + 5, none⟩ ∧ RowSh 2 w q.1 ∧ RowSh 2 w q.2 ∧ (∀ p, p ∈ trR 2 q.1 → S p.block) ∧ (∀ p, p ∈ trR 2 q.2 → S p.block) ∧ (trR 2 q.1).length ≤ 2097152 ∧ (trR 2 q.2).length ≤ 2097152) (fun i hi => by
    obtain ⟨b, off, v3, v4, e, hS, hb, c0, c1, c2, c3, c4, c5, h3, h4⟩ := hc i hi
    obtain ⟨k3, t3, l3⟩ := h3.sh hf
    have b3 : (nth En.z xs i).reads.length ≤ 1048576 := (hsm.2 i hi).1
    obtain ⟨k4, t4, l4⟩ := h4.sh hf
    have b4 : (nth En.z xs i).puts.length ≤ 1048576 := (hsm.2 i hi).2
    exact ⟨(v3, v4), b, off, e, hS, hb, ⟨⟨_, c0⟩, hf _ _ hS⟩, ⟨⟨_, c1⟩, hf _ _ hS⟩, ⟨⟨_, c2⟩, hf _ _ hS⟩, c3, c4, ⟨⟨_, c5⟩, hf _ _ hS⟩, k3, k4, t3, t4, by dsimp only; omega, by dsimp only; omega⟩)
  have hL : ((List.range xs.length).map f).length = xs.length := by simp
  refine ⟨(List.range xs.length).map f, ⟨a, cap, by rw [hL], by rw [hL]; omega, fun i hi => ?_⟩, ?_, ?_⟩
  · have hi' : i < xs.length := by simpa using hi
    obtain ⟨b, off, e, _, hb, c0, c1, c2, c3, c4, c5, k3, k4, _⟩ := hF i hi'
    refine ⟨b, off, e, hb, ?_⟩
    rw [nth_range' _ _ _ _ hi']
    exact ⟨c0, c1, c2, c3, c4, c5, k3, k4⟩
  · intro p hp
    rcases a with _ | ⟨b, off, _ | s⟩
    · simp [mtEnR] at hp
    · simp only [mtEnR] at hp
      obtain ⟨i, hi, hp⟩ := mtEns_mem.1 hp
      have hi' : i < xs.length := by simpa using hi
      obtain ⟨b2, off2, e2, hS, hb, c0, c1, c2, c3, c4, c5, k3, k4, t3, t4, _⟩ := hF i hi'
      injection e2 with e2; injection e2 with e3 e4; subst e3 e4
      rw [nth_range' _ _ _ _ hi'] at hp
      simp only [mtEn, List.mem_append, List.mem_singleton] at hp
      rcases hp with rfl | rfl | rfl | hp | hp | rfl
      · exact hS
      · exact hS
      · exact hS
      · exact t3 p hp
      · exact t4 p hp
      · exact hS
    · simp [mtEnR] at hp
  · rcases a with _ | ⟨b, off, _ | s⟩
    · simp [mtEnR]
    · simp only [mtEnR, hL]
      refine mtEns_len_le (fun i hi => ?_)
      obtain ⟨b2, off2, e2, hS, hb, c0, c1, c2, c3, c4, c5, k3, k4, t3, t4, l3, l4⟩ := hF i hi
      rw [nth_range' _ _ _ _ hi, mtEn_len]
      omega
    · simp [mtEnR]
/-- a system's trail -/
def mtSy (cv tv lv : Value) (T : List (Value × Value × Value × Value)) (E : List (Value × Value)) : List Addr := trR 3 cv ++ (mtTaR T tv ++ mtEnR E lv)
set_option maxHeartbeats 1000000 in
theorem markSys_tr (cv tv lv : Value) (c k : Int) (T : List (Value × Value × Value × Value)) (E : List (Value × Value)) (w : World) (hc : RowSh 3 w cv) (ht : TasSh w tv T) (hl : EnsSh w lv E) (hk0 : 0 ≤ k) (hk : k + (mtSy cv tv lv T E).length ≤ 9223372036854775807) :
    Calls Try.prog 15 #[.agg #[cv, tv, .int .i64 c, lv], .int .i64 k] w fun e w' => e = .returned (.int .i64 (k + (mtSy cv tv lv T E).length)) ∧ ∃ w1, Below w.heap.size w w1 ∧ w' = wrT w1 (mtSy cv tv lv T E) k := by
  simp only [mtSy, List.length_append] at hk ⊢
  have hkc : k + ((trR 3 cv).length : Int) + ((mtTaR T tv).length : Int) + ((mtEnR E lv).length : Int) ≤ 9223372036854775807 := by push_cast at hk; omega
  have HC := (show Hid (∀ o, RowSh 3 (w.alloc o) cv) from fun o => hc.set (IntSet.below ((Below.refl _ _).alloc (Nat.le_refl _) o)))
  have HT := (show Hid (∀ o, TasSh (w.alloc o) tv T) from fun o => ht.set (IntSet.below ((Below.refl _ _).alloc (Nat.le_refl _) o)))
  have HL := (show Hid (∀ o, EnsSh (w.alloc o) lv E) from fun o => hl.set (IntSet.below ((Below.refl _ _).alloc (Nat.le_refl _) o)))
  have HA := (show Hid (∀ o, Below w.heap.size w (w.alloc o)) from fun o => (Below.refl _ _).alloc (Nat.le_refl _) o)
  clear hc ht hl hk
  go_enter Try.func15, Try.ntmps15
  go_wp2_with fail
  refine (markCellS_tr cv _ _ (HC.out _) (by omega) (by omega)).mono ?_
  rintro e w2 ⟨rfl, ew2⟩
  have S2 : IntSet (w.alloc (.cells #[cv, tv, .int .i64 c, lv] 31)) w2 := by rw [ew2]; exact wrT_set (fun a ha => (RowSh.trail (HC.out _) a ha).1) _
  have c1 : w2.cell? ⟨w.heap.size, 1, none⟩ = some tv := TasSh.cell (HT.out (.cells #[cv, tv, .int .i64 c, lv] 31)) S2 (by simp)
  have c3 : w2.cell? ⟨w.heap.size, 3, none⟩ = some lv := EnsSh.cell (HL.out (.cells #[cv, tv, .int .i64 c, lv] 31)) S2 (by simp)
  have HT2 := (show Hid (TasSh _ _ _) from TasSh.set (HT.out _) S2)
  have HL2 := (show Hid (EnsSh _ _ _) from EnsSh.set (HL.out _) S2)
  have E2 := (show Hid (w2 = _) from ew2)
  have C3 := (show Hid (_ = _) from c3)
  clear ew2 S2 HT HL HC c3
  go_wp2_with fail
  refine (markTaskS_tr tv T _ _ HT2.out (by omega) (by omega)).mono ?_
  rintro e w3 ⟨rfl, ew3⟩
  have S3 : IntSet w2 w3 := by rw [ew3]; exact wrT_set (fun a ha => (TasSh.trail HT2.out a ha).1) _
  have c3 : w3.cell? ⟨w.heap.size, 3, none⟩ = some lv := EnsSh.cell HL2.out S3 C3.out
  have HL3 := (show Hid (EnsSh _ _ _) from EnsSh.set HL2.out S3)
  have E3 := (show Hid (w3 = _) from ew3)
  clear ew3 HT2 HL2 S3 c1 C3
  go_wp2_with fail
  refine (markEntryS_tr lv E _ _ HL3.out (by omega) (by omega)).mono ?_
  rintro e w4 ⟨rfl, ew4⟩
  have E4 := (show Hid (w4 = _) from ew4)
  clear ew4 HL3 c3
  go_wp2_with fail
  go_ret
  refine ⟨?_, _, HA.out (.cells #[cv, tv, .int .i64 c, lv] 31), ?_⟩
  · rw [show k + (((trR 3 cv).length + ((mtTaR T tv).length + (mtEnR E lv).length) : Nat) : Int) = k + ↑(trR 3 cv).length + ↑(mtTaR T tv).length + ↑(mtEnR E lv).length by push_cast; omega]
    rfl
  · rw [wrT_app, wrT_app, E4.out, E3.out, E2.out]

set_option maxHeartbeats 1000000 in
theorem heldSys_tr (cv tv lv : Value) (c k : Int) (T : List (Value × Value × Value × Value)) (E : List (Value × Value)) (w : World) (hc : RowSh 3 w cv) (ht : TasSh w tv T) (hl : EnsSh w lv E) (hH : HeldT w (mtSy cv tv lv T E) k) (hk0 : 0 ≤ k) (hk : k + (mtSy cv tv lv T E).length ≤ 9223372036854775807) :
    Calls Try.prog 16 #[.agg #[cv, tv, .int .i64 c, lv], .int .i64 k] w fun e w' => e = .returned (.int .i64 (k + (mtSy cv tv lv T E).length)) ∧ Below w.heap.size w w' := by
  have hlt : ∀ a, a ∈ mtSy cv tv lv T E → a.block < w.heap.size := fun a ha => by
    rcases List.mem_append.1 ha with h1 | h1
    · exact (hc.trail a h1).2
    · rcases List.mem_append.1 h1 with h1 | h1
      · exact (ht.trail a h1).2
      · exact (hl.trail a h1).2
  have HH : Hid (∀ o, HeldT (w.alloc o) (trR 3 cv) k ∧ HeldT (w.alloc o) (mtTaR T tv) (k + (trR 3 cv).length) ∧ HeldT (w.alloc o) (mtEnR E lv) (k + (trR 3 cv).length + (mtTaR T tv).length)) := fun o => by
    have := hH.below hlt ((Below.refl _ _).alloc (Nat.le_refl _) o)
    rw [mtSy, heldT_app, heldT_app] at this
    exact this
  simp only [mtSy, List.length_append] at hk ⊢
  have hkc : k + ((trR 3 cv).length : Int) + ((mtTaR T tv).length : Int) + ((mtEnR E lv).length : Int) ≤ 9223372036854775807 := by push_cast at hk; omega
  have HC := (show Hid (∀ o, RowSh 3 (w.alloc o) cv) from fun o => hc.set (IntSet.below ((Below.refl _ _).alloc (Nat.le_refl _) o)))
  have HT := (show Hid (∀ o, TasSh (w.alloc o) tv T) from fun o => ht.set (IntSet.below ((Below.refl _ _).alloc (Nat.le_refl _) o)))
  have HL := (show Hid (∀ o, EnsSh (w.alloc o) lv E) from fun o => hl.set (IntSet.below ((Below.refl _ _).alloc (Nat.le_refl _) o)))
  have HA := (show Hid (∀ o, Below w.heap.size w (w.alloc o)) from fun o => (Below.refl _ _).alloc (Nat.le_refl _) o)
  clear hc ht hl hk hH hlt
  go_enter Try.func16, Try.ntmps16
  go_wp2_with fail
  refine (heldCellS_tr cv _ _ (HC.out _) (HH.out _).1 (by omega) (by omega)).mono ?_
  rintro e w2 ⟨rfl, rfl⟩
  have q1 : ¬ (k + ↑(trR 3 cv).length < 0) := by omega
  go_wp2_with fail
  refine (heldTaskS_tr tv T _ _ (HT.out _) (HH.out _).2.1 (by omega) (by omega)).mono ?_
  rintro e w3 ⟨rfl, rfl⟩
  have q2 : ¬ (k + ↑(trR 3 cv).length + ↑(mtTaR T tv).length < 0) := by omega
  go_wp2_with fail
  refine (heldEntryS_tr lv E _ _ (HL.out _) (HH.out _).2.2 (by omega) (by omega)).mono ?_
  rintro e w4 ⟨rfl, rfl⟩
  have q3 : ¬ (k + ↑(trR 3 cv).length + ↑(mtTaR T tv).length + ↑(mtEnR E lv).length < 0) := by omega
  go_wp2_with fail
  go_ret
  refine ⟨?_, HA.out _⟩
  rw [show k + (((trR 3 cv).length + ((mtTaR T tv).length + (mtEnR E lv).length) : Nat) : Int) = k + ↑(trR 3 cv).length + ↑(mtTaR T tv).length + ↑(mtEnR E lv).length by push_cast; omega]
  rfl

end Go.Proofs.Yteebdfifbmpmhaa
