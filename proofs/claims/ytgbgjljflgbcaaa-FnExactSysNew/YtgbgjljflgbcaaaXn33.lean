import Derived.Test.YtgbgjljflgbcaaaXn31
import Derived.Test.YtgbgjljflgbcaaaXn32
import Derived.Test.YtgbgjljflgbcaaaXn16
import Derived.Deep.Slices
namespace Go.Proofs.Ytgbgjljflgbcaaa
open Go.RowKit
set_option linter.unusedSimpArgs false
set_option linter.unusedVariables false
set_option maxRecDepth 20000
theorem nth_range' {α : Type} (z : α) (f : Nat → α) (n i : Nat) (h : i < n) : nth z ((List.range n).map f) i = f i := by
  simp [nth, h]
theorem IntsOn.sh {S : Nat → Prop} {w : World} {v : Value} {xs : List Int} (h : IntsOn S w v xs) (hf : ∀ b o, S b → w.frozen? ⟨b, o, none⟩ = false) :
    RowSh 1 w v ∧ (∀ p, p ∈ trR 1 v → S p.block) ∧ (trR 1 v).length ≤ xs.length * 1 := by
  obtain ⟨a, cap, rfl, hm, hc⟩ := h
  refine ⟨⟨a, xs.length, cap, rfl, by omega, fun i hi => ?_⟩, ?_, ?_⟩
  · obtain ⟨b, off, e, hS, hbw, _⟩ := hc i hi
    refine ⟨b, off, e, hbw, fun j hj => ?_⟩
    obtain ⟨b2, off2, e2, _, _, c0⟩ := hc j (by simpa using hj)
    rw [e] at e2; injection e2 with e2; injection e2 with e3 e4; subst e3 e4
    exact ⟨⟨_, c0⟩, hf _ _ hS⟩
  · intro p hp
    rcases a with _ | ⟨b, off, _ | s⟩
    · simp [trR] at hp
    · simp only [trR] at hp
      obtain ⟨j, hj, rfl⟩ := rowT_mem.1 hp
      have h0 : 0 < xs.length := by rcases Nat.eq_zero_or_pos xs.length with h | h; · rw [h] at hj; simp at hj
                                    · exact h
      obtain ⟨b2, off2, e2, hS, _⟩ := hc 0 h0
      injection e2 with e2; injection e2 with e3 e4; subst e3 e4
      exact hS
    · simp [trR] at hp
  · rcases a with _ | ⟨b, off, _ | s⟩
    · simp [trR]
    · simp [trR, rowT_len]
    · simp [trR]
theorem mtTas_len_le {b off : Nat} {L : List (Value × Value × Value × Value)} {n C : Nat} (h : ∀ i, i < n → (mtTa b (off + i * 13) (nth (.slice none 0 0, .slice none 0 0, .slice none 0 0, .slice none 0 0) L i)).length ≤ C) : (mtTas b off L n).length ≤ n * C := by
  induction n with
  | zero => simp [mtTas]
  | succ n ih =>
    have h1 := ih (fun i hi => h i (by omega))
    have h2 := h n (by omega)
    rw [mtTas, List.length_append, Nat.succ_mul]; omega
def mtSy (cv tv lv : Value) (T : List (Value × Value × Value × Value)) (E : List (Value × Value)) : List Addr := trR 3 cv ++ (mtTaR T tv ++ mtEnR E lv)
set_option maxHeartbeats 1000000 in
theorem markSys_tr (cv tv lv : Value) (c k : Int) (T : List (Value × Value × Value × Value)) (E : List (Value × Value)) (w : World) (hc : RowSh 3 w cv) (ht : TasSh w tv T) (hl : EnsSh w lv E) (hk0 : 0 ≤ k) (hk : k + (mtSy cv tv lv T E).length ≤ 9223372036854775807) :
    Calls Try.prog 29 #[.agg #[cv, tv, .int .i64 c, lv], .int .i64 k] w fun e w' => e = .returned (.int .i64 (k + (mtSy cv tv lv T E).length)) ∧ ∃ w1, Below w.heap.size w w1 ∧ w' = wrT w1 (mtSy cv tv lv T E) k := by
  simp only [mtSy, List.length_append] at hk ⊢
  have hkc : k + ((trR 3 cv).length : Int) + ((mtTaR T tv).length : Int) + ((mtEnR E lv).length : Int) ≤ 9223372036854775807 := by push_cast at hk; omega
  have HC := (show Hid (∀ o, RowSh 3 (w.alloc o) cv) from fun o => hc.set (IntSet.below ((Below.refl _ _).alloc (Nat.le_refl _) o)))
  have HT := (show Hid (∀ o, TasSh (w.alloc o) tv T) from fun o => ht.set (IntSet.below ((Below.refl _ _).alloc (Nat.le_refl _) o)))
  have HL := (show Hid (∀ o, EnsSh (w.alloc o) lv E) from fun o => hl.set (IntSet.below ((Below.refl _ _).alloc (Nat.le_refl _) o)))
  have HA := (show Hid (∀ o, Below w.heap.size w (w.alloc o)) from fun o => (Below.refl _ _).alloc (Nat.le_refl _) o)
  clear hc ht hl hk
  go_enter Try.func29, Try.ntmps29
  go_wp2_with fail
  refine (markCellS_tr cv _ _ (HC.out _) (by omega) (by omega)).mono ?_
  rintro e w2 ⟨rfl, ew2⟩
  have S2 : IntSet (w.alloc (.cells #[cv, tv, .int .i64 c, lv] 32)) w2 := by rw [ew2]; exact wrT_set (fun a ha => (RowSh.trail (HC.out _) a ha).1) _
  have c1 : w2.cell? ⟨w.heap.size, 1, none⟩ = some tv := TasSh.cell (HT.out (.cells #[cv, tv, .int .i64 c, lv] 32)) S2 (by simp)
  have c3 : w2.cell? ⟨w.heap.size, 3, none⟩ = some lv := EnsSh.cell (HL.out (.cells #[cv, tv, .int .i64 c, lv] 32)) S2 (by simp)
  have HT2 := (show Hid (TasSh _ _ _) from TasSh.set (HT.out _) S2)
  have HL2 := (show Hid (EnsSh _ _ _) from EnsSh.set (HL.out _) S2)
  have E2 := (show Hid (w2 = _) from ew2)
  have C3 := (show Hid (_ = _) from c3)
  clear ew2 S2 HT HL HC c3
  go_wp2_with fail
  refine (markTaskS_tr tv T _ _ HT2.out (by omega) (by omega)).mono ?_
  rintro e w3 ⟨rfl, ew3⟩
  have S3 : IntSet w2 w3 := by rw [ew3]; exact wrT_set (fun a ha => (TasSh.trail HT2.out a ha).1) _
  have c3 : w3.cell? ⟨w.heap.size, 3, none⟩ = some lv := EnsSh.cell HL2.out S3 C3.out
  have HL3 := (show Hid (EnsSh _ _ _) from EnsSh.set HL2.out S3)
  have E3 := (show Hid (w3 = _) from ew3)
  clear ew3 HT2 HL2 S3 c1 C3
  go_wp2_with fail
  refine (markEntryS_tr lv E _ _ HL3.out (by omega) (by omega)).mono ?_
  rintro e w4 ⟨rfl, ew4⟩
  have E4 := (show Hid (w4 = _) from ew4)
  clear ew4 HL3 c3
  go_wp2_with fail
  go_ret
  refine ⟨?_, _, HA.out (.cells #[cv, tv, .int .i64 c, lv] 32), ?_⟩
  · rw [show k + (((trR 3 cv).length + ((mtTaR T tv).length + (mtEnR E lv).length) : Nat) : Int) = k + ↑(trR 3 cv).length + ↑(mtTaR T tv).length + ↑(mtEnR E lv).length by push_cast; omega]
    rfl
  · rw [wrT_app, wrT_app, E4.out, E3.out, E2.out]
set_option maxHeartbeats 1000000 in
theorem heldSys_tr (cv tv lv : Value) (c k : Int) (T : List (Value × Value × Value × Value)) (E : List (Value × Value)) (w : World) (hc : RowSh 3 w cv) (ht : TasSh w tv T) (hl : EnsSh w lv E) (hH : HeldT w (mtSy cv tv lv T E) k) (hk0 : 0 ≤ k) (hk : k + (mtSy cv tv lv T E).length ≤ 9223372036854775807) :
    Calls Try.prog 30 #[.agg #[cv, tv, .int .i64 c, lv], .int .i64 k] w fun e w' => e = .returned (.int .i64 (k + (mtSy cv tv lv T E).length)) ∧ Below w.heap.size w w' := by
  have hlt : ∀ a, a ∈ mtSy cv tv lv T E → a.block < w.heap.size := fun a ha => by
    rcases List.mem_append.1 ha with h1 | h1
    · exact (hc.trail a h1).2
    · rcases List.mem_append.1 h1 with h1 | h1
      · exact (ht.trail a h1).2
      · exact (hl.trail a h1).2
  have HH : Hid (∀ o, HeldT (w.alloc o) (trR 3 cv) k ∧ HeldT (w.alloc o) (mtTaR T tv) (k + (trR 3 cv).length) ∧ HeldT (w.alloc o) (mtEnR E lv) (k + (trR 3 cv).length + (mtTaR T tv).length)) := fun o => by
    have := hH.below hlt ((Below.refl _ _).alloc (Nat.le_refl _) o)
    rw [mtSy, heldT_app, heldT_app] at this
    exact this
  simp only [mtSy, List.length_append] at hk ⊢
  have hkc : k + ((trR 3 cv).length : Int) + ((mtTaR T tv).length : Int) + ((mtEnR E lv).length : Int) ≤ 9223372036854775807 := by push_cast at hk; omega
  have HC := (show Hid (∀ o, RowSh 3 (w.alloc o) cv) from fun o => hc.set (IntSet.below ((Below.refl _ _).alloc (Nat.le_refl _) o)))
  have HT := (show Hid (∀ o, TasSh (w.alloc o) tv T) from fun o => ht.set (IntSet.below ((Below.refl _ _).alloc (Nat.le_refl _) o)))
  have HL := (show Hid (∀ o, EnsSh (w.alloc o) lv E) from fun o => hl.set (IntSet.below ((Below.refl _ _).alloc (Nat.le_refl _) o)))
  have HA := (show Hid (∀ o, Below w.heap.size w (w.alloc o)) from fun o => (Below.refl _ _).alloc (Nat.le_refl _) o)
  clear hc ht hl hk hH hlt
  go_enter Try.func30, Try.ntmps30
  go_wp2_with fail
  refine (heldCellS_tr cv _ _ (HC.out _) (HH.out _).1 (by omega) (by omega)).mono ?_
  rintro e w2 ⟨rfl, rfl⟩
  have q1 : ¬ (k + ↑(trR 3 cv).length < 0) := by omega
  go_wp2_with fail
  refine (heldTaskS_tr tv T _ _ (HT.out _) (HH.out _).2.1 (by omega) (by omega)).mono ?_
  rintro e w3 ⟨rfl, rfl⟩
  have q2 : ¬ (k + ↑(trR 3 cv).length + ↑(mtTaR T tv).length < 0) := by omega
  go_wp2_with fail
  refine (heldEntryS_tr lv E _ _ (HL.out _) (HH.out _).2.2 (by omega) (by omega)).mono ?_
  rintro e w4 ⟨rfl, rfl⟩
  have q3 : ¬ (k + ↑(trR 3 cv).length + ↑(mtTaR T tv).length + ↑(mtEnR E lv).length < 0) := by omega
  go_wp2_with fail
  go_ret
  refine ⟨?_, HA.out _⟩
  rw [show k + (((trR 3 cv).length + ((mtTaR T tv).length + (mtEnR E lv).length) : Nat) : Int) = k + ↑(trR 3 cv).length + ↑(mtTaR T tv).length + ↑(mtEnR E lv).length by push_cast; omega]
  rfl
end Go.Proofs.Ytgbgjljflgbcaaa
