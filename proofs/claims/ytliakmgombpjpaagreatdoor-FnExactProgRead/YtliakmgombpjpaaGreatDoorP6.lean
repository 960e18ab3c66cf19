import Derived.Test.YtliakmgombpjpaaGreatDoorP5
namespace Go.Proofs.YtliakmgombpjpaaGreatDoor
open Go.RowKit
set_option linter.unusedSimpArgs false
set_option linter.unusedVariables false

/-! ### Programs in form that have one text are one program -/
theorem split_at {c : UInt8} {a : List UInt8} : ∀ {b r s : List UInt8}, c ∉ a → c ∉ b → a ++ c :: r = b ++ c :: s → a = b ∧ r = s := by
  induction a with
  | nil =>
    intro b r s _ hb h
    cases b with
    | nil => simp at h; exact ⟨rfl, h⟩
    | cons y b => simp at h; simp [h.1] at hb
  | cons x a ih =>
    intro b r s ha hb h
    cases b with
    | nil => simp at h; simp [h.1] at ha
    | cons y b =>
      simp at h ha hb
      obtain ⟨h1, h2⟩ := ih ha.2 hb.2 h.2
      exact ⟨by rw [h.1, h1], h2⟩
theorem term_inj {α : Type} {c : UInt8} {f : α → List UInt8} {P : α → Prop} (hc : ∀ x, P x → c ∉ f x) (hf : ∀ x y, P x → P y → f x = f y → x = y) : ∀ (l m : List α), (∀ x, x ∈ l → P x) → (∀ x, x ∈ m → P x) → l.flatMap (fun x => f x ++ [c]) = m.flatMap (fun x => f x ++ [c]) → l = m := by
  intro l
  induction l with
  | nil =>
    intro m _ _ h
    cases m with
    | nil => rfl
    | cons y m => simp at h
  | cons x l ih =>
    intro m hl hm h
    cases m with
    | nil => simp at h
    | cons y m =>
      have hx := hl x List.mem_cons_self
      have hy := hm y List.mem_cons_self
      simp only [List.flatMap_cons, List.append_assoc, List.singleton_append] at h
      obtain ⟨h1, h2⟩ := split_at (hc x hx) (hc y hy) h
      rw [hf x y hx hy h1, ih m (fun z hz => hl z (List.mem_cons_of_mem _ hz)) (fun z hz => hm z (List.mem_cons_of_mem _ hz)) h2]
theorem sep_term {α : Type} (c : UInt8) (f : α → List UInt8) (l : List α) : l.flatMap (fun x => [c] ++ f x) ++ [c] = c :: l.flatMap (fun x => f x ++ [c]) := by
  induction l with
  | nil => rfl
  | cons x l ih =>
    simp only [List.flatMap_cons, List.append_assoc, List.singleton_append, List.cons_append] at *
    rw [ih]
    simp
theorem sep_inj {α : Type} {c : UInt8} {f : α → List UInt8} {P : α → Prop} (hc : ∀ x, P x → c ∉ f x) (hf : ∀ x y, P x → P y → f x = f y → x = y) (l m : List α) (hl : ∀ x, x ∈ l → P x) (hm : ∀ x, x ∈ m → P x) (h : l.flatMap (fun x => [c] ++ f x) = m.flatMap (fun x => [c] ++ f x)) : l = m := by
  refine term_inj hc hf l m hl hm ?_
  have h1 := sep_term c f l
  rw [h, sep_term c f m] at h1
  injection h1 with _ h2
  exact h2.symm

def xAt (l : List UInt8) (i : Nat) : Int := ((l.getD i 0).toNat : Int)
def numOf (l : List UInt8) : Int := if l.length = 1 then xAt l 0 - 48 else (xAt l 0 - 48) * 10 + (xAt l 1 - 48)
def deOf (l : List UInt8) : De :=
  if l.length = 2 then ⟨5, xAt l 0 - 114, 0⟩ else if xAt l 1 = 43 then ⟨4, xAt l 0 - 114, xAt l 2 - 114⟩ else if xAt l 0 < 90 then ⟨2, xAt l 0 - 65, xAt l 2 - 114⟩
  else if 64 < xAt l 2 then ⟨1, xAt l 0 - 114, xAt l 2 - 65⟩ else if l.length = 3 then ⟨3, xAt l 0 - 114, xAt l 2 - 48⟩ else ⟨3, xAt l 0 - 114, (xAt l 2 - 48) * 10 + (xAt l 3 - 48)⟩
def plain (l : List UInt8) : Bool := !(l.contains 32) && !(l.contains 10)
theorem dec_all : ((List.range 100).all fun (n : Nat) => decide (numOf (decT n) = n) && plain (decT n)) = true := by kernel_rfl
def deFit (d : De) : Bool := decide ((deOf (deT d)).k = d.k) && decide ((deOf (deT d)).a = d.a) && decide ((deOf (deT d)).b = d.b) && plain (deT d)
theorem de_all : ((List.range 3).all fun (a : Nat) => (List.range 3).all fun (b : Nat) => deFit ⟨1, a, b⟩ && deFit ⟨2, a, b⟩ && deFit ⟨4, a, b⟩ && deFit ⟨5, a, 0⟩) = true := by kernel_rfl
theorem num_all : ((List.range 3).all fun (a : Nat) => (List.range 100).all fun (b : Nat) => deFit ⟨3, a, b⟩) = true := by kernel_rfl
theorem plain_not {l : List UInt8} (h : plain l = true) : (32 : UInt8) ∉ l ∧ (10 : UInt8) ∉ l := by
  unfold plain at h
  simp at h
  exact h
theorem dec_fit {k : Int} (h : 0 ≤ k ∧ k < 100) : numOf (decT k) = k ∧ plain (decT k) = true := by
  obtain ⟨n, rfl, hn⟩ := num_nat h
  have := List.all_eq_true.1 dec_all n (List.mem_range.2 hn)
  simpa using this
theorem dec_inj {k m : Int} (h : 0 ≤ k ∧ k < 100) (h2 : 0 ≤ m ∧ m < 100) (e : decT k = decT m) : k = m := by
  rw [← (dec_fit h).1, ← (dec_fit h2).1, e]
theorem three {a : Int} (h : 0 ≤ a ∧ a < 3) : ∃ n : Nat, a = (n : Int) ∧ n < 3 := ⟨a.toNat, by omega, by omega⟩
theorem de_fit {d : De} {c : Int} (h : deB d c = true) (hc : c ≤ 3) : deFit d = true := by
  obtain ⟨k, a, b⟩ := d
  have hx := deB_cases h hc
  dsimp only at hx
  rcases hx with ⟨rfl, h1, h2⟩ | ⟨rfl, h2, h1⟩ | ⟨rfl, h1, h2⟩ | ⟨rfl, h1, h2⟩ | ⟨rfl, h1, rfl⟩
  · obtain ⟨n, rfl, hn⟩ := three h1
    obtain ⟨m, rfl, hm⟩ := three h2
    have := List.all_eq_true.1 (List.all_eq_true.1 de_all n (List.mem_range.2 hn)) m (List.mem_range.2 hm)
    simp only [Bool.and_eq_true] at this
    exact this.1.1.1
  · obtain ⟨n, rfl, hn⟩ := three h1
    obtain ⟨m, rfl, hm⟩ := three h2
    have := List.all_eq_true.1 (List.all_eq_true.1 de_all n (List.mem_range.2 hn)) m (List.mem_range.2 hm)
    simp only [Bool.and_eq_true] at this
    exact this.1.1.2
  · obtain ⟨n, rfl, hn⟩ := three h1
    obtain ⟨m, rfl, hm⟩ := num_nat h2
    exact List.all_eq_true.1 (List.all_eq_true.1 num_all n (List.mem_range.2 hn)) m (List.mem_range.2 hm)
  · obtain ⟨n, rfl, hn⟩ := three h1
    obtain ⟨m, rfl, hm⟩ := three h2
    have := List.all_eq_true.1 (List.all_eq_true.1 de_all n (List.mem_range.2 hn)) m (List.mem_range.2 hm)
    simp only [Bool.and_eq_true] at this
    exact this.1.2
  · obtain ⟨n, rfl, hn⟩ := three h1
    have := List.all_eq_true.1 (List.all_eq_true.1 de_all n (List.mem_range.2 hn)) 0 (List.mem_range.2 (by omega))
    simp only [Bool.and_eq_true] at this
    exact this.2
def FitD (d : De) : Prop := deFit d = true
theorem fitD_parts {d : De} (h : FitD d) : deOf (deT d) = d ∧ plain (deT d) = true := by
  unfold FitD deFit at h
  simp only [Bool.and_eq_true, decide_eq_true_eq] at h
  obtain ⟨⟨⟨h1, h2⟩, h3⟩, h4⟩ := h
  refine ⟨?_, h4⟩
  obtain ⟨k, a, b⟩ := d
  generalize deOf (deT ⟨k, a, b⟩) = e at *
  obtain ⟨k', a', b'⟩ := e
  simp at h1 h2 h3
  rw [h1, h2, h3]
theorem de_inj {d e : De} (h : FitD d) (h2 : FitD e) (eq : deT d = deT e) : d = e := by
  rw [← (fitD_parts h).1, ← (fitD_parts h2).1, eq]
def FitN (k : Int) : Prop := 0 ≤ k ∧ k < 100
theorem nuT_inj (l m : List Int) (hl : ∀ x, x ∈ l → FitN x) (hm : ∀ x, x ∈ m → FitN x) (h : nuT l = nuT m) : l = m :=
  sep_inj (P := FitN) (fun x hx => (plain_not (dec_fit hx).2).1) (fun x y hx hy => dec_inj hx hy) l m hl hm h
theorem dsT_inj (l m : List De) (hl : ∀ x, x ∈ l → FitD x) (hm : ∀ x, x ∈ m → FitD x) (h : dsT l = dsT m) : l = m :=
  sep_inj (P := FitD) (fun x hx => (plain_not (fitD_parts hx).2).1) (fun x y hx hy => de_inj hx hy) l m hl hm h
theorem nuT_plain (l : List Int) (hl : ∀ x, x ∈ l → FitN x) : (10 : UInt8) ∉ nuT l := by
  unfold nuT
  intro h
  obtain ⟨x, hx, h1⟩ := List.mem_flatMap.1 h
  simp at h1
  exact (plain_not (dec_fit (hl x hx)).2).2 h1
theorem dsT_plain (l : List De) (hl : ∀ x, x ∈ l → FitD x) : (10 : UInt8) ∉ dsT l := by
  unfold dsT
  intro h
  obtain ⟨x, hx, h1⟩ := List.mem_flatMap.1 h
  simp at h1
  exact (plain_not (fitD_parts (hl x hx)).2).2 h1

/-- an act that is in form somewhere -/
def FitA (x : Ac) : Prop := (x.k = 1 ∧ x.ks = [] ∧ x.r = 0 ∧ (∀ d, d ∈ x.ds → FitD d)) ∨ (x.k = 2 ∧ x.ds = [] ∧ x.r = 0 ∧ (∀ k, k ∈ x.ks → FitN k)) ∨ (x.k = 3 ∧ x.ds = [] ∧ x.ks = [] ∧ x.r = 0) ∨ (x.k = 4 ∧ x.ds = [] ∧ x.ks = [] ∧ 0 ≤ x.r ∧ x.r < 3)
theorem fitA_of {x : Ac} {nc body nb : Int} (h : acB x nc body nb = true) (hnc : nc ≤ 3) (hb : 0 ≤ body) (hnb : nb ≤ 4) : FitA x := by
  rcases acB_cases h with ⟨e1, e2, e3, e4, e5⟩ | ⟨e1, e2, e3, e4, e5⟩ | ⟨e1, e2, e3, e4⟩ | ⟨e1, e2, e3, e4, e5⟩
  · exact .inl ⟨e1, List.length_eq_zero_iff.1 e2, e3, fun d hd => de_fit (e5 d hd) hnc⟩
  · exact .inr (.inl ⟨e1, List.length_eq_zero_iff.1 e2, e3, fun k hk => by have := e5 k hk; exact ⟨by omega, by omega⟩⟩)
  · exact .inr (.inr (.inl ⟨e1, List.length_eq_zero_iff.1 e2, List.length_eq_zero_iff.1 e3, e4⟩))
  · exact .inr (.inr (.inr ⟨e1, List.length_eq_zero_iff.1 e2, List.length_eq_zero_iff.1 e3, e4, e5⟩))
theorem reT_inj {a b : Int} (h : 0 ≤ a ∧ a < 3) (h2 : 0 ≤ b ∧ b < 3) (e : reT a = reT b) : a = b := by
  have ha : a = 0 ∨ a = 1 ∨ a = 2 := by omega
  have hb : b = 0 ∨ b = 1 ∨ b = 2 := by omega
  rcases ha with rfl | rfl | rfl <;> rcases hb with rfl | rfl | rfl <;> first | rfl | exact absurd e (by decide)
theorem reT_plain {a : Int} (h : 0 ≤ a ∧ a < 3) : (10 : UInt8) ∉ reT a := by
  have ha : a = 0 ∨ a = 1 ∨ a = 2 := by omega
  rcases ha with rfl | rfl | rfl <;> decide
theorem ac_ext {x y : Ac} (h1 : x.k = y.k) (h2 : x.ds = y.ds) (h3 : x.ks = y.ks) (h4 : x.r = y.r) : x = y := by
  obtain ⟨a, b, c, d⟩ := x
  obtain ⟨a', b', c', d'⟩ := y
  simp at h1 h2 h3 h4
  rw [h1, h2, h3, h4]
theorem acT_plain {x : Ac} (h : FitA x) : (10 : UInt8) ∉ acT x ∧ acT x ≠ [98, 111, 100, 121] := by
  rcases h with ⟨e1, e2, e3, e4⟩ | ⟨e1, e2, e3, e4⟩ | ⟨e1, e2, e3, e4⟩ | ⟨e1, e2, e3, e4, e5⟩
  · rw [acT_1 e1]
    exact ⟨by simp [dsT_plain _ e4], by simp⟩
  · rw [acT_2 e1]
    exact ⟨by simp [nuT_plain _ e4], by simp⟩
  · rw [acT_3 e1]
    exact ⟨by decide, by decide⟩
  · rw [acT_4 e1]
    exact ⟨by simp [reT_plain ⟨e4, e5⟩], by simp⟩
theorem acT_inj {x y : Ac} (h : FitA x) (h2 : FitA y) (e : acT x = acT y) : x = y := by
  rcases h with ⟨e1, e2, e3, e4⟩ | ⟨e1, e2, e3, e4⟩ | ⟨e1, e2, e3, e4⟩ | ⟨e1, e2, e3, e4, e5⟩
  · rcases h2 with ⟨f1, f2, f3, f4⟩ | ⟨f1, f2, f3, f4⟩ | ⟨f1, f2, f3, f4⟩ | ⟨f1, f2, f3, f4, f5⟩
    · rw [acT_1 e1, acT_1 f1] at e
      exact ac_ext (by rw [e1, f1]) (dsT_inj _ _ e4 f4 (List.append_cancel_left e)) (by rw [e2, f2]) (by rw [e3, f3])
    · rw [acT_1 e1, acT_2 f1] at e; simp at e
    · rw [acT_1 e1, acT_3 f1] at e; simp at e
    · rw [acT_1 e1, acT_4 f1] at e; simp at e
  · rcases h2 with ⟨f1, f2, f3, f4⟩ | ⟨f1, f2, f3, f4⟩ | ⟨f1, f2, f3, f4⟩ | ⟨f1, f2, f3, f4, f5⟩
    · rw [acT_2 e1, acT_1 f1] at e; simp at e
    · rw [acT_2 e1, acT_2 f1] at e
      exact ac_ext (by rw [e1, f1]) (by rw [e2, f2]) (nuT_inj _ _ e4 f4 (List.append_cancel_left e)) (by rw [e3, f3])
    · rw [acT_2 e1, acT_3 f1] at e; simp at e
    · rw [acT_2 e1, acT_4 f1] at e; simp at e
  · rcases h2 with ⟨f1, f2, f3, f4⟩ | ⟨f1, f2, f3, f4⟩ | ⟨f1, f2, f3, f4⟩ | ⟨f1, f2, f3, f4, f5⟩
    · rw [acT_3 e1, acT_1 f1] at e; simp at e
    · rw [acT_3 e1, acT_2 f1] at e; simp at e
    · exact ac_ext (by rw [e1, f1]) (by rw [e2, f2]) (by rw [e3, f3]) (by rw [e4, f4])
    · rw [acT_3 e1, acT_4 f1] at e; simp at e
  · rcases h2 with ⟨f1, f2, f3, f4⟩ | ⟨f1, f2, f3, f4⟩ | ⟨f1, f2, f3, f4⟩ | ⟨f1, f2, f3, f4, f5⟩
    · rw [acT_4 e1, acT_1 f1] at e; simp at e
    · rw [acT_4 e1, acT_2 f1] at e; simp at e
    · rw [acT_4 e1, acT_3 f1] at e; simp at e
    · rw [acT_4 e1, acT_4 f1] at e
      exact ac_ext (by rw [e1, f1]) (by rw [e2, f2]) (by rw [e3, f3]) (reT_inj ⟨e4, e5⟩ ⟨f4, f5⟩ (List.append_cancel_left e))

/-- lists that are cut by a mark -/
theorem cut_inj {α : Type} (B : α) {a : List α} : ∀ {b r s : List α}, (∀ x, x ∈ a → x ≠ B) → (∀ x, x ∈ b → x ≠ B) → (r = [] ∨ ∃ t, r = B :: t) → (s = [] ∨ ∃ t, s = B :: t) → a ++ r = b ++ s → a = b ∧ r = s := by
  induction a with
  | nil =>
    intro b r s _ hb hr hs h
    cases b with
    | nil => exact ⟨rfl, by simpa using h⟩
    | cons y b =>
      rcases hr with rfl | ⟨t, rfl⟩
      · simp at h
      · simp at h
        exact absurd h.1.symm (hb y List.mem_cons_self)
  | cons x a ih =>
    intro b r s ha hb hr hs h
    cases b with
    | nil =>
      rcases hs with rfl | ⟨t, rfl⟩
      · simp at h
      · simp at h
        exact absurd h.1 (ha x List.mem_cons_self)
    | cons y b =>
      simp at h
      obtain ⟨h1, h2⟩ := ih (fun z hz => ha z (List.mem_cons_of_mem _ hz)) (fun z hz => hb z (List.mem_cons_of_mem _ hz)) hr hs h.2
      exact ⟨by rw [h.1, h1], h2⟩
def BW : List UInt8 := [98, 111, 100, 121]
def lines (bodies : List (List Ac)) : List (List UInt8) := bodies.flatMap fun acts => BW :: acts.map acT
theorem bsT_lines (bodies : List (List Ac)) : bsT bodies = (lines bodies).flatMap fun l => l ++ [10] := by
  induction bodies with
  | nil => rfl
  | cons acts bodies ih =>
    unfold bsT lines at *
    simp only [List.flatMap_cons, List.flatMap_append, ih, boT, asT, List.flatMap_map, BW]
    simp [List.flatMap_cons]
theorem lines_head (bodies : List (List Ac)) : lines bodies = [] ∨ ∃ t, lines bodies = BW :: t := by
  cases bodies with
  | nil => exact .inl rfl
  | cons a bs => exact .inr ⟨_, by unfold lines; simp only [List.flatMap_cons, List.cons_append]; rfl⟩
theorem map_inj {l : List Ac} : ∀ {m : List Ac}, (∀ a, a ∈ l → FitA a) → (∀ a, a ∈ m → FitA a) → l.map acT = m.map acT → l = m := by
  induction l with
  | nil =>
    intro m _ _ h
    cases m with
    | nil => rfl
    | cons y m => simp at h
  | cons x l ih =>
    intro m hl hm h
    cases m with
    | nil => simp at h
    | cons y m =>
      simp at h
      rw [acT_inj (hl x List.mem_cons_self) (hm y List.mem_cons_self) h.1, ih (fun a ha => hl a (List.mem_cons_of_mem _ ha)) (fun a ha => hm a (List.mem_cons_of_mem _ ha)) h.2]
theorem lines_inj {l : List (List Ac)} : ∀ {m : List (List Ac)}, (∀ b, b ∈ l → ∀ a, a ∈ b → FitA a) → (∀ b, b ∈ m → ∀ a, a ∈ b → FitA a) → lines l = lines m → l = m := by
  induction l with
  | nil =>
    intro m _ _ h
    cases m with
    | nil => rfl
    | cons y m => simp [lines] at h
  | cons x l ih =>
    intro m hl hm h
    cases m with
    | nil => simp [lines] at h
    | cons y m =>
      have h1 : x.map acT ++ lines l = y.map acT ++ lines m := by
        unfold lines at h ⊢
        simp only [List.flatMap_cons, List.cons_append] at h
        injection h
      have np : ∀ (b : List Ac), (∀ a, a ∈ b → FitA a) → ∀ z, z ∈ b.map acT → z ≠ BW := fun b hb z hz => by
        obtain ⟨a, ha, rfl⟩ := List.mem_map.1 hz
        exact (acT_plain (hb a ha)).2
      obtain ⟨h2, h3⟩ := cut_inj BW (np x (hl x List.mem_cons_self)) (np y (hm y List.mem_cons_self)) (lines_head l) (lines_head m) h1
      rw [map_inj (hl x List.mem_cons_self) (hm y List.mem_cons_self) h2, ih (fun b hb => hl b (List.mem_cons_of_mem _ hb)) (fun b hb => hm b (List.mem_cons_of_mem _ hb)) h3]
theorem lines_plain {l : List (List Ac)} (h : ∀ b, b ∈ l → ∀ a, a ∈ b → FitA a) : ∀ x, x ∈ lines l → (10 : UInt8) ∉ x := fun x hx => by
  unfold lines at hx
  obtain ⟨b, hb, h1⟩ := List.mem_flatMap.1 hx
  rcases List.mem_cons.1 h1 with rfl | h2
  · decide
  · obtain ⟨a, ha, rfl⟩ := List.mem_map.1 h2
    exact (acT_plain (h b hb a ha)).1
theorem ok_fit {p : Pr} (h : okB p = true) : (∀ k, k ∈ p.cells → FitN k) ∧ ∀ b, b ∈ p.bodies → ∀ a, a ∈ b → FitA a := by
  obtain ⟨h1, h2, h3, h4⟩ := ok_cells h
  refine ⟨h3, fun b hb a ha => ?_⟩
  obtain ⟨i, hi, rfl⟩ := mem_nth [] hb
  exact fitA_of ((boB_acts (h4 i hi)).2 a ha) (by omega) (by omega) (by omega)
/-- programs in form that have one text are one -/
theorem prT_inj {p q : Pr} (hp : okB p = true) (hq : okB q = true) (h : prT p = prT q) : p = q := by
  obtain ⟨p1, p2⟩ := ok_fit hp
  obtain ⟨q1, q2⟩ := ok_fit hq
  unfold prT at h
  simp only [List.append_assoc] at h
  have h1 := List.append_cancel_left h
  obtain ⟨h2, h3⟩ := split_at (nuT_plain _ p1) (nuT_plain _ q1) h1
  rw [bsT_lines, bsT_lines] at h3
  have h4 := term_inj (P := fun l : List UInt8 => (10 : UInt8) ∉ l) (f := fun l => l) (fun x hx => hx) (fun x y _ _ e => e) _ _ (lines_plain p2) (lines_plain q2) h3
  obtain ⟨pc, pb⟩ := p
  obtain ⟨qc, qb⟩ := q
  have e1 := nuT_inj _ _ p1 q1 h2
  have e2 := lines_inj p2 q2 h4
  dsimp only at e1 e2
  rw [e1, e2]
theorem prT_ne (p : Pr) : prT p ≠ [] := by unfold prT; simp

end Go.Proofs.YtliakmgombpjpaaGreatDoor
