import Derived.Test.YtgbgjljflgbcaaaSo13
import Derived.Test.YtgbgjljflgbcaaaSo05
import Derived.Test.YtgbgjljflgbcaaaSo12
import Derived.Handy
import Derived.Test.YtgbgjljflgbcaaaSo01
import Derived.WalkKit
import Derived.Deep.RegionHeld3
import Derived.Deep.AppendLies
namespace Go.Proofs.Ytgbgjljflgbcaaa
open Go.RowKit
set_option linter.unusedSimpArgs false
set_option linter.unusedVariables false
def Form1 (s s' : Sy) (i : Nat) : Prop := ∃ t, s'.tasks = s.tasks.set i t /\ t.way = (tkN s i).way /\ t.body = (tkN s i).body /\ t.up = (tkN s i).up
theorem Form1.again (s : Sy) (i : Nat) : Form1 s (againS s i) i := ⟨_, rfl, rfl, rfl, rfl⟩
theorem Form1.end (s : Sy) (i : Nat) (w : Int) : Form1 s (endS s i w) i := ⟨_, rfl, rfl, rfl, rfl⟩
theorem Form1.set {s : Sy} {i : Nat} {t : Ta} (e1 : t.way = (tkN s i).way) (e2 : t.body = (tkN s i).body) (e3 : t.up = (tkN s i).up) : Form1 s (setTk s i t) i := ⟨t, rfl, e1, e2, e3⟩
theorem Form1.write {s : Sy} {i : Nat} (hi : i < s.tasks.length) : Form1 s (writeS s i) i := by
 unfold writeS
 split
 . rw [write_end hi]; exact ⟨_, rfl, rfl, rfl, rfl⟩
 . exact ⟨_, rfl, rfl, rfl, rfl⟩
theorem Form1.try {s : Sy} {i : Nat} (hi : i < s.tasks.length) (ds : List De) : Form1 s (tryS s i ds) i := by
 unfold tryS
 split
 . exact .set rfl rfl rfl
 split
 . unfold deedS
   split
   . unfold deed1 loadS
     split
     . split
       . exact .set rfl rfl rfl
       . split
         . exact .again s i
         . exact .set rfl rfl rfl
     split
     . exact .set rfl rfl rfl
     split
     . split
       . exact ⟨{ againT (tkN s i) with when_ := (tkN s i).since + 1 }, by simp only [setTk, againS, List.set_set], rfl, rfl, rfl⟩
       . exact .set rfl rfl rfl
     . exact .set rfl rfl rfl
   . split
     . exact .end s i _
     . exact .set rfl rfl rfl
 split
 . unfold lockS
   split
   . exact .again s i
   . split <;> exact ⟨_, rfl, rfl, rfl, rfl⟩
 split
 . exact ⟨_, rfl, rfl, rfl, rfl⟩
 split
 . unfold checkS
   split
   . split
     . exact .again s i
     . exact .set rfl rfl rfl
   . exact .set rfl rfl rfl
 . exact .write hi
theorem Form1.tk {s s' : Sy} {i : Nat} (h : Form1 s s' i) (hi : i < s.tasks.length) (k : Nat) : (tkN s' k).way = (tkN s k).way /\ (tkN s' k).up = (tkN s k).up /\ (k ≠ i -> tkN s' k = tkN s k) := by
 obtain ⟨t, e, h1, h2, h3⟩ := h
 have : tkN s' k = if i = k then t else tkN s k := by
   rw [<- tkN_set (s := s) (t := t) hi]; unfold tkN setTk; rw [e]
 rw [this]
 by_cases q : i = k
 . subst q; simp [h1, h3]
 . simp [q]
structure NvT (p : Pr) (t : Ta) : Prop where
 pc : t.way = 1 -> t.pc < (acts p t).length
 st : t.way ≠ 0 -> t.stage = 0
def Nv (p : Pr) (s : Sy) : Prop := ∀ i, i < s.tasks.length -> NvT p (tkN s i)
structure Bd (p : Pr) (s : Sy) : Prop where
 b : bud p s <= 7
 l : s.log.length <= pcs s
structure Inv (p : Pr) (s : Sy) : Prop where
 np : Np p s
 nv : Nv p s
 bd : Bd p s
theorem Bd.n7 {p : Pr} {s : Sy} (h : Bd p s) : s.tasks.length <= 7 := by
 have : ∀ l : List Ta, l.length <= (l.map fun t => 1 + rest p t).sum := by
  intro l
  induction l with
  | nil => simp
  | cons a l ih => simp only [List.length_cons, List.map_cons, List.sum_cons]; omega
 exact Nat.le_trans (this _) h.b
theorem Bd.mono {p : Pr} {s s' : Sy} (h : Bd p s) (k : Lq p s s') : Bd p s' := ⟨Nat.le_trans k.b h.b, by have := h.l; have := k.l; omega⟩
theorem Np.l28 {p : Pr} {s : Sy} (h : Np p s) (hb : Bd p s) : s.log.length <= 28 := by
 have h7 := hb.n7
 have h4 : ∀ t, t ∈ s.tasks -> t.pc.toNat <= 4 := by
  intro t ht
  obtain ⟨i, hi, e⟩ := List.getElem_of_mem ht
  have hT := h.t i hi
  have e' : tkN s i = t := by rw [<- e]; exact nth_eq Ta.z s.tasks i hi
  rw [e'] at hT
  have h1 := hT.pc
  have h2 := hT.body
  have hf := h.ok
  simp only [okB, foB, Bool.and_eq_true, List.all_eq_true, List.mem_range] at hf
  have := hf.1.2 t.body.toNat (by omega)
  simp only [boB, Bool.and_eq_true, decide_eq_true_eq] at this
  unfold acts at h1
  omega
 have : ∀ l : List Ta, (∀ t, t ∈ l -> t.pc.toNat <= 4) -> (l.map fun t => t.pc.toNat).sum <= 4 * l.length := by
  intro l
  induction l with
  | nil => simp
  | cons a l ih =>
   intro h
   have h1 := h a (by simp)
   have h2 := ih (fun t ht => h t (by simp [ht]))
   simp only [List.length_cons, List.map_cons, List.sum_cons]; omega
 have := this _ h4
 have := hb.l
 unfold pcs at this
 omega
theorem Nv.of {p : Pr} {s : Sy} (h : mSoB p s = true) : Nv p s := by
 rw [<- so_eq] at h
 simp only [soB, Bool.and_eq_true] at h
 obtain ⟨⟨⟨⟨h1, h2⟩, h3⟩, h4⟩, h5⟩ := h
 simp only [tksB, Bool.and_eq_true, List.all_eq_true, List.mem_range, inB_iff] at h3
 intro i hi
 have ht := h3.2 i hi
 simp only [tkB, tnB, cgB, Bool.and_eq_true, inB_iff, plB_iff'] at ht
 obtain ⟨⟨⟨⟨⟨⟨⟨⟨a1, a2⟩, a3⟩, a4⟩, a5⟩, a6⟩, b⟩, c⟩, ⟨d1, d2⟩, e1⟩ := ht
 refine ⟨fun hw => ?_, fun hw => ?_⟩
 . unfold wyB at c
   rw [if_pos hw] at c
   simp only [Bool.and_eq_true, decide_eq_true_eq] at c
   by_cases q : (tkN s i).pc = ((acts p (tkN s i)).length : Int)
   . have := c.1; unfold acN at this; rw [if_pos q] at this; simp [Ac.z] at this
   . omega
 . by_cases q : (tkN s i).stage = 0
   . exact q
   . simp [q, hw] at d1
theorem Nv.form {p : Pr} {s s' : Sy} {i : Nat} (h : Nv p s) (hi : i < s.tasks.length) (hl : s'.tasks.length = s.tasks.length) (hf : Form1 s s' i) (hw : (tkN s i).way = 0) : Nv p s' := by
 intro k hk
 have hk' := hf.tk hi k
 by_cases q : k = i
 . subst q
   exact ⟨fun e => by rw [hk'.1, hw] at e; exact absurd e (by omega), fun e => by rw [hk'.1, hw] at e; exact absurd rfl e⟩
 . rw [hk'.2.2 q]; exact h k (by omega)
theorem Nv.set {p : Pr} {s : Sy} (h : Nv p s) {i : Nat} (hi : i < s.tasks.length) {t : Ta} (ht : NvT p t) : Nv p (setTk s i t) := by
 intro k hk
 rw [setTk_len] at hk
 rw [tkN_set hi]
 by_cases e : i = k
 . rw [if_pos e]; exact ht
 . rw [if_neg e]; exact h k hk
theorem Form1.len {s s' : Sy} {i : Nat} (h : Form1 s s' i) : s'.tasks.length = s.tasks.length := by
 obtain ⟨t, e, _⟩ := h; rw [e]; simp
theorem Inv.wrAll {p : Pr} {s : Sy} (h : Np p s) (hv : Nv p s) {i : Nat} (hi : i < s.tasks.length) (n : Nat) : Nv p (wrAll n s i) := by
 induction n generalizing s with
 | zero => exact hv
 | succ n ih =>
   unfold Go.Proofs.Ytgbgjljflgbcaaa.wrAll
   split
   . rename_i e
     have hw : (tkN s i).way = 0 := by
       by_cases q : (tkN s i).way = 0
       . exact q
       . have := (hv i hi).st q; omega
     exact ih (h.write hi e) (hv.form hi (writeS_len s i) (.write hi) hw) (by rw [writeS_len]; exact hi)
   . exact hv
theorem Nv.offB {p : Pr} {s : Sy} (h : Np p s) (hv : Nv p s) {i : Nat} (hi : i < s.tasks.length) : Nv p (offB s i) := by
 unfold Go.Proofs.Ytgbgjljflgbcaaa.offB
 split
 . exact hv
 . have l1 : i < (Go.Proofs.Ytgbgjljflgbcaaa.wrAll 4 s i).tasks.length := by rw [wrAll_len]; exact hi
   have v1 := Inv.wrAll h hv hi 4
   simp only
   split
   . rename_i e
     have hw : (tkN (Go.Proofs.Ytgbgjljflgbcaaa.wrAll 4 s i) i).way = 0 := by
       by_cases q : (tkN (Go.Proofs.Ytgbgjljflgbcaaa.wrAll 4 s i) i).way = 0
       . exact q
       . exact absurd ((v1 i l1).st q) e
     have v2 := v1.form l1 (againS_len _ _) (.again _ _) hw
     refine v2.set (by rw [againS_len]; exact l1) ⟨fun e => absurd e (by show ¬ (4 : Int) = 1; omega), fun _ => ?_⟩
     show (tkN (againS _ i) i).stage = 0
     rw [again_tk l1]; rfl
   . rename_i e
     exact v1.set l1 ⟨fun e => absurd e (by show ¬ (4 : Int) = 1; omega), fun _ => by simpa using e⟩
theorem Nv.kids {p : Pr} {f : Sy -> Nat -> Sy} (hf : ∀ s k, (f s k).tasks.length = s.tasks.length) (hn : ∀ s k, Np p s -> k < s.tasks.length -> Np p (f s k)) (hq : ∀ s k, Np p s -> Nv p s -> k < s.tasks.length -> Nv p (f s k)) {s : Sy} (h : Np p s) (hv : Nv p s) (i : Nat) : ∀ n, n <= s.tasks.length -> Nv p (kidsS f s i n) := by
 intro n
 induction n with
 | zero => intro _; exact hv
 | succ n ih =>
   intro hn'
   have h1 := Np.kids hf hn h i n (by omega)
   have hl := kidsS_len hf s i n
   rw [kidsS_succ]
   split
   . exact hq _ _ h1 (ih (by omega)) (by omega)
   . exact ih (by omega)
theorem Nv.offS {p : Pr} (f : Nat) {s : Sy} (h : Np p s) (hv : Nv p s) {i : Nat} (hi : i < s.tasks.length) : Nv p (offS f s i) := by
 induction f generalizing s i with
 | zero => exact hv
 | succ f ih =>
  unfold Go.Proofs.Ytgbgjljflgbcaaa.offS
  have k1 := Np.kids (offS_len f) (fun s k h hk => h.offS f hk) h i s.tasks.length (Nat.le_refl _)
  have k2 := Nv.kids (offS_len f) (fun s k h hk => h.offS f hk) (fun s k h hv hk => ih h hv hk) h hv i s.tasks.length (Nat.le_refl _)
  exact Nv.offB k1 k2 (by rw [kidsS_len (offS_len f)]; exact hi)
theorem wrAll_other {p : Pr} (n : Nat) {s : Sy} {i j : Nat} (hi : i < s.tasks.length) (hj : j ≠ i) : tkN (wrAll n s i) j = tkN s j := by
 induction n generalizing s with
 | zero => rfl
 | succ n ih =>
   unfold Go.Proofs.Ytgbgjljflgbcaaa.wrAll
   split
   . rw [ih (by rw [writeS_len]; exact hi)]; exact ((Form1.write hi).tk hi j).2.2 hj
   . rfl
theorem offB_other {s : Sy} {i j : Nat} (hi : i < s.tasks.length) (hj : j ≠ i) : tkN (offB s i) j = tkN s j := by
 unfold Go.Proofs.Ytgbgjljflgbcaaa.offB
 split
 . rfl
 . have l1 : i < (Go.Proofs.Ytgbgjljflgbcaaa.wrAll 4 s i).tasks.length := by rw [wrAll_len]; exact hi
   have e1 := wrAll_other (p := ⟨[], []⟩) 4 hi hj
   simp only
   split
   . rw [tkN_set (by rw [againS_len]; exact l1), if_neg (fun e => hj e.symm), ((Form1.again _ _).tk l1 j).2.2 hj, e1]
   . rw [tkN_set l1, if_neg (fun e => hj e.symm), e1]
theorem kids_below {p : Pr} {f : Sy -> Nat -> Sy} (hf : ∀ s k, (f s k).tasks.length = s.tasks.length) (hn : ∀ s k, Np p s -> k < s.tasks.length -> Np p (f s k)) (hb : ∀ s k, Np p s -> k < s.tasks.length -> ∀ j, j < k -> tkN (f s k) j = tkN s j) {s : Sy} (h : Np p s) (i : Nat) : ∀ n, n <= s.tasks.length -> ∀ j, j <= i -> tkN (kidsS f s i n) j = tkN s j := by
 intro n
 induction n with
 | zero => intro _ j _; rfl
 | succ n ih =>
   intro hn' j hj
   have h1 := Np.kids hf hn h i n (by omega)
   have hl := kidsS_len hf s i n
   rw [kidsS_succ]
   split
   . rename_i e
     have hup := (h1.t n (by omega)).up
     have : i < n := by
       rcases Nat.eq_zero_or_pos n with q | q
       . have := hup.1 q; omega
       . have := hup.2 q; omega
     rw [hb _ _ h1 (by omega) j (by omega)]
     exact ih (by omega) j hj
   . exact ih (by omega) j hj
theorem offS_below {p : Pr} (f : Nat) {s : Sy} (h : Np p s) {i : Nat} (hi : i < s.tasks.length) : ∀ j, j < i -> tkN (offS f s i) j = tkN s j := by
 induction f generalizing s i with
 | zero => intro j _; rfl
 | succ f ih =>
  intro j hj
  unfold Go.Proofs.Ytgbgjljflgbcaaa.offS
  rw [offB_other (by rw [kidsS_len (offS_len f)]; exact hi) (by omega)]
  exact kids_below (offS_len f) (fun s k h hk => h.offS f hk) (fun s k h hk => ih h hk) h i _ (Nat.le_refl _) j (by omega)
theorem Inv.await {p : Pr} {s : Sy} (h : Inv p s) {i : Nat} (hi : i < s.tasks.length) (hw : (tkN s i).way = 1) : Inv p (awaitS s i) := by
 have hT := h.np.t i hi
 have hV := h.nv i hi
 unfold awaitS
 split
 . have hpc := hV.pc hw
   have h0 := hV.st (by omega)
   refine ⟨h.np.set hi ⟨hT.body, ⟨by have := hT.pc; simp; omega, by show (tkN s i).pc + 1 <= ((acts p (tkN s i)).length : Int); omega⟩, hT.regs, hT.old, hT.up, hT.reads, hT.puts, .inl h0⟩, h.nv.set hi ⟨fun e => absurd e (by show ¬ (0 : Int) = 1; omega), fun e => absurd rfl e⟩, h.bd.mono (Lq.set hi (rest_le rfl (.inr (.inr ⟨hw, rfl, ?_⟩))) ?_)⟩
   . have := hT.pc; show _ <= ((tkN s i).pc + 1).toNat; omega
   . have := hT.pc; show _ <= ((tkN s i).pc + 1).toNat; omega
 . have k1 := Np.kids (offS_len s.tasks.length) (fun s' k h hk => h.offS _ hk) h.np i s.tasks.length (Nat.le_refl _)
   have k2 := Nv.kids (offS_len s.tasks.length) (fun s' k h hk => h.offS _ hk) (fun s' k h hv hk => Nv.offS _ h hv hk) h.np h.nv i s.tasks.length (Nat.le_refl _)
   have k3 := Lq.kids (offS_len s.tasks.length) (fun s' k h hk => h.offS _ hk) (fun s' k h hk => Lq.offS _ h hk) h.np i s.tasks.length (Nat.le_refl _)
   have l1 : i < (kidsS (Go.Proofs.Ytgbgjljflgbcaaa.offS s.tasks.length) s i s.tasks.length).tasks.length := by rw [kidsS_len (offS_len _)]; exact hi
   have hT1 := k1.t i l1
   -- who waited has no change under way: nor has it now
   have h0 : (tkN (kidsS (Go.Proofs.Ytgbgjljflgbcaaa.offS s.tasks.length) s i s.tasks.length) i).stage = 0 := by
     rw [kids_below (offS_len s.tasks.length) (fun s' k h hk => h.offS _ hk) (fun s' k h hk => offS_below _ h hk) h.np i s.tasks.length (Nat.le_refl _) i (Nat.le_refl _)]
     exact hV.st (by omega)
   refine ⟨k1.set l1 (hT1.upd rfl rfl rfl hT1.regs hT1.old hT1.reads hT1.puts (.inl h0)), k2.set l1 ⟨fun e => absurd e (by show ¬ (3 : Int) = 1; omega), fun _ => h0⟩, (h.bd.mono k3).mono (Lq.set l1 (rest_le rfl (.inr (.inl ⟨by show (3 : Int) ≠ 0; omega, by show (3 : Int) ≠ 1; omega⟩))) (Nat.le_refl _))⟩
theorem Np.try {p : Pr} {s : Sy} (h : Np p s) {i : Nat} (hi : i < s.tasks.length) (hpc : (tkN s i).pc < (acts p (tkN s i)).length) (hk : (nth Ac.z (acts p (tkN s i)) (tkN s i).pc.toNat).k = 1) (hc : s.clock < 200) : Np p (tryS s i (nth Ac.z (acts p (tkN s i)) (tkN s i).pc.toNat).ds) := by
 have hT := h.t i hi
 unfold tryS
 split
 . rename_i e; exact h.set hi (hT.begin s hpc hk e)
 split
 . rename_i e; exact h.deed hi e
 split
 . rename_i e; exact h.lock hi e
 split
 . rename_i e; exact h.time hi e hc
 split
 . rename_i e; exact h.check hi e
 . have := hT.stages
   exact h.write hi (by omega)
theorem tkN_app {s : Sy} {l : List Ta} {i : Nat} (hi : i < s.tasks.length) : tkN { s with tasks := s.tasks ++ l } i = tkN s i := by
 simp [tkN, nth, List.getElem?_append_left hi]
theorem tkN_new {s : Sy} {l : List Ta} {i : Nat} (h1 : s.tasks.length <= i) (h2 : i < (s.tasks ++ l).length) : tkN { s with tasks := s.tasks ++ l } i = nth Ta.z l (i - s.tasks.length) := by
 simp [tkN, nth, List.getElem?_append_right h1]
theorem Inv.fork {p : Pr} {s : Sy} (h : Inv p s) {i : Nat} (hi : i < s.tasks.length) (hw : (tkN s i).way = 0) (hpc : (tkN s i).pc < (acts p (tkN s i)).length) (hk : (nth Ac.z (acts p (tkN s i)) (tkN s i).pc.toNat).k = 2) : Inv p (forkS s i (nth Ac.z (acts p (tkN s i)) (tkN s i).pc.toNat).ks) := by
 have hT := h.np.t i hi
 have hf := ac_fork (hT.act h.np.ok hpc) hk
 have h0 : (tkN s i).stage = 0 := by
   rcases hT.st with q | ⟨_, q, _⟩
   . exact q
   . omega
 have hpc0 := hT.pc
 have hbd := hT.body
 have hform : Form p := by
   have := h.np.ok
   simp only [okB, foB, Bool.and_eq_true, List.all_eq_true, List.mem_range, inB_iff] at this
   exact ⟨by omega, this.1.2⟩
 revert hf hk
 generalize hA : nth Ac.z (acts p (tkN s i)) (tkN s i).pc.toNat = A
 intro hk hf
 have hkid : ∀ b, b ∈ A.ks -> 0 <= b /\ b < p.bodies.length := by
   intro b hb
   obtain ⟨j, hj, e⟩ := List.getElem_of_mem hb
   have := hf.2 j hj
   rw [nth_eq 0 A.ks j hj, e] at this
   omega
 have hnew : ∀ b, b ∈ A.ks -> ∀ j, s.tasks.length <= j -> NpT p j (newK b i) := by
   intro b hb j hj
   have := hkid b hb
   exact ⟨this, ⟨Int.le_refl _, Int.natCast_nonneg _⟩, (by show rgB [0, 0, 0] = true; decide), (by show rgB [0, 0, 0] = true; decide), ⟨fun e => absurd hi (by omega), fun _ => ⟨Int.natCast_nonneg _, by show (i : Int) < j; omega⟩⟩, puB_nil _, puB_nil _, .inl rfl⟩
 have hlen : ({ s with tasks := s.tasks ++ A.ks.map fun b => newK b i } : Sy).tasks.length = s.tasks.length + A.ks.length := by simp
 have np1 : Np p { s with tasks := s.tasks ++ A.ks.map fun b => newK b i } := by
   refine ⟨h.np.ok, h.np.cs, by rw [hlen]; have := h.np.n; omega, fun k hk' => ?_, h.np.c, h.np.ck⟩
   by_cases q : k < s.tasks.length
   . rw [tkN_app q]; exact h.np.t k q
   . rw [tkN_new (by omega) (by simpa using hk')]
     rw [hlen] at hk'
     rw [nth_eq Ta.z _ _ (by simp; omega)]
     simp only [List.getElem_map]
     exact hnew _ (List.getElem_mem _) k (by omega)
 have nv1 : Nv p { s with tasks := s.tasks ++ A.ks.map fun b => newK b i } := by
   intro k hk'
   by_cases q : k < s.tasks.length
   . rw [tkN_app q]; exact h.nv k q
   . rw [tkN_new (by omega) (by simpa using hk')]
     rw [hlen] at hk'
     rw [nth_eq Ta.z _ _ (by simp; omega)]
     simp only [List.getElem_map]
     exact ⟨fun e => absurd e (by show ¬ (0 : Int) = 1; omega), fun e => absurd rfl e⟩
 have hi1 : i < ({ s with tasks := s.tasks ++ A.ks.map fun b => newK b i } : Sy).tasks.length := by rw [hlen]; omega
 have et : tkN { s with tasks := s.tasks ++ A.ks.map fun b => newK b i } i = tkN s i := tkN_app hi
 have hrest : rest p (tkN s i) = trKs (tr p 4) A.ks + rest p { tkN s i with way := 1 } := by
   have ea : acts p { tkN s i with way := 1 } = acts p (tkN s i) := rfl
   unfold rest
   rw [if_pos hw, if_neg (show ¬ (1 : Int) = 0 by omega), if_pos (show (1 : Int) = 1 from rfl), ea]
   have hlt : (tkN s i).pc.toNat < (acts p (tkN s i)).length := by omega
   rw [List.drop_eq_getElem_cons hlt]
   rw [nth_eq Ac.z _ _ hlt] at hA
   rw [hA]
   simp [trAs]
 have hsum : ∀ l : List Int, (∀ b, b ∈ l -> 0 <= b /\ b < p.bodies.length) -> ((l.map fun b => newK b i).map fun t => 1 + rest p t).sum = trKs (tr p 4) l := by
   intro l
   induction l with
   | nil => intro _; rfl
   | cons b l ih =>
     intro hl
     have h1 := hl b (by simp)
     have h2 := ih (fun c hc => hl c (by simp [hc]))
     have h3 : 1 + rest p (newK b i) = tr p 4 b.toNat := by
       rw [tr_four hform b.toNat (by omega)]
       unfold rest acts newK
       simp
     simp only [List.map_cons, List.sum_cons, trKs] at h2 ⊢
     rw [h3, h2]
 refine ⟨np1.set hi1 ?_, nv1.set hi1 ⟨fun _ => hpc, fun _ => h0⟩, ?_, ?_⟩
 . exact hT.upd rfl rfl rfl hT.regs hT.old hT.reads hT.puts (.inl h0)
 . have e1 := sum_set (f := fun t => 1 + rest p t) (s.tasks ++ A.ks.map fun b => newK b i) i { tkN s i with way := 1 } hi1
   have e2 : nth Ta.z (s.tasks ++ A.ks.map fun b => newK b i) i = tkN s i := et
   rw [e2, List.map_append, List.sum_append, hsum A.ks hkid] at e1
   have hb := h.bd.b
   show (((s.tasks ++ A.ks.map fun b => newK b i).set i { tkN s i with way := 1 }).map fun t => 1 + rest p t).sum <= 7
   unfold bud at hb
   omega
 . have e1 := sum_set (f := fun t => t.pc.toNat) (s.tasks ++ A.ks.map fun b => newK b i) i { tkN s i with way := 1 } hi1
   have e2 : nth Ta.z (s.tasks ++ A.ks.map fun b => newK b i) i = tkN s i := et
   rw [e2, List.map_append, List.sum_append] at e1
   have hl := h.bd.l
   show s.log.length <= (((s.tasks ++ A.ks.map fun b => newK b i).set i { tkN s i with way := 1 }).map fun t => t.pc.toNat).sum
   unfold pcs at hl
   have e3 : (((s.tasks ++ A.ks.map fun b => newK b i).set i { tkN s i with way := 1 }).map fun t => t.pc.toNat).sum + (tkN s i).pc.toNat = (s.tasks.map fun t => t.pc.toNat).sum + ((A.ks.map fun b => newK b i).map fun t => t.pc.toNat).sum + (tkN s i).pc.toNat := e1
   omega
theorem Inv.step {p : Pr} {s : Sy} (h : Inv p s) {i : Nat} (hi : i < s.tasks.length) (hr : rdyB s i = true) : Inv p (stepS p s i) := by
 have hT := h.np.t i hi
 have hc : s.clock < 200 := by
   unfold rdyB at hr
   by_cases q : 200 <= s.clock
   . simp [q] at hr
   . omega
 have hway : (tkN s i).way = 0 \/ (tkN s i).way = 1 := by
   unfold rdyB at hr
   rw [if_neg (by omega)] at hr
   by_cases q0 : (nth Ta.z s.tasks i).way = 0
   . exact .inl q0
   . by_cases q1 : (nth Ta.z s.tasks i).way = 1
     . exact .inr q1
     . simp [q0, q1] at hr
 unfold stepS
 split
 . rename_i hw; exact h.await hi hw
 . rename_i hw1
   have hw : (tkN s i).way = 0 := by omega
   split
   . rename_i hpc
     simp only
     split
     . rename_i hk
       exact ⟨h.np.try hi hpc hk hc, h.nv.form hi (Form1.try hi _).len (.try hi _) hw, h.bd.mono (Lq.try h.np hi _)⟩
     split
     . rename_i hk; exact h.fork hi hw hpc hk
     have h0 : (tkN s i).stage = 0 := by
       rcases hT.st with q | ⟨_, q, _⟩
       . exact q
       . exact absurd q (by assumption)
     split
     . exact ⟨h.np.set hi (hT.upd rfl rfl rfl hT.regs hT.old hT.reads hT.puts (.inl h0)), h.nv.set hi ⟨fun e => absurd e (by show ¬ (3 : Int) = 1; omega), fun _ => h0⟩, h.bd.mono (Lq.set hi (rest_le rfl (.inr (.inl ⟨by show (3 : Int) ≠ 0; omega, by show (3 : Int) ≠ 1; omega⟩))) (Nat.le_refl _))⟩
     . refine ⟨h.np.set hi ⟨hT.body, ⟨by have := hT.pc; show 0 <= (tkN s i).pc + 1; omega, by show (tkN s i).pc + 1 <= ((acts p (tkN s i)).length : Int); omega⟩, hT.regs, hT.old, hT.up, hT.reads, hT.puts, .inl h0⟩, h.nv.set hi ⟨fun e => ?_, fun e => absurd hw e⟩, h.bd.mono (Lq.set hi (rest_le rfl (.inl ⟨rfl, ?_⟩)) ?_)⟩
       . have : (tkN s i).way = 1 := e
         omega
       . show _ <= ((tkN s i).pc + 1).toNat; omega
       . show _ <= ((tkN s i).pc + 1).toNat; omega
   . rename_i hpc
     have h0 : (tkN s i).stage = 0 := by
       rcases hT.st with q | ⟨q, _⟩
       . exact q
       . exact absurd q hpc
     exact ⟨h.np.set hi (hT.upd rfl rfl rfl hT.regs hT.old hT.reads hT.puts (.inl h0)), h.nv.set hi ⟨fun e => absurd e (by show ¬ (2 : Int) = 1; omega), fun _ => h0⟩, h.bd.mono (Lq.set hi (rest_le rfl (.inr (.inl ⟨by show (2 : Int) ≠ 0; omega, by show (2 : Int) ≠ 1; omega⟩))) (Nat.le_refl _))⟩
theorem doB_at {s : Sy} {k : Int} (h : doB s k = true) : k.toNat < s.tasks.length /\ rdyB s k.toNat = true := by
 simp only [doB, Bool.and_eq_true, plB_iff'] at h
 exact ⟨by omega, h.2⟩
theorem Inv.do {p : Pr} {s : Sy} (h : Inv p s) (k : Int) : Inv p (doS p s k) := by
 unfold doS
 split
 . rename_i e; exact h.step (doB_at e).1 (doB_at e).2
 . exact h

set_option maxRecDepth 20000
def newTa (body up : Int) : Ta := ⟨body, 0, up, [0, 0, 0], 0, 0, 0, 0, [0, 0, 0], [], [], 0, 0⟩
def newS (p : Pr) : Sy := if okB p then ⟨p.cells.map fun n => ⟨n, 0, -1⟩, [newTa 0 (-1)], 0, []⟩ else ⟨[], [], 0, []⟩
theorem heap_top (w : World) (o : Obj) : (w.alloc o).heap[w.heap.size]? = some o := by
 show (w.heap.push o)[w.heap.size]? = some o
 simp
theorem mk3 (W : World) : Sem.run Try.prog (Instr.makeSlice 23 (.int .i64 3) (.int .i64 3)) W = .ok (.slice (some ⟨W.heap.size, 0, none⟩) 3 3) (W.alloc (.cells #[.int .i64 0, .int .i64 0, .int .i64 0] 3)) := by
 first | kernel_rfl | rfl

section
variable {P : Program} {ops : Array Oper} {Q : Exit -> Act -> World -> Prop} {md : Region.Mode} {S : World -> Prop} {z : Nat}
def Shutdown (md : Region.Mode) (ops : Array Oper) (d : Array Bool) : Prop :=
 ∀ j oj, ops[j]? = some oj -> d.getD j false = true -> ∀ e, e ∈ oj.after -> Region.binds md e = true -> d.getD e.on false = true
def waitedFor (md : Region.Mode) (ops : Array Oper) (z : Nat) : Bool :=
 (List.range ops.size).all fun i => i == z || (List.range ops.size).any fun m => decide (i < m) && match ops[m]? with
  | some o => o.after.any fun e => Region.binds md e && e.on == i
  | none => false
def shutB (md : Region.Mode) (ops : Array Oper) (d : Array Bool) : Bool :=
 (List.range ops.size).all fun j => !(d.getD j false) || match ops[j]? with
  | some o => o.after.all fun e => !(Region.binds md e) || d.getD e.on false
  | none => true
theorem shutB_spec {d : Array Bool} (h : shutB md ops d = true) : Shutdown md ops d := fun j oj hj hd e he hb => by
 have hlt : j < ops.size := (Array.getElem?_eq_some_iff.1 hj).1
 have h1 := List.all_eq_true.1 h j (List.mem_range.2 hlt)
 rw [hj, hd] at h1
 simp only [Bool.not_true, Bool.false_or] at h1
 have h2 := Array.all_eq_true'.1 h1 e he
 simpa [hb] using h2
theorem getD_set_same {d : Array Bool} {i : Nat} (h : d.getD i true = false) (b : Bool) : (d.setIfInBounds i true).getD i b = true := by
 have hlt : i < d.size := by
   rcases Nat.lt_or_ge i d.size with h1 | h1
   . exact h1
   . rw [Array.getD_eq_getD_getElem?, Array.getElem?_eq_none h1] at h; cases h
 simp [hlt]
theorem Shutdown.set {d : Array Bool} {i : Nat} (h : Shutdown md ops d) (hi : i ∈ Region.ready md ops d) : Shutdown md ops (d.setIfInBounds i true) := fun j oj hj hd e he hb => by
 obtain ⟨h0, o, ho, hall⟩ := mem_ready.1 hi
 have up : d.getD e.on false = true -> (d.setIfInBounds i true).getD e.on false = true := fun h1 => by
   by_cases hie : i = e.on
   . rw [<- hie]; exact getD_set_same h0 _
   . rw [getD_set_ne false hie]; exact h1
 by_cases hij : i = j
 . subst hij
   rw [ho] at hj
   injection hj with hj
   subst hj
   exact up (hall e he hb)
 . rw [getD_set_ne false hij] at hd
   exact up (h j oj hj hd e he hb)
theorem last_of_ready {d : Array Bool} (hz : waitedFor md ops z = true) (hd : Shutdown md ops d) (hr : z ∈ Region.ready md ops d) : ∀ (n i : Nat), ops.size - i <= n -> i < ops.size -> i ≠ z -> d.getD i false = true := by
 intro n
 induction n with
 | zero => intro i h1 h2; omega
 | succ n ih =>
   intro i h1 h2 hne
   have h3 := List.all_eq_true.1 hz i (List.mem_range.2 h2)
   have hb : (i == z) = false := by simpa using hne
   rw [hb, Bool.false_or] at h3
   obtain ⟨m, hm, h4⟩ := List.any_eq_true.1 h3
   have hml := List.mem_range.1 hm
   obtain ⟨om, hom⟩ : ∃ o, ops[m]? = some o := ⟨ops[m], by simp [hml]⟩
   rw [hom] at h4
   simp only [Bool.and_eq_true, decide_eq_true_eq] at h4
   obtain ⟨hlt, h5⟩ := h4
   obtain ⟨k, hk, h6⟩ := Array.any_eq_true.1 h5
   simp only [Bool.and_eq_true, beq_iff_eq] at h6
   have hmem : om.after[k] ∈ om.after := Array.getElem_mem hk
   by_cases hmz : m = z
   . subst hmz
     obtain ⟨_, o, ho, hall⟩ := mem_ready.1 hr
     rw [hom] at ho
     injection ho with ho
     subst ho
     have := hall _ hmem h6.1
     rwa [h6.2] at this
   . have hdm := ih m (by omega) hml hmz
     have := hd m om hom hdm _ hmem h6.1
     rwa [h6.2] at this
def AnyTill (P : Program) (md : Region.Mode) (ops : Array Oper) (Q : Exit -> Act -> World -> Prop) (S : World -> Prop) (z : Nat) : Nat -> Array Bool -> Act -> World -> Prop
 | 0, d, a, w => Region.ready md ops d = [] /\ Q .normal a w
 | k + 1, d, a, w => (Region.ready md ops d = [] -> Q .normal a w) /\
  ∀ i, i ∈ Region.ready md ops d -> wpOp P ops Q i (fun a' w' => (i ≠ z -> S w') /\ AnyTill P md ops Q S z k (d.setIfInBounds i true) a' w') a w
theorem AnyTill.any : ∀ (k : Nat) (d : Array Bool) (a : Act) (w : World), AnyTill P md ops Q S z k d a w -> wpAny P md ops Q k d a w := by
 intro k
 induction k with
 | zero => exact fun d a w h => h
 | succ k ih => exact fun d a w h => ⟨h.1, fun i hi => wpOp_mono (fun a' w' h' => ih _ a' w' h'.2) (h.2 i hi)⟩
theorem AnyTill.ahead {i : Nat} {o : Oper} {v : Value} (hi : ops[i]? = some o) (hiz : i ≠ z) (hz : waitedFor md ops z = true) (hs : Region.noSelect ops = true) (hQ : ∀ c a w, Q (.panic c) (a.put o.dst v) w -> Q (.panic c) a w) :
   ∀ (k : Nat) (d : Array Bool) (a : Act) (w : World), Shutdown md ops d -> (∀ j oj, ops[j]? = some oj -> j ≠ i -> d.getD j true = false -> (∀ e ∈ oj.after, Region.binds md e = true -> e.on ≠ i) -> o.apart ops oj = true) ->
     i ∈ Region.ready md ops d -> YieldsIf P ops S o v a -> S w -> AnyTill P md ops Q S z k (d.setIfInBounds i true) (a.put o.dst v) w -> AnyTill P md ops Q S z (k + 1) d a w := by
 have hsel := Region.noSelect_spec hs
 have here : ∀ (k : Nat) (d : Array Bool) (a : Act) (w : World), YieldsIf P ops S o v a -> S w -> AnyTill P md ops Q S z k (d.setIfInBounds i true) (a.put o.dst v) w ->
     wpOp P ops Q i (fun a' w' => (i ≠ z -> S w') /\ AnyTill P md ops Q S z k (d.setIfInBounds i true) a' w') a w := fun k d a w hy hS H => hy.wpOp hi hS ⟨fun _ => hS, H⟩
 intro k
 induction k with
 | zero =>
   intro d a w _ _ hr hy hS H
   refine ⟨fun h0 => absurd hr (by rw [h0]; exact List.not_mem_nil), fun j hj => ?_⟩
   rcases Decidable.em (j = i) with rfl | hji
   . exact here 0 d a w hy hS H
   . have hm := ready_mono hj hji
     rw [H.1] at hm
     exact absurd hm List.not_mem_nil
 | succ k ih =>
   intro d a w hsd hfree hr hy hS H
   refine ⟨fun h0 => absurd hr (by rw [h0]; exact List.not_mem_nil), fun j hj => ?_⟩
   rcases Decidable.em (j = i) with rfl | hji
   . exact here (k + 1) d a w hy hS H
   . obtain ⟨hdj, oj, hoj, hall⟩ := mem_ready.1 hj
     obtain ⟨hdi, oi', hoi', _⟩ := mem_ready.1 hr
     have hun : d.getD i false = true -> False := fun h1 => by
       have hlt : i < d.size := by
         rcases Nat.lt_or_ge i d.size with h2 | h2
         . exact h2
         . rw [Array.getD_eq_getD_getElem?, Array.getElem?_eq_none h2] at h1; cases h1
       simp [hlt] at hdi h1
       rw [hdi] at h1; cases h1
     have hno : ∀ e ∈ oj.after, Region.binds md e = true -> e.on ≠ i := fun e he hb heq => by
       have h1 := hall e he hb
       rw [heq] at h1
       exact hun h1
     have hjz : j ≠ z := fun e => by
       subst e
       exact hun (last_of_ready hz hsd hj ops.size i (by omega) (Array.getElem?_eq_some_iff.1 hi).1 hiz)
     have step := wpOp_putIf hoj (hfree j oj hoj hji hdj hno) (fun cs b => hsel i o cs b hi) (fun cs b => hsel j oj cs b hoj) hQ hy (H.2 j (ready_mono hj hji))
     have hri := ready_mono hr (Ne.symm hji)
     refine wpOp_mono (fun a' w' h3 => ?_) step
     obtain ⟨hy', hS', H'⟩ := h3
     rw [Array.setIfInBounds_comm _ _ (Ne.symm hji)] at H'
     refine ⟨hS', ih _ a' w' (hsd.set hj) (fun k' ok hk hki hun' hno' => ?_) hri hy' (hS' hjz) H'⟩
     refine hfree k' ok hk hki ?_ hno'
     rcases Decidable.em (j = k') with rfl | hjk
     . exact hdj
     . rw [getD_set_ne true hjk] at hun'; exact hun'
theorem till_begin {id : Nat} {a : Act} {w : World} (hm : P.follows .mixedOrders = true) (h : AnyTill P .any ops Q S z ops.size (Array.replicate ops.size false) a w.drew) : (Code.region id ops true).wp P Q a w :=
 wp_region_any hm (AnyTill.any _ _ _ _ h)
theorem till_take {i : Nat} {o : Oper} {v : Value} {k : Nat} {d : Array Bool} {a : Act} {w : World} (hi : ops[i]? = some o) (hiz : (i != z && waitedFor md ops z && Region.noSelect ops && shutB md ops d && Region.free md ops d i && (Region.ready md ops d).contains i) = true)
  (hQ : ∀ c a w, Q (.panic c) (a.put o.dst v) w -> Q (.panic c) a w) (hw : Region.wanted o (yielded ops a.tmps) = true) (hy : ∀ w, S w -> (execOp a.eval o).run P w = .ok (.value v) w) (hS : S w) (h : AnyTill P md ops Q S z k (d.setIfInBounds i true) (a.put o.dst v) w) : AnyTill P md ops Q S z (k + 1) d a w := by
 simp only [Bool.and_eq_true, bne_iff_ne, ne_eq] at hiz
 obtain ⟨⟨⟨⟨⟨h1, h2⟩, h3⟩, h4⟩, h5⟩, h6⟩ := hiz
 exact AnyTill.ahead hi h1 h2 h3 hQ k d a w (shutB_spec h4) (Region.free_spec hi h5) (by simpa using h6) (.inl ⟨hw, hy⟩) hS h
theorem till_step {i : Nat} {o : Oper} {k : Nat} {d : Array Bool} {a : Act} {w : World} (hi : ops[i]? = some o) (hr : Region.ready md ops d = [i])
  (h : ∀ K : Act -> World -> Prop, Hid (∀ a w, (i ≠ z -> S w) -> AnyTill P md ops Q S z k (d.setIfInBounds i true) a w -> K a w) -> if Region.wanted o (yielded ops a.tmps) = true then Oper.wp P o a w K Q else K (a.put o.dst undef) w) : AnyTill P md ops Q S z (k + 1) d a w := by
 refine ⟨fun h0 => (by rw [hr] at h0; cases h0), fun j hj => ?_⟩
 rw [hr] at hj
 rcases List.mem_singleton.1 hj with rfl
 exact wpOp_step hi fun K hK => h K (fun a w h1 h2 => hK a w ⟨h1, h2⟩)
theorem till_done {d : Array Bool} {a : Act} {w : World} (hr : Region.ready md ops d = []) (h : Q .normal a w) : ∀ k, AnyTill P md ops Q S z k d a w
 | 0 => ⟨hr, h⟩
 | _ + 1 => ⟨fun _ => h, by rw [hr]; simp⟩
theorem till_two {i j : Nat} {o o' : Oper} {k : Nat} {d : Array Bool} {a : Act} {w : World} (hi : ops[i]? = some o) (hj : ops[j]? = some o') (hr : Region.ready md ops d = [i, j])
   (h : ∀ K : Act -> World -> Prop, Hid (∀ a w, (i ≠ z -> S w) -> AnyTill P md ops Q S z k (d.setIfInBounds i true) a w -> K a w) -> if Region.wanted o (yielded ops a.tmps) = true then Oper.wp P o a w K Q else K (a.put o.dst undef) w)
   (h' : ∀ K : Act -> World -> Prop, Hid (∀ a w, (j ≠ z -> S w) -> AnyTill P md ops Q S z k (d.setIfInBounds j true) a w -> K a w) -> if Region.wanted o' (yielded ops a.tmps) = true then Oper.wp P o' a w K Q else K (a.put o'.dst undef) w) : AnyTill P md ops Q S z (k + 1) d a w := by
 refine ⟨fun h0 => (by rw [hr] at h0; cases h0), fun l hl => ?_⟩
 rw [hr] at hl
 simp only [List.mem_cons, List.not_mem_nil, or_false] at hl
 rcases hl with rfl | rfl
 . exact wpOp_step hi fun K hK => h K (fun a w h1 h2 => hK a w ⟨h1, h2⟩)
 . exact wpOp_step hj fun K hK => h' K (fun a w h1 h2 => hK a w ⟨h1, h2⟩)
theorem till_three {i j m : Nat} {o o' o2 : Oper} {k : Nat} {d : Array Bool} {a : Act} {w : World} (hi : ops[i]? = some o) (hj : ops[j]? = some o') (hm : ops[m]? = some o2) (hr : Region.ready md ops d = [i, j, m])
   (h : ∀ K : Act -> World -> Prop, Hid (∀ a w, (i ≠ z -> S w) -> AnyTill P md ops Q S z k (d.setIfInBounds i true) a w -> K a w) -> if Region.wanted o (yielded ops a.tmps) = true then Oper.wp P o a w K Q else K (a.put o.dst undef) w)
   (h' : ∀ K : Act -> World -> Prop, Hid (∀ a w, (j ≠ z -> S w) -> AnyTill P md ops Q S z k (d.setIfInBounds j true) a w -> K a w) -> if Region.wanted o' (yielded ops a.tmps) = true then Oper.wp P o' a w K Q else K (a.put o'.dst undef) w)
   (h2 : ∀ K : Act -> World -> Prop, Hid (∀ a w, (m ≠ z -> S w) -> AnyTill P md ops Q S z k (d.setIfInBounds m true) a w -> K a w) -> if Region.wanted o2 (yielded ops a.tmps) = true then Oper.wp P o2 a w K Q else K (a.put o2.dst undef) w) : AnyTill P md ops Q S z (k + 1) d a w := by
 refine ⟨fun h0 => (by rw [hr] at h0; cases h0), fun l hl => ?_⟩
 rw [hr] at hl
 simp only [List.mem_cons, List.not_mem_nil, or_false] at hl
 rcases hl with rfl | rfl | rfl
 . exact wpOp_step hi fun K hK => h K (fun a w h1 h2 => hK a w ⟨h1, h2⟩)
 . exact wpOp_step hj fun K hK => h' K (fun a w h1 h2 => hK a w ⟨h1, h2⟩)
 . exact wpOp_step hm fun K hK => h2 K (fun a w h1 h2 => hK a w ⟨h1, h2⟩)
end
end Go.Proofs.Ytgbgjljflgbcaaa
