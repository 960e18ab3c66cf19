import Derived.Test.YtgbgjljflgbcaaaSo07
import Derived.Test.YtgbgjljflgbcaaaSo12
import Derived.Test.YtgbgjljflgbcaaaSo02
namespace Go.Proofs.Ytgbgjljflgbcaaa
open Go.RowKit
set_option linter.unusedSimpArgs false
set_option linter.unusedVariables false
theorem ok_act {p : Pr} (h : okB p = true) {bn k : Nat} (hb : bn < p.bodies.length) (hk : k < (nth [] p.bodies bn).length) : acB (nth Ac.z (nth [] p.bodies bn) k) p.cells.length bn p.bodies.length = true := by
 simp only [okB, foB, Bool.and_eq_true, List.all_eq_true, List.mem_range] at h
 have := h.1.2 bn hb
 simp only [boB, Bool.and_eq_true] at this
 exact nth_of_all Ac.z _ _ _ hk this.2
theorem NpT.act {p : Pr} {i : Nat} {t : Ta} (h : NpT p i t) (ho : okB p = true) (hpc : t.pc < (acts p t).length) : acB (nth Ac.z (acts p t) t.pc.toNat) p.cells.length t.body.toNat p.bodies.length = true := by
 have h1 := h.body
 have h2 := h.pc
 unfold acts at hpc ⊢
 exact ok_act ho (by omega) (by omega)
theorem ac_try {a : Ac} {nc b nb : Int} (h : acB a nc b nb = true) (hk : a.k = 1) : a.ds.length <= 5 /\ ∀ j, j < a.ds.length -> deB (nth De.z a.ds j) nc = true := by
 simp only [acB, hk, if_true, Bool.and_eq_true, dsB, decide_eq_true_eq] at h
 exact ⟨h.2.1, fun j hj => nth_of_all De.z _ _ _ hj h.2.2⟩
theorem ac_fork {a : Ac} {nc b nb : Int} (h : acB a nc b nb = true) (hk : a.k = 2) : (1 <= a.ks.length /\ a.ks.length <= 2) /\ ∀ j, j < a.ks.length -> b + 1 <= nth 0 a.ks j /\ nth 0 a.ks j <= nb - 1 := by
 have h21 : ¬ ((2 : Int) = 1) := by omega
 simp only [acB, hk, h21, if_false, if_true, Bool.and_eq_true, ksB, inB_iff] at h
 refine ⟨by omega, fun j hj => ?_⟩
 have := nth_of_all 0 _ _ _ hj h.2.2
 simpa [kidB, inB_iff] using this
theorem ac_fif {a : Ac} {nc b nb : Int} (h : acB a nc b nb = true) (h1 : a.k ≠ 1) (h2 : a.k ≠ 2) (h3 : a.k ≠ 3) : a.k = 4 /\ 0 <= a.r /\ a.r < 3 := by
 simp only [acB, h1, h2, h3, if_false] at h
 by_cases h4 : a.k = 4
 . simp only [h4, if_true, Bool.and_eq_true, plB_iff'] at h
   exact ⟨h4, h.2⟩
 . simp [h4] at h
theorem de_load {d : De} {c : Int} (h : deB d c = true) (hk : d.k = 1) : (0 <= d.a /\ d.a < 3) /\ 0 <= d.b /\ d.b < c := by
 simp only [deB, hk, if_true, Bool.and_eq_true, plB_iff'] at h; exact h
theorem de_store {d : De} {c : Int} (h : deB d c = true) (hk : d.k = 2) : (0 <= d.a /\ d.a < c) /\ 0 <= d.b /\ d.b < 3 := by
 have h21 : ¬ ((2 : Int) = 1) := by omega
 simp only [deB, hk, h21, if_false, if_true, Bool.and_eq_true, plB_iff'] at h; exact h
theorem de_num {d : De} {c : Int} (h : deB d c = true) (hk : d.k = 3) : (0 <= d.a /\ d.a < 3) /\ 0 <= d.b /\ d.b < 100 := by
 have h21 : ¬ ((3 : Int) = 1) := by omega
 have h22 : ¬ ((3 : Int) = 2) := by omega
 simp only [deB, hk, h21, h22, if_false, if_true, Bool.and_eq_true, plB_iff'] at h; exact h
theorem de_add {d : De} {c : Int} (h : deB d c = true) (hk : d.k = 4) : (0 <= d.a /\ d.a < 3) /\ 0 <= d.b /\ d.b < 3 := by
 have h21 : ¬ ((4 : Int) = 1) := by omega
 have h22 : ¬ ((4 : Int) = 2) := by omega
 have h23 : ¬ ((4 : Int) = 3) := by omega
 simp only [deB, hk, h21, h22, h23, if_false, if_true, Bool.and_eq_true, plB_iff'] at h; exact h
theorem de_need {d : De} {c : Int} (h : deB d c = true) (hk : d.k = 5) : (0 <= d.a /\ d.a < 3) := by
 have h21 : ¬ ((5 : Int) = 1) := by omega
 have h22 : ¬ ((5 : Int) = 2) := by omega
 have h23 : ¬ ((5 : Int) = 3) := by omega
 have h24 : ¬ ((5 : Int) = 4) := by omega
 simp only [deB, hk, h21, h22, h23, h24, if_false, if_true, Bool.and_eq_true, plB_iff'] at h; exact h.1
theorem de_kinds {d : De} {c : Int} (h : deB d c = true) : d.k = 1 \/ d.k = 2 \/ d.k = 3 \/ d.k = 4 \/ d.k = 5 := by
 unfold deB at h
 by_cases h1 : d.k = 1
 . exact .inl h1
 by_cases h2 : d.k = 2
 . exact .inr (.inl h2)
 by_cases h3 : d.k = 3
 . exact .inr (.inr (.inl h3))
 by_cases h4 : d.k = 4
 . exact .inr (.inr (.inr (.inl h4)))
 by_cases h5 : d.k = 5
 . exact .inr (.inr (.inr (.inr h5)))
 simp [h1, h2, h3, h4, h5] at h
theorem Np.cells {p : Pr} {s : Sy} (h : Np p s) {cs : List Ce} (hl : cs.length = s.cells.length) (hn : ∀ j, j < cs.length -> plB (nth Ce.z cs j).num 100 = true) : Np p { s with cells := cs } :=
 ⟨h.ok, hl.trans h.cs, h.n, h.t, hn, h.ck⟩
theorem Np.log {p : Pr} {s : Sy} (h : Np p s) (l : List En) : Np p { s with log := l } := ⟨h.ok, h.cs, h.n, h.t, h.c, h.ck⟩
theorem freeC_len (cs : List Ce) (i : Int) : (freeC cs i).length = cs.length := by simp [freeC]
theorem freeC_nth {cs : List Ce} {i : Int} {j : Nat} (hj : j < cs.length) : nth Ce.z (freeC cs i) j = if (nth Ce.z cs j).lock = i then { nth Ce.z cs j with lock := -1 } else nth Ce.z cs j := by
 rw [nth_eq Ce.z _ j (by rw [freeC_len]; exact hj), nth_eq Ce.z cs j hj]
 simp [freeC]
theorem Np.free {p : Pr} {s : Sy} (h : Np p s) (i : Int) : Np p { s with cells := freeC s.cells i } :=
 h.cells (freeC_len _ _) fun j hj => by
  rw [freeC_len] at hj
  rw [freeC_nth hj]
  have := h.c j hj
  split <;> exact this
theorem NpT.again {p : Pr} {i : Nat} {t : Ta} (h : NpT p i t) : NpT p i (againT t) := ⟨h.body, h.pc, h.old, h.old, h.up, puB_nil _, puB_nil _, .inl rfl⟩
theorem Np.again {p : Pr} {s : Sy} (h : Np p s) {i : Nat} (hi : i < s.tasks.length) : Np p (againS s i) := (h.free i).set hi (h.t i hi).again
theorem NpT.endT {p : Pr} {i : Nat} {t : Ta} (h : NpT p i t) (hpc : t.pc < (acts p t).length) : NpT p i (endT t) :=
 ⟨h.body, ⟨by have := h.pc; simp [Go.Proofs.Ytgbgjljflgbcaaa.endT]; omega, by show t.pc + 1 <= ((acts p t).length : Int); omega⟩, h.regs, h.old, h.up, puB_nil _, puB_nil _, .inl rfl⟩
theorem Np.end {p : Pr} {s : Sy} (h : Np p s) {i : Nat} (hi : i < s.tasks.length) (hpc : (tkN s i).pc < (acts p (tkN s i)).length) (w : Int) : Np p (endS s i w) := (h.log _).set hi ((h.t i hi).endT hpc)
theorem NpT.begin {p : Pr} {i : Nat} {t : Ta} (h : NpT p i t) (s : Sy) (hpc : t.pc < (acts p t).length) (hk : (nth Ac.z (acts p t) t.pc.toNat).k = 1) (h0 : t.stage = 0) : NpT p i (beginT s t) :=
 ⟨h.body, h.pc, h.regs, h.regs, h.up, h.reads, h.puts, .inr ⟨hpc, hk, .inl ⟨rfl, Int.le_refl _, Int.natCast_nonneg _⟩⟩⟩
theorem NpT.upd {p : Pr} {i : Nat} {t t' : Ta} (h : NpT p i t) (eb : t'.body = t.body) (ep : t'.pc = t.pc) (eu : t'.up = t.up) (hr : rgB t'.regs = true) (ho : rgB t'.old = true) (hd : puB t'.reads p.cells.length = true) (hu : puB t'.puts p.cells.length = true)
  (hs : t'.stage = 0 \/ (t.pc < (acts p t).length /\ (nth Ac.z (acts p t) t.pc.toNat).k = 1 /\ ((t'.stage = 1 /\ 0 <= t'.at_ /\ t'.at_ <= (nth Ac.z (acts p t) t.pc.toNat).ds.length) \/ (t'.stage = 2 /\ 0 <= t'.at_ /\ t'.at_ < t'.puts.length) \/ (t'.stage = 3 /\ 0 < t'.puts.length) \/ (t'.stage = 4 /\ 0 <= t'.at_ /\ t'.at_ <= t'.reads.length /\ 0 < t'.puts.length) \/ (t'.stage = 5 /\ 0 <= t'.at_ /\ t'.at_ < t'.puts.length)))) : NpT p i t' := by
 have ea : acts p t' = acts p t := by unfold acts; rw [eb]
 exact ⟨by rw [eb]; exact h.body, by rw [ep, ea]; exact h.pc, hr, ho, by rw [eu]; exact h.up, hd, hu, by rw [ep, ea]; exact hs⟩
def AtSt (p : Pr) (t : Ta) (st : Int) : Prop := t.stage = st /\ t.pc < (acts p t).length /\ (nth Ac.z (acts p t) t.pc.toNat).k = 1
theorem NpT.one {p : Pr} {i : Nat} {t : Ta} (h : NpT p i t) (e : t.stage = 1) : AtSt p t 1 /\ 0 <= t.at_ /\ t.at_ <= (nth Ac.z (acts p t) t.pc.toNat).ds.length := by
 rcases h.st with q | ⟨h1, h2, q | q | q | q | q⟩ <;> first | (exfalso; omega) | exact ⟨⟨e, h1, h2⟩, q.2⟩
theorem NpT.two {p : Pr} {i : Nat} {t : Ta} (h : NpT p i t) (e : t.stage = 2) : AtSt p t 2 /\ 0 <= t.at_ /\ t.at_ < t.puts.length := by
 rcases h.st with q | ⟨h1, h2, q | q | q | q | q⟩ <;> first | (exfalso; omega) | exact ⟨⟨e, h1, h2⟩, q.2⟩
theorem NpT.three {p : Pr} {i : Nat} {t : Ta} (h : NpT p i t) (e : t.stage = 3) : AtSt p t 3 /\ 0 < t.puts.length := by
 rcases h.st with q | ⟨h1, h2, q | q | q | q | q⟩ <;> first | (exfalso; omega) | exact ⟨⟨e, h1, h2⟩, q.2⟩
theorem NpT.four {p : Pr} {i : Nat} {t : Ta} (h : NpT p i t) (e : t.stage = 4) : AtSt p t 4 /\ 0 <= t.at_ /\ t.at_ <= t.reads.length /\ 0 < t.puts.length := by
 rcases h.st with q | ⟨h1, h2, q | q | q | q | q⟩ <;> first | (exfalso; omega) | exact ⟨⟨e, h1, h2⟩, q.2⟩
theorem NpT.five {p : Pr} {i : Nat} {t : Ta} (h : NpT p i t) (e : t.stage = 5) : AtSt p t 5 /\ 0 <= t.at_ /\ t.at_ < t.puts.length := by
 rcases h.st with q | ⟨h1, h2, q | q | q | q | q⟩ <;> first | (exfalso; omega) | exact ⟨⟨e, h1, h2⟩, q.2⟩
theorem NpT.stages {p : Pr} {i : Nat} {t : Ta} (h : NpT p i t) : t.stage = 0 \/ t.stage = 1 \/ t.stage = 2 \/ t.stage = 3 \/ t.stage = 4 \/ t.stage = 5 := by
 rcases h.st with q | ⟨h1, h2, q | q | q | q | q⟩ <;> omega
theorem Np.num {p : Pr} {s : Sy} (h : Np p s) {c : Int} (h0 : 0 <= c) (h1 : c < p.cells.length) : 0 <= (ceN s c).num /\ (ceN s c).num < 100 := by
 have := h.c c.toNat (by have := h.cs; omega)
 rw [plB_iff'] at this; exact this
theorem Np.deed1 {p : Pr} {s : Sy} (h : Np p s) {i : Nat} (hi : i < s.tasks.length) (e : (tkN s i).stage = 1) {d : De} (hat : (tkN s i).at_ < (nth Ac.z (acts p (tkN s i)) (tkN s i).pc.toNat).ds.length) (hd : deB d p.cells.length = true) : Np p (deed1 s i d) := by
 have hT := h.t i hi
 obtain ⟨⟨_, h1, h2⟩, h3, h4⟩ := hT.one e
 have G : ∀ t' : Ta, t'.body = (tkN s i).body -> t'.pc = (tkN s i).pc -> t'.up = (tkN s i).up -> rgB t'.regs = true -> rgB t'.old = true -> puB t'.reads p.cells.length = true -> puB t'.puts p.cells.length = true -> t'.stage = 1 -> t'.at_ = (tkN s i).at_ + 1 -> Np p (setTk s i t') := fun t' a b c d e f g k l =>
   h.set hi (hT.upd a b c d e f g (.inr ⟨h1, h2, .inl ⟨k, by omega, by omega⟩⟩))
 unfold Go.Proofs.Ytgbgjljflgbcaaa.deed1
 by_cases k1 : d.k = 1
 . have hl := de_load hd k1
   rw [if_pos k1]
   unfold loadS
   cases hf : fdP (tkN s i).puts d.b with
   | some j =>
     have hj := (fdP_some hf).1
     have hp := puB_nth hT.puts hj
     exact G _ rfl rfl rfl (rgB_set hT.regs ⟨hp.2.2.1, hp.2.2.2⟩) hT.old hT.reads hT.puts e rfl
   | none =>
     simp only
     split
     . exact h.again hi
     . have hn := h.num hl.2.1 hl.2.2
       exact G _ rfl rfl rfl (rgB_set hT.regs hn) hT.old (addP_puB hT.reads ⟨hl.2.1, hl.2.2, hn.1, hn.2⟩) hT.puts e rfl
 rw [if_neg k1]
 by_cases k2 : d.k = 2
 . have hl := de_store hd k2
   rw [if_pos k2]
   have hn := rgB_nth (a := d.b.toNat) hT.regs (by omega)
   exact G _ rfl rfl rfl hT.regs hT.old hT.reads (addP_puB hT.puts ⟨hl.1.1, hl.1.2, hn.1, hn.2⟩) e rfl
 rw [if_neg k2]
 by_cases k5 : d.k = 5
 . rw [if_pos k5]
   split
   . have ha := h.again hi
     have hs : (againS s i).tasks.length = s.tasks.length := by simp [againS, setTk]
     exact ha.set (by omega) (hT.again.upd rfl rfl rfl hT.old hT.old (puB_nil _) (puB_nil _) (.inl rfl))
   . exact G _ rfl rfl rfl hT.regs hT.old hT.reads hT.puts e rfl
 rw [if_neg k5]
 refine G _ rfl rfl rfl ?_ hT.old hT.reads hT.puts e rfl
 unfold regT
 rcases de_kinds hd with q | q | q | q | q
 . exact absurd q k1
 . exact absurd q k2
 . rw [if_pos q]; exact rgB_set hT.regs (de_num hd q).2
 . rw [if_neg (by omega), if_pos q]; exact rgB_set hT.regs ⟨by omega, by omega⟩
 . exact absurd q k5
theorem Np.deed {p : Pr} {s : Sy} (h : Np p s) {i : Nat} (hi : i < s.tasks.length) (e : (tkN s i).stage = 1) : Np p (deedS s i (nth Ac.z (acts p (tkN s i)) (tkN s i).pc.toNat).ds) := by
 have hT := h.t i hi
 obtain ⟨⟨_, h1, h2⟩, h3, h4⟩ := hT.one e
 unfold deedS
 split
 . rename_i hlt
   refine h.deed1 hi e hlt ((ac_try (hT.act h.ok h1) h2).2 _ (by omega))
 . split
   . exact h.end hi h1 _
   . refine h.set hi (hT.upd rfl rfl rfl hT.regs hT.old hT.reads hT.puts (.inr ⟨h1, h2, .inr (.inl ⟨rfl, Int.le_refl _, ?_⟩)⟩))
     show (0 : Int) < ((tkN s i).puts.length : Int); omega
theorem Np.lock {p : Pr} {s : Sy} (h : Np p s) {i : Nat} (hi : i < s.tasks.length) (e : (tkN s i).stage = 2) : Np p (lockS s i) := by
 have hT := h.t i hi
 obtain ⟨⟨_, h1, h2⟩, h3, h4⟩ := hT.two e
 have hp := puB_nth hT.puts (i := (tkN s i).at_.toNat) (by omega)
 unfold lockS
 split
 . exact h.again hi
 . refine Np.set (i := i) (h.cells (by simp) fun j hj => ?_) hi ?_
   . rw [List.length_set] at hj
     rw [nth_set' Ce.z _ _ _ _ (by have := h.cs; simp only [putN]; omega)]
     split
     . have := h.num (c := (putN (tkN s i)).c) hp.1 hp.2.1
       exact (plB_iff' _ _).2 this
     . exact h.c j hj
   . split
     . exact hT.upd rfl rfl rfl hT.regs hT.old hT.reads hT.puts (.inr ⟨h1, h2, .inr (.inr (.inl ⟨rfl, by show 0 < (tkN s i).puts.length; omega⟩))⟩)
     . exact hT.upd rfl rfl rfl hT.regs hT.old hT.reads hT.puts (.inr ⟨h1, h2, .inr (.inl ⟨e, by show 0 <= (tkN s i).at_ + 1; omega, by show (tkN s i).at_ + 1 < ((tkN s i).puts.length : Int); omega⟩)⟩)
theorem Np.time {p : Pr} {s : Sy} (h : Np p s) {i : Nat} (hi : i < s.tasks.length) (e : (tkN s i).stage = 3) (hc : s.clock < 200) : Np p (timeS s i) := by
 have hT := h.t i hi
 obtain ⟨⟨_, h1, h2⟩, h3⟩ := hT.three e
 have hc' : Np p { s with clock := s.clock + 1 } := ⟨h.ok, h.cs, h.n, h.t, h.c, by have := h.ck; simp; omega⟩
 exact Np.set (i := i) hc' hi (hT.upd rfl rfl rfl hT.regs hT.old hT.reads hT.puts (.inr ⟨h1, h2, .inr (.inr (.inr (.inl ⟨rfl, Int.le_refl _, Int.natCast_nonneg _, h3⟩)))⟩))
theorem Np.check {p : Pr} {s : Sy} (h : Np p s) {i : Nat} (hi : i < s.tasks.length) (e : (tkN s i).stage = 4) : Np p (checkS s i) := by
 have hT := h.t i hi
 obtain ⟨⟨_, h1, h2⟩, h3, h4, h5⟩ := hT.four e
 unfold checkS
 split
 . split
   . exact h.again hi
   . rename_i hlt _
     exact h.set hi (hT.upd rfl rfl rfl hT.regs hT.old hT.reads hT.puts (.inr ⟨h1, h2, .inr (.inr (.inr (.inl ⟨e, by show 0 <= (tkN s i).at_ + 1; omega, by show (tkN s i).at_ + 1 <= ((tkN s i).reads.length : Int); omega, h5⟩)))⟩))
 . exact h.set hi (hT.upd rfl rfl rfl hT.regs hT.old hT.reads hT.puts (.inr ⟨h1, h2, .inr (.inr (.inr (.inr ⟨rfl, Int.le_refl _, by show (0 : Int) < ((tkN s i).puts.length : Int); omega⟩)))⟩))
theorem setTk_len (s : Sy) (i : Nat) (t : Ta) : (setTk s i t).tasks.length = s.tasks.length := by simp [setTk]
theorem write_end {s : Sy} {i : Nat} (hi : i < s.tasks.length) : endS (write1 s i) i (tkN s i).when_ = setTk { s with cells := s.cells.set (putN (tkN s i)).c.toNat ⟨(putN (tkN s i)).n, (tkN s i).when_, -1⟩, log := s.log ++ [endE (tkN s i) i (tkN s i).when_] } i (Go.Proofs.Ytgbgjljflgbcaaa.endT (tkN s i)) := by
 have e1 : tkN (write1 s i) i = { tkN s i with at_ := (tkN s i).at_ + 1 } := tkN_same (s := { s with cells := _ }) hi
 unfold endS
 rw [e1]
 simp [setTk, write1, endE, Go.Proofs.Ytgbgjljflgbcaaa.endT]
theorem Np.write {p : Pr} {s : Sy} (h : Np p s) {i : Nat} (hi : i < s.tasks.length) (e : (tkN s i).stage = 5) : Np p (writeS s i) := by
 have hT := h.t i hi
 obtain ⟨⟨_, h1, h2⟩, h3, h4⟩ := hT.five e
 have hp := puB_nth hT.puts (i := (tkN s i).at_.toNat) (by omega)
 have hcs : Np p { s with cells := s.cells.set (putN (tkN s i)).c.toNat ⟨(putN (tkN s i)).n, (tkN s i).when_, -1⟩ } := by
   refine h.cells (by simp) fun j hj => ?_
   rw [List.length_set] at hj
   rw [nth_set' Ce.z _ _ _ _ (by have := h.cs; simp only [putN]; omega)]
   split
   . exact (plB_iff' _ _).2 ⟨hp.2.2.1, hp.2.2.2⟩
   . exact h.c j hj
 unfold writeS
 split
 . rename_i hat
   rw [write_end hi]
   exact Np.set (i := i) (hcs.log _) hi (hT.endT h1)
 . rename_i hat
   exact Np.set (i := i) hcs hi (hT.upd rfl rfl rfl hT.regs hT.old hT.reads hT.puts (.inr ⟨h1, h2, .inr (.inr (.inr (.inr ⟨e, by show 0 <= (tkN s i).at_ + 1; omega, by show (tkN s i).at_ + 1 < ((tkN s i).puts.length : Int); omega⟩)))⟩))
theorem again_tk {s : Sy} {i : Nat} (hi : i < s.tasks.length) : tkN (againS s i) i = againT (tkN s i) := by
 unfold againS
 exact tkN_same (s := { s with cells := freeC s.cells i }) hi
theorem againS_len (s : Sy) (i : Nat) : (againS s i).tasks.length = s.tasks.length := by simp [againS, setTk]
theorem writeS_len (s : Sy) (i : Nat) : (writeS s i).tasks.length = s.tasks.length := by unfold writeS; split <;> simp [endS, write1, setTk]
theorem wrAll_len (n : Nat) (s : Sy) (i : Nat) : (wrAll n s i).tasks.length = s.tasks.length := by
 induction n generalizing s with
 | zero => rfl
 | succ n ih => unfold wrAll; split <;> simp [ih, writeS_len]
theorem Np.wrAll {p : Pr} {s : Sy} (h : Np p s) {i : Nat} (hi : i < s.tasks.length) (n : Nat) : Np p (wrAll n s i) := by
 induction n generalizing s with
 | zero => exact h
 | succ n ih =>
   unfold Go.Proofs.Ytgbgjljflgbcaaa.wrAll
   split
   . rename_i e; exact ih (h.write hi e) (by rw [writeS_len]; exact hi)
   . exact h
theorem offB_len (s : Sy) (i : Nat) : (offB s i).tasks.length = s.tasks.length := by
 unfold offB
 split
 . rfl
 . simp only [setTk_len]
   split <;> simp [againS_len, wrAll_len]
theorem Np.offB {p : Pr} {s : Sy} (h : Np p s) {i : Nat} (hi : i < s.tasks.length) (h4 : ∀ n, (tkN (Go.Proofs.Ytgbgjljflgbcaaa.wrAll n s i) i).stage = 5 -> True) : Np p (offB s i) := by
 unfold Go.Proofs.Ytgbgjljflgbcaaa.offB
 split
 . exact h
 . have h1 := h.wrAll hi 4
   have l1 : i < (Go.Proofs.Ytgbgjljflgbcaaa.wrAll 4 s i).tasks.length := by rw [wrAll_len]; exact hi
   simp only
   split
   . have h2 := h1.again l1
     have l2 : i < (againS (Go.Proofs.Ytgbgjljflgbcaaa.wrAll 4 s i) i).tasks.length := by rw [againS_len]; exact l1
     have hT := h2.t i l2
     have e0 : (tkN (againS (Go.Proofs.Ytgbgjljflgbcaaa.wrAll 4 s i) i) i).stage = 0 := by rw [again_tk l1]; rfl
     exact h2.set l2 (hT.upd rfl rfl rfl hT.regs hT.old hT.reads hT.puts (.inl e0))
   . rename_i e
     have hT := h1.t i l1
     exact h1.set l1 (hT.upd rfl rfl rfl hT.regs hT.old hT.reads hT.puts (.inl (by simpa using e)))
theorem kidsS_len {f : Sy -> Nat -> Sy} (hf : ∀ s k, (f s k).tasks.length = s.tasks.length) (s : Sy) (i n : Nat) : (kidsS f s i n).tasks.length = s.tasks.length := by
 unfold kidsS
 generalize List.range n = L
 induction L generalizing s with
 | nil => rfl
 | cons k L ih => rw [List.foldl_cons, ih]; split <;> simp [hf]
theorem offS_len (f : Nat) (s : Sy) (i : Nat) : (offS f s i).tasks.length = s.tasks.length := by
 induction f generalizing s i with
 | zero => rfl
 | succ f ih => unfold offS; rw [offB_len, kidsS_len ih]
theorem Np.kids {p : Pr} {f : Sy -> Nat -> Sy} (hf : ∀ s k, (f s k).tasks.length = s.tasks.length) (hn : ∀ s k, Np p s -> k < s.tasks.length -> Np p (f s k)) {s : Sy} (h : Np p s) (i : Nat) : ∀ n, n <= s.tasks.length -> Np p (kidsS f s i n) := by
 intro n
 induction n with
 | zero => intro _; exact h
 | succ n ih =>
   intro hn'
   have h1 := ih (by omega)
   have hl := kidsS_len hf s i n
   have e : kidsS f s i (n + 1) = if (tkN (kidsS f s i n) n).up = i then f (kidsS f s i n) n else kidsS f s i n := by
     unfold kidsS
     rw [List.range_succ, List.foldl_append]; rfl
   rw [e]
   split
   . exact hn _ _ h1 (by omega)
   . exact h1
theorem Np.offS {p : Pr} (f : Nat) {s : Sy} (h : Np p s) {i : Nat} (hi : i < s.tasks.length) : Np p (offS f s i) := by
 induction f generalizing s i with
 | zero => exact h
 | succ f ih =>
  unfold Go.Proofs.Ytgbgjljflgbcaaa.offS
  exact Np.offB (Np.kids (offS_len f) (fun s k h hk => ih h hk) h i _ (Nat.le_refl _)) (by rw [kidsS_len (offS_len f)]; exact hi) (fun _ _ => trivial)

def rest (p : Pr) (t : Ta) : Nat := if t.way = 0 then trAs (tr p 4) ((acts p t).drop t.pc.toNat) else if t.way = 1 then trAs (tr p 4) ((acts p t).drop (t.pc.toNat + 1)) else 0
def bud (p : Pr) (s : Sy) : Nat := (s.tasks.map fun t => 1 + rest p t).sum
def pcs (s : Sy) : Nat := (s.tasks.map fun t => t.pc.toNat).sum
structure Lq (p : Pr) (s s' : Sy) : Prop where
 b : bud p s' <= bud p s
 l : s'.log.length + pcs s <= s.log.length + pcs s'
theorem Lq.refl (p : Pr) (s : Sy) : Lq p s s := ⟨Nat.le_refl _, Nat.le_refl _⟩
theorem Lq.trans {p : Pr} {a b c : Sy} (h : Lq p a b) (k : Lq p b c) : Lq p a c := ⟨Nat.le_trans k.b h.b, by have := h.l; have := k.l; omega⟩
theorem sum_set {f : Ta -> Nat} (l : List Ta) (i : Nat) (x : Ta) (hi : i < l.length) : ((l.set i x).map f).sum + f (nth Ta.z l i) = (l.map f).sum + f x := by
 induction l generalizing i with
 | nil => simp at hi
 | cons a l ih =>
  cases i with
  | zero => simp [nth]; omega
  | succ i =>
   have := ih i (by simpa using hi)
   simp only [List.set_cons_succ, List.map_cons, List.sum_cons]
   have e : nth Ta.z (a :: l) (i + 1) = nth Ta.z l i := by simp [nth]
   rw [e]; omega
theorem Lq.set {p : Pr} {s : Sy} {i : Nat} {t : Ta} (hi : i < s.tasks.length) (hr : rest p t <= rest p (tkN s i)) (hp : (tkN s i).pc.toNat <= t.pc.toNat) : Lq p s (setTk s i t) := by
 have h1 := sum_set (f := fun t => 1 + rest p t) s.tasks i t hi
 have h2 := sum_set (f := fun t => t.pc.toNat) s.tasks i t hi
 refine ⟨?_, ?_⟩
 . unfold bud setTk; simp only [tkN] at hr ⊢; omega
 . unfold pcs setTk; simp only [tkN] at hp ⊢; omega
theorem Lq.cells (p : Pr) (s : Sy) (cs : List Ce) (k : Int) : Lq p s { s with cells := cs, clock := k } := ⟨Nat.le_refl _, Nat.le_refl _⟩
theorem trAs_drop (g : Nat -> Nat) (l : List Ac) (k : Nat) : trAs g (l.drop k) <= trAs g l := by
 induction l generalizing k with
 | nil => simp
 | cons a l ih =>
  cases k with
  | zero => simp
  | succ k => have := ih k; simp only [List.drop_succ_cons, trAs, List.map_cons, List.sum_cons] at this ⊢; omega
theorem trAs_drops (g : Nat -> Nat) (l : List Ac) {m n : Nat} (h : n <= m) : trAs g (l.drop m) <= trAs g (l.drop n) := by
 have := trAs_drop g (l.drop n) (m - n)
 rw [List.drop_drop] at this
 rwa [show n + (m - n) = m by omega] at this
theorem rest_le {p : Pr} {t t' : Ta} (eb : t'.body = t.body) (h : (t'.way = t.way /\ t.pc.toNat <= t'.pc.toNat) \/ (t'.way ≠ 0 /\ t'.way ≠ 1) \/ (t.way = 1 /\ t'.way = 0 /\ t.pc.toNat + 1 <= t'.pc.toNat)) : rest p t' <= rest p t := by
 have ea : acts p t' = acts p t := by unfold acts; rw [eb]
 unfold rest
 rw [ea]
 rcases h with ⟨h1, h2⟩ | ⟨h1, h2⟩ | ⟨h1, h2, h3⟩
 . rw [h1]
   split
   . exact trAs_drops _ _ h2
   . split
     . exact trAs_drops _ _ (by omega)
     . exact Nat.le_refl _
 . rw [if_neg h1, if_neg h2]; exact Nat.zero_le _
 . rw [if_pos h2, if_neg (by omega), if_pos h1]; exact trAs_drops _ _ h3
theorem Lq.again {p : Pr} {s : Sy} {i : Nat} (hi : i < s.tasks.length) : Lq p s (againS s i) :=
 (Lq.cells p s (freeC s.cells i) s.clock).trans (Lq.set (s := { s with cells := freeC s.cells i }) hi (rest_le rfl (.inl ⟨rfl, Nat.le_refl _⟩)) (Nat.le_refl _))
theorem Lq.endd {p : Pr} {s : Sy} {i : Nat} {t : Ta} (hi : i < s.tasks.length) (cs : List Ce) (e : En) (eb : t.body = (tkN s i).body) (ew : t.way = (tkN s i).way) (ep : t.pc.toNat = (tkN s i).pc.toNat + 1) : Lq p s (setTk { s with cells := cs, log := s.log ++ [e] } i t) := by
 have h1 := sum_set (f := fun t => 1 + rest p t) s.tasks i t hi
 have h2 := sum_set (f := fun t => t.pc.toNat) s.tasks i t hi
 have h3 : rest p t <= rest p (tkN s i) := rest_le eb (.inl ⟨ew, by omega⟩)
 refine ⟨?_, ?_⟩
 . unfold bud setTk; simp only [tkN] at h3 ⊢; omega
 . unfold pcs setTk; simp only [tkN, List.length_append, List.length_cons, List.length_nil] at ep ⊢; omega
theorem Lq.end {p : Pr} {s : Sy} (h : Np p s) {i : Nat} (hi : i < s.tasks.length) (w : Int) : Lq p s (endS s i w) :=
 Lq.endd hi s.cells _ rfl rfl (by have := (h.t i hi).pc; show ((tkN s i).pc + 1).toNat = _; omega)
theorem Lq.same {p : Pr} {s : Sy} {i : Nat} {t : Ta} (hi : i < s.tasks.length) (eb : t.body = (tkN s i).body) (ew : t.way = (tkN s i).way) (ep : t.pc = (tkN s i).pc) : Lq p s (setTk s i t) :=
 Lq.set hi (rest_le eb (.inl ⟨ew, by rw [ep]; exact Nat.le_refl _⟩)) (by rw [ep]; exact Nat.le_refl _)
theorem Lq.samec {p : Pr} {s : Sy} {i : Nat} {t : Ta} (hi : i < s.tasks.length) (cs : List Ce) (k : Int) (eb : t.body = (tkN s i).body) (ew : t.way = (tkN s i).way) (ep : t.pc = (tkN s i).pc) : Lq p s (setTk { s with cells := cs, clock := k } i t) :=
 (Lq.cells p s cs k).trans (Lq.same (s := { s with cells := cs, clock := k }) hi eb ew ep)
theorem Lq.deed1 {p : Pr} {s : Sy} {i : Nat} (hi : i < s.tasks.length) (d : De) : Lq p s (deed1 s i d) := by
 unfold Go.Proofs.Ytgbgjljflgbcaaa.deed1 loadS
 split
 . split
   . exact Lq.same hi rfl rfl rfl
   . split
     . exact Lq.again hi
     . exact Lq.same hi rfl rfl rfl
 split
 . exact Lq.same hi rfl rfl rfl
 split
 . split
   . refine (Lq.again hi).trans (Lq.same (by rw [againS_len]; exact hi) ?_ ?_ ?_) <;> rw [again_tk hi]
   . exact Lq.same hi rfl rfl rfl
 . exact Lq.same hi rfl rfl rfl
theorem Lq.deed {p : Pr} {s : Sy} (h : Np p s) {i : Nat} (hi : i < s.tasks.length) (ds : List De) : Lq p s (deedS s i ds) := by
 unfold deedS
 split
 . exact Lq.deed1 hi _
 . split
   . exact Lq.end h hi _
   . exact Lq.same hi rfl rfl rfl
theorem Lq.write {p : Pr} {s : Sy} (h : Np p s) {i : Nat} (hi : i < s.tasks.length) : Lq p s (writeS s i) := by
 unfold writeS
 split
 . rw [write_end hi]
   exact Lq.endd hi _ _ rfl rfl (by have := (h.t i hi).pc; show ((tkN s i).pc + 1).toNat = _; omega)
 . exact Lq.samec hi _ s.clock rfl rfl rfl
theorem Lq.try {p : Pr} {s : Sy} (h : Np p s) {i : Nat} (hi : i < s.tasks.length) (ds : List De) : Lq p s (tryS s i ds) := by
 unfold tryS
 split
 . exact Lq.same hi rfl rfl rfl
 split
 . exact Lq.deed h hi ds
 split
 . unfold lockS
   split
   . exact Lq.again hi
   . split <;> exact Lq.samec hi _ s.clock rfl rfl rfl
 split
 . exact Lq.samec hi s.cells _ rfl rfl rfl
 split
 . unfold checkS
   split
   . split
     . exact Lq.again hi
     . exact Lq.same hi rfl rfl rfl
   . exact Lq.same hi rfl rfl rfl
 . exact Lq.write h hi
theorem Lq.wrAll {p : Pr} {s : Sy} (h : Np p s) {i : Nat} (hi : i < s.tasks.length) (n : Nat) : Lq p s (wrAll n s i) := by
 induction n generalizing s with
 | zero => exact Lq.refl _ _
 | succ n ih =>
   unfold Go.Proofs.Ytgbgjljflgbcaaa.wrAll
   split
   . rename_i e; exact (Lq.write h hi).trans (ih (h.write hi e) (by rw [writeS_len]; exact hi))
   . exact Lq.refl _ _
theorem Lq.offB {p : Pr} {s : Sy} (h : Np p s) {i : Nat} (hi : i < s.tasks.length) : Lq p s (offB s i) := by
 unfold Go.Proofs.Ytgbgjljflgbcaaa.offB
 split
 . exact Lq.refl _ _
 . have h1 := h.wrAll hi 4
   have l1 : i < (Go.Proofs.Ytgbgjljflgbcaaa.wrAll 4 s i).tasks.length := by rw [wrAll_len]; exact hi
   simp only
   refine (Lq.wrAll h hi 4).trans ?_
   split
   . refine (Lq.again l1).trans (Lq.set (by rw [againS_len]; exact l1) (rest_le rfl (.inr (.inl ⟨by show (4 : Int) ≠ 0; omega, by show (4 : Int) ≠ 1; omega⟩))) (Nat.le_refl _))
   . exact Lq.set l1 (rest_le rfl (.inr (.inl ⟨by show (4 : Int) ≠ 0; omega, by show (4 : Int) ≠ 1; omega⟩))) (Nat.le_refl _)
theorem kidsS_succ (f : Sy -> Nat -> Sy) (s : Sy) (i n : Nat) : kidsS f s i (n + 1) = if (tkN (kidsS f s i n) n).up = i then f (kidsS f s i n) n else kidsS f s i n := by
 unfold kidsS
 rw [List.range_succ, List.foldl_append]; rfl
theorem Lq.kids {p : Pr} {f : Sy -> Nat -> Sy} (hf : ∀ s k, (f s k).tasks.length = s.tasks.length) (hn : ∀ s k, Np p s -> k < s.tasks.length -> Np p (f s k)) (hq : ∀ s k, Np p s -> k < s.tasks.length -> Lq p s (f s k)) {s : Sy} (h : Np p s) (i : Nat) : ∀ n, n <= s.tasks.length -> Lq p s (kidsS f s i n) := by
 intro n
 induction n with
 | zero => intro _; exact Lq.refl _ _
 | succ n ih =>
   intro hn'
   have h1 := Np.kids hf hn h i n (by omega)
   have hl := kidsS_len hf s i n
   rw [kidsS_succ]
   split
   . exact (ih (by omega)).trans (hq _ _ h1 (by omega))
   . exact ih (by omega)
theorem Lq.offS {p : Pr} (f : Nat) {s : Sy} (h : Np p s) {i : Nat} (hi : i < s.tasks.length) : Lq p s (offS f s i) := by
 induction f generalizing s i with
 | zero => exact Lq.refl _ _
 | succ f ih =>
  unfold Go.Proofs.Ytgbgjljflgbcaaa.offS
  exact (Lq.kids (offS_len f) (fun s k h hk => h.offS f hk) (fun s k h hk => ih h hk) h i _ (Nat.le_refl _)).trans (Lq.offB (Np.kids (offS_len f) (fun s k h hk => h.offS f hk) h i _ (Nat.le_refl _)) (by rw [kidsS_len (offS_len f)]; exact hi))
end Go.Proofs.Ytgbgjljflgbcaaa
