import Derived.Test.YtgbgjljflgbcaaaSo05
import Derived.Test.YtgbgjljflgbcaaaSo06
import Derived.Test.YtgbgjljflgbcaaaSo03
namespace Go.Proofs.Ytgbgjljflgbcaaa
open Go.RowKit
set_option linter.unusedSimpArgs false
set_option linter.unusedVariables false
def ceN (s : Sy) (c : Int) : Ce := nth Ce.z s.cells c.toNat
def freeC (cs : List Ce) (i : Int) : List Ce := cs.map fun c => if c.lock = i then { c with lock := -1 } else c
def setTk (s : Sy) (i : Nat) (t : Ta) : Sy := { s with tasks := s.tasks.set i t }
def againT (t : Ta) : Ta := { t with regs := t.old, reads := [], puts := [], when_ := 0, stage := 0, at_ := 0 }
def againS (s : Sy) (i : Nat) : Sy := setTk { s with cells := freeC s.cells i } i (againT (tkN s i))
def endT (t : Ta) : Ta := { t with pc := t.pc + 1, reads := [], puts := [], since := 0, when_ := 0, from_ := 0, stage := 0, at_ := 0 }
def endE (t : Ta) (i : Nat) (when_ : Int) : En := ⟨i, t.pc, when_, t.reads, t.puts, t.from_⟩
def endS (s : Sy) (i : Nat) (when_ : Int) : Sy := setTk { s with log := s.log ++ [endE (tkN s i) i when_] } i (endT (tkN s i))
def blindB (s : Sy) (i : Nat) (c : Int) : Bool := (decide (0 <= (ceN s c).lock) && !decide ((ceN s c).lock = i)) || decide ((tkN s i).since < (ceN s c).time)
def beginT (s : Sy) (t : Ta) : Ta := { t with since := s.clock, old := t.regs, from_ := s.log.length, when_ := 0, stage := 1, at_ := 0 }
def addSt (x : Pu) (a : List Pu × Bool) (y : Pu) : List Pu × Bool :=
 ((a.1 ++ if !a.2 && decide (x.c <= y.c) then [x] else []) ++ (if y.c = x.c then [] else [y]), a.2 || decide (x.c <= y.c))
def addP (xs : List Pu) (x : Pu) : List Pu := if (xs.foldl (addSt x) ([], false)).2 then (xs.foldl (addSt x) ([], false)).1 else (xs.foldl (addSt x) ([], false)).1 ++ [x]
def loadS (s : Sy) (i : Nat) (d : De) : Sy :=
 match fdP (tkN s i).puts d.b with
 | some j => setTk s i { tkN s i with regs := (tkN s i).regs.set d.a.toNat (nth Pu.z (tkN s i).puts j).n, at_ := (tkN s i).at_ + 1 }
 | none => if blindB s i d.b then againS s i else setTk s i { tkN s i with regs := (tkN s i).regs.set d.a.toNat (ceN s d.b).num, reads := addP (tkN s i).reads ⟨d.b, (ceN s d.b).num⟩, at_ := (tkN s i).at_ + 1 }
def regT (r : List Int) (d : De) : List Int := if d.k = 3 then r.set d.a.toNat d.b else if d.k = 4 then r.set d.a.toNat ((nth 0 r d.a.toNat + nth 0 r d.b.toNat) % 100) else r
def deed1 (s : Sy) (i : Nat) (d : De) : Sy :=
 if d.k = 1 then loadS s i d
 else if d.k = 2 then setTk s i { tkN s i with puts := addP (tkN s i).puts ⟨d.a, nth 0 (tkN s i).regs d.b.toNat⟩, at_ := (tkN s i).at_ + 1 }
 else if d.k = 5 then (if nth 0 (tkN s i).regs d.a.toNat = 0 then setTk (againS s i) i { againT (tkN s i) with when_ := (tkN s i).since + 1 } else setTk s i { tkN s i with at_ := (tkN s i).at_ + 1 })
 else setTk s i { tkN s i with regs := regT (tkN s i).regs d, at_ := (tkN s i).at_ + 1 }
def deedS (s : Sy) (i : Nat) (ds : List De) : Sy :=
 if (tkN s i).at_ < ds.length then deed1 s i (nth De.z ds (tkN s i).at_.toNat)
 else if (tkN s i).puts.length = 0 then endS s i (tkN s i).since else setTk s i { tkN s i with stage := 2, at_ := 0 }
def putN (t : Ta) : Pu := nth Pu.z t.puts t.at_.toNat
def lockS (s : Sy) (i : Nat) : Sy :=
 if 0 <= (ceN s (putN (tkN s i)).c).lock then againS s i
 else setTk { s with cells := s.cells.set (putN (tkN s i)).c.toNat { ceN s (putN (tkN s i)).c with lock := i } } i (if (tkN s i).at_ + 1 = (tkN s i).puts.length then { tkN s i with stage := 3, at_ := 0 } else { tkN s i with at_ := (tkN s i).at_ + 1 })
def timeS (s : Sy) (i : Nat) : Sy := setTk { s with clock := s.clock + 1 } i { tkN s i with when_ := s.clock + 1, stage := 4, at_ := 0 }
def checkS (s : Sy) (i : Nat) : Sy :=
 if (tkN s i).at_ < (tkN s i).reads.length then (if blindB s i (nth Pu.z (tkN s i).reads (tkN s i).at_.toNat).c then againS s i else setTk s i { tkN s i with at_ := (tkN s i).at_ + 1 })
 else setTk s i { tkN s i with stage := 5, at_ := 0 }
def write1 (s : Sy) (i : Nat) : Sy := setTk { s with cells := s.cells.set (putN (tkN s i)).c.toNat ⟨(putN (tkN s i)).n, (tkN s i).when_, -1⟩ } i { tkN s i with at_ := (tkN s i).at_ + 1 }
def writeS (s : Sy) (i : Nat) : Sy := if (tkN s i).at_ + 1 = (tkN s i).puts.length then endS (write1 s i) i (tkN s i).when_ else write1 s i
def tryS (s : Sy) (i : Nat) (ds : List De) : Sy :=
 if (tkN s i).stage = 0 then setTk s i (beginT s (tkN s i))
 else if (tkN s i).stage = 1 then deedS s i ds
 else if (tkN s i).stage = 2 then lockS s i
 else if (tkN s i).stage = 3 then timeS s i
 else if (tkN s i).stage = 4 then checkS s i
 else writeS s i
def wrAll : Nat -> Sy -> Nat -> Sy
 | 0, s, _ => s
 | n + 1, s, i => if (tkN s i).stage = 5 then wrAll n (writeS s i) i else s
def offB (s : Sy) (i : Nat) : Sy :=
 if (tkN s i).way ≠ 0 /\ (tkN s i).way ≠ 1 then s
 else
  let s1 := wrAll 4 s i
  let s2 := if (tkN s1 i).stage ≠ 0 then againS s1 i else s1
  setTk s2 i { tkN s2 i with way := 4 }
def kidsS (f : Sy -> Nat -> Sy) (s : Sy) (i : Nat) (n : Nat) : Sy := (List.range n).foldl (fun s k => if (tkN s k).up = i then f s k else s) s
def offS : Nat -> Sy -> Nat -> Sy
 | 0, s, _ => s
 | f + 1, s, i => offB (kidsS (offS f) s i s.tasks.length) i
def awaitS (s : Sy) (i : Nat) : Sy :=
 if kin s.tasks i 3 = 0 then setTk s i { tkN s i with way := 0, pc := (tkN s i).pc + 1 }
 else
  let s1 := kidsS (offS s.tasks.length) s i s.tasks.length
  setTk s1 i { tkN s1 i with way := 3 }
def newK (b up : Int) : Ta := ⟨b, 0, up, [0, 0, 0], 0, 0, 0, 0, [0, 0, 0], [], [], 0, 0⟩
def forkS (s : Sy) (i : Nat) (ks : List Int) : Sy := setTk { s with tasks := s.tasks ++ ks.map fun b => newK b i } i { tkN s i with way := 1 }
def stepS (p : Pr) (s : Sy) (i : Nat) : Sy :=
 if (tkN s i).way = 1 then awaitS s i
 else if (tkN s i).pc < (acts p (tkN s i)).length then
  let a := nth Ac.z (acts p (tkN s i)) (tkN s i).pc.toNat
  if a.k = 1 then tryS s i a.ds
  else if a.k = 2 then forkS s i a.ks
  else if a.k = 3 \/ nth 0 (tkN s i).regs a.r.toNat ≠ 0 then setTk s i { tkN s i with way := 3 }
  else setTk s i { tkN s i with pc := (tkN s i).pc + 1 }
 else setTk s i { tkN s i with way := 2 }
def doB (s : Sy) (k : Int) : Bool := plB k s.tasks.length && rdyB s k.toNat
def doS (p : Pr) (s : Sy) (k : Int) : Sy := if doB s k then stepS p s k.toNat else s
def runS (p : Pr) (s : Sy) (ks : List Int) : Sy := ks.foldl (doS p) s
structure NpT (p : Pr) (i : Nat) (t : Ta) : Prop where
 body : 0 <= t.body /\ t.body < p.bodies.length
 pc : 0 <= t.pc /\ t.pc <= (acts p t).length
 regs : rgB t.regs = true
 old : rgB t.old = true
 up : (i = 0 -> t.up = -1) /\ (0 < i -> 0 <= t.up /\ t.up < i)
 reads : puB t.reads p.cells.length = true
 puts : puB t.puts p.cells.length = true
 st : t.stage = 0 \/ (t.pc < (acts p t).length /\ (nth Ac.z (acts p t) t.pc.toNat).k = 1 /\ ((t.stage = 1 /\ 0 <= t.at_ /\ t.at_ <= (nth Ac.z (acts p t) t.pc.toNat).ds.length) \/ (t.stage = 2 /\ 0 <= t.at_ /\ t.at_ < t.puts.length) \/ (t.stage = 3 /\ 0 < t.puts.length) \/ (t.stage = 4 /\ 0 <= t.at_ /\ t.at_ <= t.reads.length /\ 0 < t.puts.length) \/ (t.stage = 5 /\ 0 <= t.at_ /\ t.at_ < t.puts.length)))
structure Np (p : Pr) (s : Sy) : Prop where
 ok : okB p = true
 cs : s.cells.length = p.cells.length
 n : 1 <= s.tasks.length
 t : ∀ i, i < s.tasks.length -> NpT p i (tkN s i)
 c : ∀ j, j < s.cells.length -> plB (nth Ce.z s.cells j).num 100 = true
 ck : 0 <= s.clock /\ s.clock <= 200
theorem rgB_iff {r : List Int} : rgB r = true ↔ r.length = 3 /\ ∀ x, x ∈ r -> 0 <= x /\ x < 100 := by
 simp [rgB, plB]
theorem Np.of {p : Pr} {s : Sy} (h : mSoB p s = true) : Np p s := by
 rw [<- so_eq] at h
 simp only [soB, Bool.and_eq_true] at h
 obtain ⟨⟨⟨⟨h1, h2⟩, h3⟩, h4⟩, h5⟩ := h
 simp only [tksB, Bool.and_eq_true, List.all_eq_true, List.mem_range, inB_iff] at h3
 simp only [cesB, Bool.and_eq_true, decide_eq_true_eq] at h4
 obtain ⟨h4a, h4b⟩ := h4
 refine ⟨h1, h4a, by omega, fun i hi => ?_, fun j hj => ?_, (inB_iff _ _ _).1 h2⟩
 . have ht := h3.2 i hi
   simp only [tkB, tnB, cgB, Bool.and_eq_true, inB_iff, plB_iff'] at ht
   obtain ⟨⟨⟨⟨⟨⟨⟨⟨a1, a2⟩, a3⟩, a4⟩, a5⟩, a6⟩, b⟩, c⟩, ⟨d1, d2⟩, e1, e2, e3, e4, e5, e6⟩ := ht
   refine ⟨a1, a2, a3, a4, ?_, e1, e2, ?_⟩
   . unfold upfB at b
     by_cases hz : i = 0
     . simp [hz] at b ⊢; subst hz; exact b
     . rw [if_neg hz] at b
       simp only [Bool.and_eq_true, plB_iff'] at b
       exact ⟨fun e => absurd e hz, fun _ => b.1⟩
   . by_cases hst : (tkN s i).stage = 0
     . exact .inl hst
     . right
       have hk : (acN p (tkN s i)).k = 1 := by
         simp [hst] at d1; exact d1.2
       unfold acN at hk e3
       by_cases hpc : (tkN s i).pc = ((acts p (tkN s i)).length : Int)
       . rw [if_pos hpc] at hk; simp [Ac.z] at hk
       . rw [if_neg hpc] at hk e3
         refine ⟨by omega, hk, ?_⟩
         unfold atB at e3
         have hs : (tkN s i).stage = 1 \/ (tkN s i).stage = 2 \/ (tkN s i).stage = 3 \/ (tkN s i).stage = 4 \/ (tkN s i).stage = 5 := by omega
         rcases hs with q | q | q | q | q <;> simp [q, -List.length_eq_zero_iff] at e3 ⊢ <;> (try (simp only [inB_iff, plB_iff'] at e3)) <;> omega
 . revert h4b
   cases holdN s.tasks (List.replicate s.cells.length (-1)) s.tasks.length with
   | none => simp
   | some h =>
     intro h4b
     simp only [List.all_eq_true, List.mem_range] at h4b
     have := h4b j hj
     simp only [ceB, Bool.and_eq_true] at this
     exact this.1.1
theorem tkN_set {s : Sy} {i k : Nat} {t : Ta} (hi : i < s.tasks.length) : tkN (setTk s i t) k = if i = k then t else tkN s k := by
 unfold tkN setTk nth
 simp only [List.getD_eq_getElem?_getD, List.getElem?_set]
 by_cases e : i = k
 . subst e; simp [hi]
 . simp [e]
theorem tkN_same {s : Sy} {i : Nat} {t : Ta} (hi : i < s.tasks.length) : tkN (setTk s i t) i = t := by rw [tkN_set hi, if_pos rfl]
theorem Np.set {p : Pr} {s : Sy} {i : Nat} {t : Ta} (h : Np p s) (hi : i < s.tasks.length) (ht : NpT p i t) : Np p (setTk s i t) := by
 refine ⟨h.ok, h.cs, by simpa [setTk] using h.n, fun k hk => ?_, h.c, h.ck⟩
 rw [tkN_set hi]
 by_cases e : i = k
 . subst e; rw [if_pos rfl]; exact ht
 . rw [if_neg e]; exact h.t k (by simpa [setTk] using hk)
theorem puB_nil (c : Int) : puB [] c = true := rfl
theorem puB_nth {xs : List Pu} {c : Int} (h : puB xs c = true) {i : Nat} (hi : i < xs.length) : 0 <= (nth Pu.z xs i).c /\ (nth Pu.z xs i).c < c /\ 0 <= (nth Pu.z xs i).n /\ (nth Pu.z xs i).n < 100 := by
 have := (puB_iff xs c).1 h i hi
 omega
theorem puB_len {xs : List Pu} {n : Nat} (h : puB xs n = true) : xs.length <= n := by
 have key : ∀ k, k < xs.length -> (k : Int) <= (nth Pu.z xs k).c := by
   intro k
   induction k with
   | zero => intro hk; have := puB_nth h hk; omega
   | succ k ih =>
     intro hk
     have h1 := ih (by omega)
     have h2 := pu_lt h (i := k) (j := k + 1) (by omega) hk
     omega
 rcases Nat.eq_zero_or_pos xs.length with h0 | h0
 . omega
 . have h1 := key (xs.length - 1) (by omega)
   have h2 := puB_nth h (i := xs.length - 1) (by omega)
   omega
def Asc (xs : List Pu) (c : Int) : Prop := (∀ x, x ∈ xs -> 0 <= x.c /\ x.c < c /\ 0 <= x.n /\ x.n < 100) /\ xs.Pairwise (fun x y => x.c < y.c)
theorem puB_asc {xs : List Pu} {c : Int} : puB xs c = true ↔ Asc xs c := by
 constructor
 . intro h
   refine ⟨fun x hx => ?_, ?_⟩
   . obtain ⟨j, hj, rfl⟩ := List.getElem_of_mem hx
     have := puB_nth h hj
     rw [nth_eq Pu.z xs j hj] at this
     exact this
   . rw [List.pairwise_iff_getElem]
     intro i j hi hj hij
     have := pu_lt h hij hj
     rw [nth_eq Pu.z xs i hi, nth_eq Pu.z xs j hj] at this
     exact this
 . rintro ⟨h1, h2⟩
   rw [puB_iff]
   intro i hi
   rw [nth_eq Pu.z xs i hi]
   have := h1 _ (List.getElem_mem hi)
   refine ⟨⟨this.1, this.2.1⟩, ⟨this.2.2.1, this.2.2.2⟩, ?_⟩
   by_cases hz : i = 0
   . exact .inl hz
   . right
     rw [nth_eq Pu.z xs (i - 1) (by omega)]
     exact List.pairwise_iff_getElem.1 h2 (i - 1) i (by omega) hi (by omega)
theorem addP_asc {xs : List Pu} {c : Int} {x : Pu} (h : Asc xs c) (hx : 0 <= x.c /\ x.c < c /\ 0 <= x.n /\ x.n < 100) : Asc (addP xs x) c := by
 have fin : ∀ (ys : List Pu) (a : List Pu × Bool), Asc ys c -> a.2 = true -> Asc a.1 c -> (∀ y, y ∈ a.1 -> ∀ z, z ∈ ys -> y.c < z.c \/ z.c = x.c) -> (∀ y, y ∈ a.1 -> y.c <= x.c \/ True) ->
     (ys.foldl (addSt x) a).2 = true /\ Asc (ys.foldl (addSt x) a).1 c := by
   intro ys
   induction ys with
   | nil => intro a _ h2 h3 _ _; exact ⟨h2, h3⟩
   | cons y ys ih =>
     intro a hy h2 h3 h4 _
     have hys : Asc ys c := ⟨fun z hz => hy.1 z (by simp [hz]), (List.pairwise_cons.1 hy.2).2⟩
     rw [List.foldl_cons]
     have e : addSt x a y = (a.1 ++ (if y.c = x.c then [] else [y]), true) := by simp [addSt, h2]
     rw [e]
     refine ih _ hys rfl ?_ ?_ (fun _ _ => .inr trivial)
     . by_cases q : y.c = x.c
       . simpa [q] using h3
       . rw [if_neg q]
         refine ⟨fun z hz => ?_, ?_⟩
         . rcases List.mem_append.1 hz with hz | hz
           . exact h3.1 z hz
           . rw [List.mem_singleton.1 hz]; exact hy.1 y (by simp)
         . rw [List.pairwise_append]
           refine ⟨h3.2, by simp, fun z hz u hu => ?_⟩
           rw [List.mem_singleton.1 hu]
           rcases h4 z hz y (by simp) with h5 | h5
           . exact h5
           . exact absurd h5 q
     . intro z hz u hu
       rcases List.mem_append.1 hz with hz | hz
       . exact h4 z hz u (by simp [hu])
       . by_cases q : y.c = x.c
         . simp [q] at hz
         . rw [if_neg q] at hz
           rw [List.mem_singleton.1 hz]
           exact .inl ((List.pairwise_cons.1 hy.2).1 u hu)
 have main : ∀ (ys : List Pu) (a : List Pu × Bool), Asc ys c -> a.2 = false -> Asc a.1 c -> (∀ y, y ∈ a.1 -> y.c < x.c) -> (∀ y, y ∈ a.1 -> ∀ z, z ∈ ys -> y.c < z.c) ->
     ((ys.foldl (addSt x) a).2 = true -> Asc (ys.foldl (addSt x) a).1 c) /\ ((ys.foldl (addSt x) a).2 = false -> Asc ((ys.foldl (addSt x) a).1 ++ [x]) c) := by
   intro ys
   induction ys with
   | nil =>
     intro a _ h2 h3 h4 _
     refine ⟨fun e => ?_, fun _ => ?_⟩
     . simp only [List.foldl_nil] at e; rw [h2] at e; cases e
     . simp only [List.foldl_nil]
       refine ⟨fun z hz => ?_, ?_⟩
       . rcases List.mem_append.1 hz with hz | hz
         . exact h3.1 z hz
         . rw [List.mem_singleton.1 hz]; exact hx
       . rw [List.pairwise_append]
         exact ⟨h3.2, by simp, fun z hz u hu => by rw [List.mem_singleton.1 hu]; exact h4 z hz⟩
   | cons y ys ih =>
     intro a hy h2 h3 h4 h5
     have hys : Asc ys c := ⟨fun z hz => hy.1 z (by simp [hz]), (List.pairwise_cons.1 hy.2).2⟩
     rw [List.foldl_cons]
     by_cases q : x.c <= y.c
     . have e : addSt x a y = (a.1 ++ [x] ++ (if y.c = x.c then [] else [y]), true) := by simp [addSt, h2, q]
       rw [e]
       have hax : Asc (a.1 ++ [x]) c := by
         refine ⟨fun z hz => ?_, ?_⟩
         . rcases List.mem_append.1 hz with hz | hz
           . exact h3.1 z hz
           . rw [List.mem_singleton.1 hz]; exact hx
         . rw [List.pairwise_append]
           exact ⟨h3.2, by simp, fun z hz u hu => by rw [List.mem_singleton.1 hu]; exact h4 z hz⟩
       have hbig : Asc (a.1 ++ [x] ++ (if y.c = x.c then [] else [y])) c := by
         by_cases q2 : y.c = x.c
         . simpa [q2] using hax
         . rw [if_neg q2]
           refine ⟨fun z hz => ?_, ?_⟩
           . rcases List.mem_append.1 hz with hz | hz
             . exact hax.1 z hz
             . rw [List.mem_singleton.1 hz]; exact hy.1 y (by simp)
           . rw [List.pairwise_append]
             refine ⟨hax.2, by simp, fun z hz u hu => ?_⟩
             rw [List.mem_singleton.1 hu]
             rcases List.mem_append.1 hz with hz | hz
             . exact h5 z hz y (by simp)
             . rw [List.mem_singleton.1 hz]; omega
       have := fin ys (a.1 ++ [x] ++ (if y.c = x.c then [] else [y]), true) hys rfl hbig (fun z hz u hu => by
         have huy := (List.pairwise_cons.1 hy.2).1 u hu
         rcases List.mem_append.1 hz with hz | hz
         . rcases List.mem_append.1 hz with hz | hz
           . exact .inl (h5 z hz u (by simp [hu]))
           . rw [List.mem_singleton.1 hz]; left; omega
         . by_cases q2 : y.c = x.c
           . simp [q2] at hz
           . rw [if_neg q2] at hz; rw [List.mem_singleton.1 hz]; exact .inl huy) (fun _ _ => .inr trivial)
       exact ⟨fun _ => this.2, fun e2 => by rw [this.1] at e2; cases e2⟩
     . have e : addSt x a y = (a.1 ++ [y], false) := by
         have : ¬ y.c = x.c := by omega
         simp [addSt, h2, q, this]
       rw [e]
       refine ih _ hys rfl ?_ ?_ ?_
       . refine ⟨fun z hz => ?_, ?_⟩
         . rcases List.mem_append.1 hz with hz | hz
           . exact h3.1 z hz
           . rw [List.mem_singleton.1 hz]; exact hy.1 y (by simp)
         . rw [List.pairwise_append]
           exact ⟨h3.2, by simp, fun z hz u hu => by rw [List.mem_singleton.1 hu]; exact h5 z hz y (by simp)⟩
       . intro z hz
         rcases List.mem_append.1 hz with hz | hz
         . exact h4 z hz
         . rw [List.mem_singleton.1 hz]; omega
       . intro z hz u hu
         rcases List.mem_append.1 hz with hz | hz
         . exact h5 z hz u (by simp [hu])
         . rw [List.mem_singleton.1 hz]; exact (List.pairwise_cons.1 hy.2).1 u hu
 have := main xs ([], false) h rfl ⟨by simp, by simp⟩ (by simp) (by simp)
 unfold addP
 split
 . rename_i e; exact this.1 e
 . rename_i e; exact this.2 (by simpa using e)
theorem addP_puB {xs : List Pu} {c : Int} {x : Pu} (h : puB xs c = true) (hx : 0 <= x.c /\ x.c < c /\ 0 <= x.n /\ x.n < 100) : puB (addP xs x) c = true := puB_asc.2 (addP_asc (puB_asc.1 h) hx)
theorem rgB_set {r : List Int} {a : Nat} {x : Int} (h : rgB r = true) (hx : 0 <= x /\ x < 100) : rgB (r.set a x) = true := by
 rw [rgB_iff] at h ⊢
 refine ⟨by simpa using h.1, fun y hy => ?_⟩
 rcases List.mem_or_eq_of_mem_set hy with h1 | h1
 . exact h.2 y h1
 . rw [h1]; exact hx
theorem rgB_nth {r : List Int} {a : Nat} (h : rgB r = true) (ha : a < 3) : 0 <= nth 0 r a /\ nth 0 r a < 100 := by
 rw [rgB_iff] at h
 exact h.2 _ (nth_mem 0 r a (by omega))

structure Fr (R B : Nat) (w w' : World) : Prop where
 os : w'.os = w.os
 tape : w'.tape = w.tape
 output : w'.output = w.output
 size : w.heap.size <= w'.heap.size
 block : ∀ k, k < B -> k ≠ R -> w'.heap[k]? = w.heap[k]?
theorem Fr.refl (R B : Nat) (w : World) : Fr R B w w := ⟨rfl, rfl, rfl, Nat.le_refl _, fun _ _ _ => rfl⟩
theorem Fr.trans {R B : Nat} {a b c : World} (h : Fr R B a b) (k : Fr R B b c) : Fr R B a c :=
 ⟨k.os.trans h.os, k.tape.trans h.tape, k.output.trans h.output, Nat.le_trans h.size k.size, fun i hi hR => (k.block i hi hR).trans (h.block i hi hR)⟩
theorem Fr.mono {R B B' : Nat} {w w' : World} (h : Fr R B w w') (hB : B' <= B) : Fr R B' w w' := ⟨h.os, h.tape, h.output, h.size, fun k hk hR => h.block k (Nat.lt_of_lt_of_le hk hB) hR⟩
theorem Fr.of_below {R B : Nat} {w w' : World} (h : Below B w w') : Fr R B w w' := ⟨h.os, h.tape, h.output, h.size, fun k hk _ => h.block k hk⟩
theorem Fr.drewN {R B : Nat} {a w : World} (h : Fr R B a w) (n : Nat) : Fr R B a (w.drewN n) := h.trans (Fr.of_below (below_drewN (Below.refl _ _) n))
theorem Fr.drew {R B : Nat} {a w : World} (h : Fr R B a w) : Fr R B a w.drew := h.trans (Fr.of_below (Below.refl _ _).drew)
theorem Fr.alloc {R B : Nat} {a w : World} (h : Fr R B a w) (hB : B <= w.heap.size) (o : Obj) : Fr R B a (w.alloc o) := h.trans (Fr.of_below ((Below.refl _ _).alloc hB o))
theorem Fr.setCell {R B : Nat} {a w : World} (h : Fr R B a w) {p : Addr} (hp : B <= p.block \/ p.block = R) (u : Value) : Fr R B a (w.setCell p u) :=
 h.trans ⟨rfl, rfl, rfl, by simp, fun k hk hR => Below.heap_setCell w p u k (by rcases hp with h1 | h1 <;> omega)⟩
theorem Fr.grown {R B : Nat} {a w w' : World} {row : Option Nat} (h : Fr R B a w) (hg : w.grownBy w' row) (hB : B <= w.heap.size) (hr : ∀ k, row = some k -> B <= k) : Fr R B a w' :=
 h.trans ⟨hg.os, hg.tape, hg.output, hg.size, fun k hk _ => hg.block k (by omega) (fun e => by have := hr k e.symm; omega)⟩
theorem Fr.below {R B : Nat} {w w' : World} (h : Fr R B w w') (hR : B <= R) : Below B w w' := ⟨h.os, h.tape, h.output, h.size, fun k hk => h.block k hk (by omega)⟩
theorem Fr.cell {R B : Nat} {w w' : World} (h : Fr R B w w') {b o : Nat} (hb : b < B) (hR : b ≠ R) : w'.cell? ⟨b, o, none⟩ = w.cell? ⟨b, o, none⟩ := World.cell?_of_block (w := w) (h.block b hb hR)
theorem Fr.frozen {R B : Nat} {w w' : World} (h : Fr R B w w') {b o : Nat} (hb : b < B) (hR : b ≠ R) : w'.frozen? ⟨b, o, none⟩ = w.frozen? ⟨b, o, none⟩ := World.frozen?_of_block (w := w) (h.block b hb hR)
structure RdAt (B : Nat) (w : World) (R p : Nat) : Prop where
 lt : R < B
 le : B <= w.heap.size
 pos : w.cell? ⟨R, 1, none⟩ = some (.int .i64 (p : Int))
 free : w.frozen? ⟨R, 1, none⟩ = false
 code : ∃ a n cap, w.cell? ⟨R, 0, none⟩ = some (.slice a n cap) /\ n <= 2000 /\ ∀ i, i < n -> ∃ b off u, a = some ⟨b, off, none⟩ /\ b < B /\ b ≠ R /\ 0 <= u /\ u <= 255 /\ w.cell? ⟨b, off + i, none⟩ = some (.int .u8 u)
theorem RdAt.below {B : Nat} {w w' : World} {R p : Nat} (h : RdAt B w R p) (hb : Below B w w') : RdAt B w' R p := by
 refine ⟨h.lt, Nat.le_trans h.le hb.size, by rw [hb.cell (p := ⟨R, 1, none⟩) h.lt]; exact h.pos, by rw [hb.frozen (p := ⟨R, 1, none⟩) h.lt]; exact h.free, ?_⟩
 obtain ⟨a, n, cap, h0, hn, hi⟩ := h.code
 refine ⟨a, n, cap, by rw [hb.cell (p := ⟨R, 0, none⟩) h.lt]; exact h0, hn, fun i hlt => ?_⟩
 obtain ⟨b, off, u, e, h1, h2, h3, h4, h5⟩ := hi i hlt
 exact ⟨b, off, u, e, h1, h2, h3, h4, by rw [hb.cell (p := ⟨b, _, none⟩) h1]; exact h5⟩
theorem RdAt.go {B : Nat} {w : World} {R p : Nat} (h : RdAt B w R p) (q : Nat) : RdAt B (w.setCell ⟨R, 1, none⟩ (.int .i64 (q : Int))) R q := by
 refine ⟨h.lt, by simpa using h.le, World.cell?_setCell_same w ⟨R, 1, none⟩ _ h.pos, by simpa using h.free, ?_⟩
 obtain ⟨a, n, cap, h0, hn, hi⟩ := h.code
 refine ⟨a, n, cap, ?_, hn, fun i hlt => ?_⟩
 . rw [World.cell?_setCell_other w ⟨R, 1, none⟩ ⟨R, 0, none⟩ _ (by intro e; injection e; omega)]; exact h0
 . obtain ⟨b, off, u, e, h1, h2, h3, h4, h5⟩ := hi i hlt
   exact ⟨b, off, u, e, h1, h2, h3, h4, by rw [World.cell?_setCell_other w ⟨R, 1, none⟩ ⟨b, _, none⟩ _ (by intro e; injection e with e1; omega)]; exact h5⟩

set_option maxHeartbeats 8000000
theorem xor_i64_nat (a b : Nat) (ha : a < 1099511627776) (hb : b < 1099511627776) : bits .xor .i64 (a : Int) (b : Int) = ((a ^^^ b : Nat) : Int) := by
 have hx : a ^^^ b < 2 ^ 40 := Nat.xor_lt_two_pow (by omega) (by omega)
 have h1 : (BitVec.ofInt 64 (a : Int)).toNat = a := by
  rw [BitVec.ofInt_natCast, BitVec.toNat_ofNat]; exact Nat.mod_eq_of_lt (by omega)
 have h2 : (BitVec.ofInt 64 (b : Int)).toNat = b := by
  rw [BitVec.ofInt_natCast, BitVec.toNat_ofNat]; exact Nat.mod_eq_of_lt (by omega)
 show IntKind.i64.wrap ((BitVec.ofInt 64 (a : Int) ^^^ BitVec.ofInt 64 (b : Int)).toNat : Int) = _
 rw [BitVec.toNat_xor, h1, h2, IntKind.wrap_i64]
 omega
theorem xor_nonneg (x : Int) (h0 : 0 <= x) (h1 : x <= 1000000000) : 0 <= bits .xor .i64 x (x / 64) := by
 obtain ⟨a, rfl⟩ := Int.eq_ofNat_of_zero_le h0
 have d : ((a : Int) / 64) = ((a / 64 : Nat) : Int) := by omega
 rw [d, xor_i64_nat a (a / 64) (by omega) (by omega)]
 omega
theorem pick_any (B R p : Nat) (n : Int) (w : World) (h : RdAt B w R p) (hp : p <= 1000000) (hn : 1 <= n) (hn2 : n <= 1000000) :
   Calls Try.prog 48 #[.pointer (some ⟨R, 0, none⟩), .int .i64 n] w fun e w' => ∃ q : Int, e = .returned (.int .i64 q) /\ 0 <= q /\ q < n /\ RdAt B w' R (p + 1) /\ Fr R w.heap.size w w' := by
 obtain ⟨a, m, cap, h0, hm, hi⟩ := h.code
 have hpos := h.pos
 have hfree := h.free
 have hn1 : decide (n < 1) = false := by simp; omega
 have HG : Hid (RdAt B (w.setCell ⟨R, 1, none⟩ (.int .i64 ((p : Int) + 1))) R (p + 1)) := by
   have := h.go (p + 1)
   rwa [show ((p + 1 : Nat) : Int) = (p : Int) + 1 from by omega] at this
 have HF : Hid (Fr R w.heap.size w (w.setCell ⟨R, 1, none⟩ (.int .i64 ((p : Int) + 1)))) := (Fr.refl R w.heap.size w).setCell (p := ⟨R, 1, none⟩) (.inr rfl) _
 clear h
 by_cases hm0 : m = 0
 . subst hm0
   clear hi
   go_enter Try.func48, Try.ntmps48
   go_wp2_with fail
   go_ret
   exact ⟨0, rfl, by omega, by omega, HG.out, HF.out⟩
 have g0 : ((m : Int) == 0) = false := by simp; omega
 by_cases hpm : p < m
 . obtain ⟨b, off, u, rfl, hb, hbR, u0, u1, c0⟩ := hi p hpm
   have c1 : (w.setCell ⟨R, 1, none⟩ (.int .i64 ((p : Int) + 1))).cell? ⟨b, off + p, none⟩ = some (.int .u8 u) := by rw [World.cell?_setCell_other w ⟨R, 1, none⟩ ⟨b, _, none⟩ _ (by intro e; injection e with e1; omega)]; exact c0
   clear hi
   go_enter Try.func48, Try.ntmps48
   go_wp2_with fail
   go_ret
   exact ⟨_, rfl, Int.emod_nonneg _ (by omega), Int.emod_lt_of_pos _ (by omega), HG.out, HF.out⟩
 . have hk1 : p % m < m := Nat.mod_lt _ (by omega)
   have hk2 : (p * 7 + 3) % m < m := Nat.mod_lt _ (by omega)
   obtain ⟨b, off, u, rfl, hb, hbR, u0, u1, c0⟩ := hi (p % m) hk1
   obtain ⟨b', off', u', e', hb', hbR', u0', u1', c0'⟩ := hi ((p * 7 + 3) % m) hk2
   simp at e'
   obtain ⟨rfl, rfl⟩ := e'
   have c1 : (w.setCell ⟨R, 1, none⟩ (.int .i64 ((p : Int) + 1))).cell? ⟨b, off + p % m, none⟩ = some (.int .u8 u) := by rw [World.cell?_setCell_other w ⟨R, 1, none⟩ ⟨b, _, none⟩ _ (by intro e; injection e with e1; omega)]; exact c0
   have c2 : (w.setCell ⟨R, 1, none⟩ (.int .i64 ((p : Int) + 1))).cell? ⟨b, off + (p * 7 + 3) % m, none⟩ = some (.int .u8 u') := by rw [World.cell?_setCell_other w ⟨R, 1, none⟩ ⟨b, _, none⟩ _ (by intro e; injection e with e1; omega)]; exact c0'
   have q1 : 0 <= (p : Int) % (m : Int) := Int.emod_nonneg _ (by omega)
   have q2 : (p : Int) % (m : Int) < (m : Int) := Int.emod_lt_of_pos _ (by omega)
   have q3 : 0 <= ((p : Int) * 7 + 3) % (m : Int) := Int.emod_nonneg _ (by omega)
   have q4 : ((p : Int) * 7 + 3) % (m : Int) < (m : Int) := Int.emod_lt_of_pos _ (by omega)
   have q5 : 0 <= (p : Int) / (m : Int) := Int.ediv_nonneg (by omega) (by omega)
   have q6 : (p : Int) / (m : Int) <= 1000000 := Int.le_trans (Int.ediv_le_self _ (by omega)) (by omega)
   have t1 : ((p : Int) % (m : Int)).toNat = p % m := by omega
   have t2 : (((p : Int) * 7 + 3) % (m : Int)).toNat = (p * 7 + 3) % m := by
     have : ((p : Int) * 7 + 3) % (m : Int) = (((p * 7 + 3) % m : Nat) : Int) := by push_cast; rfl
     rw [this]; exact Int.toNat_natCast _
   clear hi c0 c0'
   go_enter Try.func48, Try.ntmps48
   go_wp2_with fail
   have HX : Hid (0 <= bits .xor .i64 (u * 131 + u' * 1117 + (p : Int) * 29 + (p : Int) / (m : Int) * 53) ((u * 131 + u' * 1117 + (p : Int) * 29 + (p : Int) / (m : Int) * 53) / 64)) := xor_nonneg _ (by omega) (by omega)
   go_quiet (fail)
   go_wp2_with fail
   go_ret
   exact ⟨_, rfl, Int.tmod_nonneg _ HX.out, Int.tmod_lt_of_pos _ (by omega), HG.out.below (below_drewN (Below.refl _ _) _), HF.out.drewN _⟩
end Go.Proofs.Ytgbgjljflgbcaaa
