import Derived.Test.YtgbgjljflgbcaaaSo25
import Derived.Test.YtgbgjljflgbcaaaSo01
import Derived.Test.YtgbgjljflgbcaaaSo14
namespace Go.Proofs.Ytgbgjljflgbcaaa
set_option maxHeartbeats 8000000
open Go.RowKit
set_option linter.unusedSimpArgs false
set_option linter.unusedVariables false
set_option maxRecDepth 20000
theorem SW.taskA {X B : Nat} {w0 w1 w2 : World} {pc pb : Value} {p : Pr} {s : Sy} (h : SW X B w0 pc pb p s) (hb : Below w0.heap.size w0 w1) {f f' : Nat -> Key} {cv tv lv tv' : Value} {T : List TT} {L : List EE} (ho : OwnSy f B w0 cv tv lv s.cells T L) (hT : T.map (·.1) = s.tasks) (hL : L.map (·.1) = s.log) (k2 : w0.cell? ⟨X, 2, none⟩ = some cv) (k5 : w0.cell? ⟨X, 5, none⟩ = some lv)
   {t : Ta} {V : TV} (hfo : ∀ g, g < w0.heap.size -> f' g = f g) (hti : TIn f' B w1 T.length (t, V))
   (hl : w2.ownsRow B 70 13 tv' (T.length + 1) (T.flatMap taC ++ taC (t, V))) (hg : w1.grownBy w2 tv.ownBlock) (hlb : ∀ g, tv'.ownBlock = some g -> tv.ownBlock = some g \/ w1.heap.size <= g) :
   SW X B (w2.setCell ⟨X, 3, none⟩ tv') pc pb p { s with tasks := s.tasks ++ [t] } := by
 have hXl : X < w0.heap.size := by have := h.le; have := h.lt; omega
 have hX1 : X < w1.heap.size := Nat.lt_of_lt_of_le hXl hb.size
 have hlv : ∀ g, tv.ownBlock = some g -> B <= g /\ g < w0.heap.size /\ f g = .t := fun g hg => ⟨(ho.t.1.lt g hg).1, (ho.t.1.lt g hg).2, ho.t.2 g hg⟩
 have hne : some X ≠ tv.ownBlock := fun e => by have := (hlv X e.symm).1; have := h.lt; omega
 have bl : ∀ k, k < w0.heap.size -> f k ≠ .t -> w2.heap[k]? = w0.heap[k]? := fun k hk hf => by
   rw [hg.block k (Nat.lt_of_lt_of_le hk hb.size) (fun e => hf (hlv k e.symm).2.2)]
   exact hb.block k hk
 have cl : ∀ o, w2.cell? ⟨X, o, none⟩ = w0.cell? ⟨X, o, none⟩ := fun o => World.cell?_of_block ((hg.block X hX1 hne).trans (hb.block X hXl))
 have fl : ∀ o, w2.frozen? ⟨X, o, none⟩ = w0.frozen? ⟨X, o, none⟩ := fun o => World.frozen?_of_block ((hg.block X hX1 hne).trans (hb.block X hXl))
 have hsz : w0.heap.size <= w2.heap.size := Nat.le_trans hb.size hg.size
 have H := ho.addT (f' := fun b => if b < w1.heap.size then f' b else .t) (w' := w2) (tv' := tv') (t, V) (fun b _ hb1 => (if_pos (Nat.lt_of_lt_of_le hb1 hb.size)).trans (hfo b hb1)) (fun b _ hb1 hf => bl b hb1 hf)
   ⟨hl, fun g hg' => by
     rcases hlb g hg' with h1 | h1
     . show (if g < w1.heap.size then f' g else _) = _
       rw [if_pos (Nat.lt_of_lt_of_le (hlv g h1).2.1 hb.size), hfo g (hlv g h1).2.1]; exact (hlv g h1).2.2
     . show (if g < w1.heap.size then f' g else _) = _
       rw [if_neg (by omega)]⟩
   (hti.move (fun g _ hg1 => if_pos hg1) (fun g _ hg1 hk => hg.block g hg1 (fun e => by
     have h1 := hlv g e.symm
     have h2 := hfo g h1.2.1
     rw [h1.2.2] at h2
     rcases hk with q | q | q | q <;> rw [h2] at q <;> cases q)))
 have hc : ∀ o, o ≠ 3 -> (w2.setCell ⟨X, 3, none⟩ tv').cell? ⟨X, o, none⟩ = w0.cell? ⟨X, o, none⟩ := fun o ho3 => (cell_set_other w2 X 3 tv' ⟨X, o, none⟩ (fun e => ho3 (by injection e))).trans (cl o)
 have hk3 : ∃ q, w2.cell? ⟨X, 3, none⟩ = some q := by
   obtain ⟨f0, cv', tv0, lv', T', L', _, _, _, _, h5, _⟩ := h.ex
   exact ⟨tv0, (cl 3).trans h5⟩
 refine h.with (s' := { s with tasks := s.tasks ++ [t] }) (H.setX h.lt _) (by rw [List.map_append, hT]; rfl) hL ?_ ((hc 2 (by omega)).trans k2) ?_ ((hc 5 (by omega)).trans k5) ((hc 0 (by omega)).trans h.c0) ((hc 1 (by omega)).trans h.c1) ((hc 4 (by omega)).trans h.c4) (fun o => by rw [World.frozen?_setCell, fl]; exact h.fz o)
 . refine FrS.setCell ?_ (Or.inl rfl) _
   exact ⟨hg.os.trans hb.os, hg.tape.trans hb.tape, hg.output.trans hb.output, hsz, fun k hk hS => by
     have : ¬ (k = X \/ B <= k) := hS
     rw [hg.block k (Nat.lt_of_lt_of_le hk hb.size) (fun e => by have := (hlv k e.symm).1; omega)]
     exact hb.block k hk⟩
 . obtain ⟨q, hq⟩ := hk3
   exact World.cell?_setCell_same' _ _ _ (by rw [hq]; rfl)
def forkN (s : Sy) (i : Nat) (ks : List Int) (k : Nat) : Sy := { s with tasks := s.tasks ++ (ks.take k).map fun b => newK b i }
theorem forkN_succ (s : Sy) (i : Nat) (ks : List Int) {k : Nat} (hk : k < ks.length) : forkN s i ks (k + 1) = { forkN s i ks k with tasks := (forkN s i ks k).tasks ++ [newTa (nth 0 ks k) i] } := by
 unfold forkN
 rw [take_nth 0 ks k hk]
 simp [newK, newTa]
theorem forkN_len (s : Sy) (i : Nat) (ks : List Int) {k : Nat} (hk : k <= ks.length) : (forkN s i ks k).tasks.length = s.tasks.length + k := by
 unfold forkN; simp; omega
theorem forkS_N (s : Sy) (i : Nat) (ks : List Int) (hi : i < s.tasks.length) : forkS s i ks = setTk (forkN s i ks ks.length) i { tkN (forkN s i ks ks.length) i with way := 1 } := by
 unfold forkS forkN
 rw [List.take_length]
 have e : tkN { s with tasks := s.tasks ++ ks.map fun b => newK b i } i = tkN s i := tkN_app hi
 rw [e]
theorem fork_any (X B : Nat) (pc pb : Value) (p : Pr) (s : Sy) (i : Nat) (ks : List Int) (v : Value) (w : World) (h : SW X B w pc pb p s) (hi : i < s.tasks.length) (hk : IntsOn (fun b => b < X) w v ks) (hks : ks.length <= 2) (hln : s.tasks.length <= 1048576) :
   Calls Try.prog 150 #[.pointer (some ⟨X, 0, none⟩), .int .i64 (i : Int), v] w fun r w' => r = .returned (.tuple #[]) /\ SW X B w' pc pb p (forkS s i ks) /\ FrS (SX X B) w w' := by
 obtain ⟨ka, kc, rfl, _⟩ := hk.shape
 have HS0 := (show Hid (SW _ _ _ _ _ _ _) from h)
 have HKS := (show Hid (IntsOn _ _ _ _) from hk)
 have hX0 := h.lt
 have hB0 := h.le
 clear h hk
 go_enter Try.func150, Try.ntmps150
 go_wp2_with fail
 go_loopw [6] (fun q w' => ∃ k : Nat, k <= ks.length /\ q = .int .i64 k /\ SW X B w' pc pb p (forkN s i ks k) /\ FrS (SX X B) w w') (fun q _ => ks.length - (intOf q).toNat)
 case atStart => exact ⟨0, Nat.zero_le _, rfl, by rw [show forkN s i ks 0 = s from by simp [forkN]]; exact HS0.out, FrS.refl _ _⟩
 case round =>
   obtain ⟨k, hk, rfl, hs, hfr⟩ := hrel
   have hl := forkN_len s i ks hk
   have hi1 : i < (forkN s i ks k).tasks.length := by omega
   have HE : Hid (k < ks.length -> forkN s i ks (k + 1) = { forkN s i ks k with tasks := (forkN s i ks k).tasks ++ [newTa (nth 0 ks k) i] }) := forkN_succ s i ks
   have HFN : Hid (k = ks.length -> forkS s i ks = setTk (forkN s i ks k) i { tkN (forkN s i ks k) i with way := 1 }) := fun e => by rw [e]; exact forkS_N s i ks hi
   have HFR := (show Hid (FrS _ _ _) from hfr)
   have HKW := (show Hid (IntsOn _ _ _ _) from HKS.out.kept (hfr.kept (by omega) (fun k e => by rcases e with e | e <;> omega)))
   have HL := (show Hid (_ = _) from hl)
   have hl9 : (forkN s i ks k).tasks.length <= 1048579 := by omega
   clear hfr HS0 hl
   revert hs hi1 HE HFN HL hl9
   generalize forkN s i ks k = s1
   intro hs hi1 HE HFN HL hl9
   by_cases hlt : k < ks.length
   . have hlt' : (k : Int) < (ks.length : Int) := by omega
     obtain ⟨f, cv, tv, lv, T, L, hO, hTm, hLm, h4, h5, h6⟩ := hs.ex
     have hTl : T.length = s1.tasks.length := by rw [<- hTm]; simp
     obtain ⟨ta, tc, et, _⟩ := own_shape hO.t.1
     rw [hTl] at et
     subst et
     obtain ⟨ka', kc', ek, _, hkc⟩ := HKW.out
     injection ek with ek1 ek2 ek3
     subst ek1 ek3
     clear ek2
     obtain ⟨b4, off4, rfl, hbt, hb4, y0⟩ := hkc k hlt
     have hX := hs.lt
     have hB := hs.le
     have hXl : X < wr.heap.size := by omega
     have hBl : B <= wr.drew.heap.size := hB
     have hbt : b4 < X := hbt
     obtain ⟨i0, hi0, hz0, hz1, hz2⟩ := info_parts (P := Try.prog) (e := 70) (z := .agg #[.int .i64 0, .int .i64 0, .int .i64 0, .slice none 0 0, .int .i64 0, .int .i64 0, .int .i64 0, .int .i64 0, .slice none 0 0, .slice none 0 0, .slice none 0 0, .int .i64 0, .int .i64 0]) (size := 13) (bytes := 168) (by kernel_rfl)
     have HO := (show Hid (OwnSy _ _ _ _ _ _ _ _ _) from hO)
     have HTL := (show Hid (_ = _) from hTl)
     have HTM := (show Hid (_ = _) from hTm)
     have HLM := (show Hid (_ = _) from hLm)
     have HS := (show Hid (SW _ _ _ _ _ _ _) from hs)
     have SM : Hid (∀ W : World, (∀ b, b < wr.heap.size -> (Value.slice ta s1.tasks.length tc).ownBlock ≠ some b -> W.heap[b]? = wr.heap[b]?) -> W.cell? ⟨X, 3, none⟩ = some (.slice ta s1.tasks.length tc) /\ W.cell? ⟨b4, off4 + k, none⟩ = some (.int .i64 (nth 0 ks k))) := fun W hb => by
       have c1 : W.cell? ⟨X, 3, none⟩ = wr.cell? ⟨X, 3, none⟩ := World.cell?_of_block (hb X hXl (fun e => by have h1 := HO.out.t.1.lt X e; omega))
       have c2 : W.cell? ⟨b4, off4 + k, none⟩ = wr.cell? ⟨b4, off4 + k, none⟩ := World.cell?_of_block (hb b4 hb4 (fun e => by have h1 := HO.out.t.1.lt b4 e; omega))
       rw [c1, c2]
       exact ⟨h5, y0⟩
     clear hkc hO hTl hTm hLm hs
     go_wp2_with fail
     refine till_begin (S := fun w' => w'.cell? ⟨X, 3, none⟩ = some (.slice ta s1.tasks.length tc) /\ w'.cell? ⟨b4, off4 + k, none⟩ = some (.int .i64 (nth 0 ks k))) (z := 17) (by kernel_rfl) ?_
     refine till_take (i := 0) (v := (.pointer (some ⟨X, 0, none⟩))) rfl (by kernel_rfl) (fun _ _ _ h => h) (by rfl) ?_ (SM.out _ (fun b hb _ => rfl)) ?_
     . (intro w hSw; obtain ⟨q0, q1⟩ := hSw; go_simp)
     (try simp only [Act.put, zq1, zq2, zq3])
     refine till_take (i := 1) (v := (.pointer (some ⟨X, 0, none⟩))) rfl (by kernel_rfl) (fun _ _ _ h => h) (by rfl) ?_ (SM.out _ (fun b hb _ => rfl)) ?_
     . (intro w hSw; obtain ⟨q0, q1⟩ := hSw; go_simp)
     (try simp only [Act.put, zq1, zq2, zq3])
     refine till_take (i := 2) (v := (.pointer (some ⟨X, 0, none⟩))) rfl (by kernel_rfl) (fun _ _ _ h => h) (by rfl) ?_ (SM.out _ (fun b hb _ => rfl)) ?_
     . (intro w hSw; obtain ⟨q0, q1⟩ := hSw; go_simp)
     (try simp only [Act.put, zq1, zq2, zq3])
     refine till_take (i := 3) (v := (.pointer (some ⟨X, 2, none⟩))) rfl (by kernel_rfl) (fun _ _ _ h => h) (by rfl) ?_ (SM.out _ (fun b hb _ => rfl)) ?_
     . (intro w hSw; obtain ⟨q0, q1⟩ := hSw; go_simp)
     (try simp only [Act.put, zq1, zq2, zq3])
     refine till_take (i := 4) (v := (.pointer (some ⟨X, 3, none⟩))) rfl (by kernel_rfl) (fun _ _ _ h => h) (by rfl) ?_ (SM.out _ (fun b hb _ => rfl)) ?_
     . (intro w hSw; obtain ⟨q0, q1⟩ := hSw; go_simp)
     (try simp only [Act.put, zq1, zq2, zq3])
     refine till_take (i := 5) (v := (.slice ta s1.tasks.length tc)) rfl (by kernel_rfl) (fun _ _ _ h => h) (by rfl) ?_ (SM.out _ (fun b hb _ => rfl)) ?_
     . (intro w hSw; obtain ⟨q0, q1⟩ := hSw; go_simp)
     (try simp only [Act.put, zq1, zq2, zq3])
     refine till_take (i := 6) (v := (.slice (some ⟨b4, off4, none⟩) ks.length kc)) rfl (by kernel_rfl) (fun _ _ _ h => h) (by rfl) ?_ (SM.out _ (fun b hb _ => rfl)) ?_
     . (intro w hSw; obtain ⟨q0, q1⟩ := hSw; go_simp)
     (try simp only [Act.put, zq1, zq2, zq3])
     refine till_take (i := 7) (v := (.int .i64 (k : Int))) rfl (by kernel_rfl) (fun _ _ _ h => h) (by rfl) ?_ (SM.out _ (fun b hb _ => rfl)) ?_
     . (intro w hSw; obtain ⟨q0, q1⟩ := hSw; go_simp)
     (try simp only [Act.put, zq1, zq2, zq3])
     refine till_take (i := 8) (v := (.pointer (some ⟨b4, off4 + k, none⟩))) rfl (by kernel_rfl) (fun _ _ _ h => h) (by rfl) ?_ (SM.out _ (fun b hb _ => rfl)) ?_
     . (intro w hSw; obtain ⟨q0, q1⟩ := hSw; go_simp)
     (try simp only [Act.put, zq1, zq2, zq3])
     refine till_take (i := 9) (v := (.int .i64 (nth 0 ks k))) rfl (by kernel_rfl) (fun _ _ _ h => h) (by rfl) ?_ (SM.out _ (fun b hb _ => rfl)) ?_
     . (intro w hSw; obtain ⟨q0, q1⟩ := hSw; go_simp)
     (try simp only [Act.put, zq1, zq2, zq3])
     refine till_take (i := 10) (v := (.int .i64 (i : Int))) rfl (by kernel_rfl) (fun _ _ _ h => h) (by rfl) ?_ (SM.out _ (fun b hb _ => rfl)) ?_
     . (intro w hSw; obtain ⟨q0, q1⟩ := hSw; go_simp)
     (try simp only [Act.put, zq1, zq2, zq3])
     refine till_step (i := 11) rfl (by kernel_rfl) (fun K hK => ?_)
     go_simp
     refine (l11Task_any f T.length B _ _ _ hBl).mono ?_
     rintro e wd ⟨fD, VD, rfl, hfD, htD, hbD⟩
     obtain ⟨a3, c3, a8, c8, a9, c9, a10, c10, rfl⟩ := htD.shapes
     have HBD : Hid (Below wr.heap.size wr wd) := ((Below.refl wr.heap.size wr).drew).trans hbD
     have HTD := (show Hid (TIn _ _ _ _ _) from htD)
     have HFD := (show Hid (∀ g, _) from hfD)
     have hdd := hbD.size
     clear hbD htD hfD
     unfold taskAgg taC newTa
     simp only [List.length_cons, List.length_nil, Nat.zero_add, Nat.reduceAdd]
     refine hK.out _ _ (fun _ => SM.out _ (fun b hb _ => HBD.out.block b hb)) ?_
     clear hK
     (try simp only [Act.put, zq1, zq2, zq3])
     refine till_step (i := 12) rfl (by kernel_rfl) (fun K hK => ?_)
     go_simp
     refine hK.out _ _ (fun _ => SM.out _ (fun b hb _ => (HBD.out.alloc HBD.out.size _).block b hb)) ?_
     clear hK
     (try simp only [Act.put, zq1, zq2, zq3])
     refine till_step (i := 13) rfl (by kernel_rfl) (fun K hK => ?_)
     have HTW : World.ownsRow (wd.alloc (.cells #[.int .i64 (nth 0 ks k), .int .i64 0, .int .i64 (i : Int), .slice a3 3 c3, .int .i64 0, .int .i64 0, .int .i64 0, .int .i64 0, .slice a8 3 c8, .slice a9 0 c9, .slice a10 0 c10, .int .i64 0, .int .i64 0] 70)) B 70 13 (.slice ta s1.tasks.length tc) s1.tasks.length (T.flatMap taC) := by
       have h1 := HO.out.t.1
       rw [HTL.out] at h1
       exact row_heap h1 (fun b hb => (HBD.out.alloc HBD.out.size _).block b (h1.lt b hb).2)
     refine step_append_lies _ (by rfl) _ _ 29 (by rfl) B 70 i0 (.agg #[.int .i64 0, .int .i64 0, .int .i64 0, .slice none 0 0, .int .i64 0, .int .i64 0, .int .i64 0, .int .i64 0, .slice none 0 0, .slice none 0 0, .slice none 0 0, .int .i64 0, .int .i64 0]) 13 168 Try.underlying29 hi0 hz0 hz1 hz2 rfl (by omega) _ s1.tasks.length (T.flatMap taC) (by rfl) HTW ⟨wd.heap.size, 0, none⟩ 1 1 [.int .i64 (nth 0 ks k), .int .i64 0, .int .i64 (i : Int), .slice a3 3 c3, .int .i64 0, .int .i64 0, .int .i64 0, .int .i64 0, .slice a8 3 c8, .slice a9 0 c9, .slice a10 0 c10, .int .i64 0, .int .i64 0] (by rfl) rfl (cells_new wd [.int .i64 (nth 0 ks k), .int .i64 0, .int .i64 (i : Int), .slice a3 3 c3, .int .i64 0, .int .i64 0, .int .i64 0, .int .i64 0, .slice a8 3 c8, .slice a9 0 c9, .slice a10 0 c10, .int .i64 0, .int .i64 0] _) (by intro u hu; simp at hu; rcases hu with rfl | rfl | rfl | rfl | rfl | rfl | rfl | rfl | rfl | rfl | rfl | rfl | rfl <;> rfl) (by omega) (by unfold maxLen; omega) (by omega) (by have := HBD.out.size; simp at this ⊢; omega) _ (by rfl) ?_
     intro g3 cap3 w3 hown3 hgrow hat3 hlt3
     clear HTW
     have HO3 := (show Hid (World.ownsRow _ _ _ _ _ _ _) from hown3)
     have HG3 := (show Hid (World.grownBy _ _ _) from hgrow)
     have HA3 := (show Hid (_ \/ _) from hat3)
     have hnl : ∀ b, b < wr.heap.size -> (Value.slice ta s1.tasks.length tc).ownBlock ≠ some b -> w3.heap[b]? = wr.heap[b]? := fun b hb hne => (HG3.out.block b (Nat.lt_of_lt_of_le hb (HBD.out.alloc HBD.out.size _).size) (fun e => hne e.symm)).trans ((HBD.out.alloc HBD.out.size _).block b hb)
     have hXn : (Value.slice ta s1.tasks.length tc).ownBlock ≠ some X := fun e => by have h1 := HO.out.t.1.lt X e; omega
     have X3 : ∃ q, w3.cell? ⟨X, 3, none⟩ = some q := ⟨_, (World.cell?_of_block (hnl X hXl hXn)).trans h5⟩
     have XZ : ∀ o, w3.frozen? ⟨X, o, none⟩ = false := fun o => by
       rw [World.frozen?_of_block (hnl X hXl hXn)]
       exact HS.out.fz o
     have HNL := (show Hid (∀ b, _) from hnl)
     clear hnl hXn
     obtain ⟨x3, X3⟩ := X3
     clear hown3 hgrow hat3
     refine hK.out _ _ (fun _ => SM.out _ HNL.out) ?_
     clear hK
     (try simp only [Act.put, zq1, zq2, zq3])
     refine till_take (i := 14) (v := (.pointer (some ⟨X, 0, none⟩))) rfl (by kernel_rfl) (fun _ _ _ h => h) (by rfl) ?_ (SM.out _ HNL.out) ?_
     . (intro w hSw; obtain ⟨q0, q1⟩ := hSw; go_simp)
     (try simp only [Act.put, zq1, zq2, zq3])
     refine till_take (i := 15) (v := (.pointer (some ⟨X, 2, none⟩))) rfl (by kernel_rfl) (fun _ _ _ h => h) (by rfl) ?_ (SM.out _ HNL.out) ?_
     . (intro w hSw; obtain ⟨q0, q1⟩ := hSw; go_simp)
     (try simp only [Act.put, zq1, zq2, zq3])
     refine till_take (i := 16) (v := (.pointer (some ⟨X, 3, none⟩))) rfl (by kernel_rfl) (fun _ _ _ h => h) (by rfl) ?_ (SM.out _ HNL.out) ?_
     . (intro w hSw; obtain ⟨q0, q1⟩ := hSw; go_simp)
     (try simp only [Act.put, zq1, zq2, zq3])
     refine till_step (i := 17) rfl (by kernel_rfl) (fun K hK => ?_)
     go_simp
     refine hK.out _ _ (fun h => absurd rfl h) ?_
     clear hK
     refine till_done (by kernel_rfl) ?_ _
     have A1 := SW.taskA HS.out HBD.out HO.out HTM.out HLM.out h4 h6 (t := newTa (nth 0 ks k) i) (V := ⟨.slice a3 3 c3, .slice a8 3 c8, .slice a9 0 c9, .slice a10 0 c10⟩) HFD.out HTD.out (w2 := w3) (tv' := .slice (some ⟨g3, 0, none⟩) (s1.tasks.length + 1) cap3) (by rw [HTL.out]; exact HO3.out) (grown_from HG3.out) (fun b hb => by
       rcases HA3.out with e | e
       . left; rw [e]; exact hb
       . right; injection hb with hb; rw [<- hb, e]; show wd.heap.size <= _; simp)
     have F1 : FrS (SX X B) wr (w3.setCell ⟨X, 3, none⟩ (.slice (some ⟨g3, 0, none⟩) (s1.tasks.length + 1) cap3)) := by
       refine FrS.setCell ?_ (Or.inl rfl) _
       refine ((FrS.of_below HBD.out).alloc _).trans ⟨HG3.out.os, HG3.out.tape, HG3.out.output, HG3.out.size, fun k hk hS => HG3.out.block k hk (fun e => ?_)⟩
       have := HO.out.t.1.lt k e.symm
       exact hS (Or.inr this.1)
     have HA1 := (show Hid (SW _ _ _ _ _ _ _) from A1)
     have HF1 := (show Hid (FrS _ _ _) from F1)
     have HEE := (show Hid (_ = _) from HE.out hlt)
     clear A1 F1 HE HFN X3 XZ h4 h5 h6 y0
     go_wp2_with fail
     go_roundw
     case rel => exact ⟨k + 1, by omega, by go_num, by rw [HEE.out]; exact HA1.out, HFR.out.trans HF1.out⟩
     case measure => simp [intOf]; omega
   . have hk2 : ¬ (k : Int) < (ks.length : Int) := by omega
     have HF : Hid (forkS s i ks = setTk s1 i { tkN s1 i with way := 1 }) := HFN.out (by omega)
     clear HE HFN
     obtain ⟨f, cv, g, cap, lv, T, L, V, h1, h2, h3, h4, h5, h6, h7, h8, h9⟩ := hs.tk hi1
     obtain ⟨a3, c3, a8, c8, a9, c9, a10, c10, rfl⟩ := h7.ti.shapes
     obtain ⟨t0, t1, t2, t3, t4, t5, t6, t7, t8, t9, t10, t11, t12⟩ := h7.cells
     simp only at t3 t8 t9 t10
     have tz := h7.fz
     have hi' : (i : Int) < (s1.tasks.length : Int) := by omega
     have hX := hs.lt
     have hB := hs.le
     have hgB := h7.ge
     have hgl := h7.lt
     have hXl : X < wr.heap.size := by omega
     have hXg : X ≠ g := by omega
     have HTI := (show Hid (TIn _ _ _ _ _) from h7.ti)
     have HK := (show Hid (f g = .t /\ ∀ b, cv.ownBlock = some b -> f b = .c) from ⟨h7.key, h1.c.2⟩)
     have HS := (show Hid (SW _ _ _ _ _ _ _) from hs)
     clear h1 h2 h3 h7 h8 h9 hs
     clear t0 t1 t2 t3 t5 t6 t7 t8 t9 t10 t11 t12
     go_wp2_with fail
     go_end0
     exact ⟨rfl, by rw [HF.out]; exact HS.out.scs [(4, 1)] rfl h5 hi1, HFR.out.setCell (Or.inr hgB) _⟩

set_option maxRecDepth 20000
theorem OwnSy.tas {f : Nat -> Key} {B : Nat} {w : World} {cv tv lv : Value} {cs : List Ce} {T : List TT} {L : List EE} (h : OwnSy f B w cv tv lv cs T L) : TasAt w tv (T.map (·.1)) := by
 obtain ⟨a, c, e, h1, h2⟩ := own_shape h.t.1
 refine ⟨a, c, by rw [List.length_map]; exact e, ⟨by rw [List.length_map]; exact h1, h2⟩, fun i hi => ?_⟩
 rw [List.length_map] at hi
 obtain ⟨g, cap, e', h7⟩ := h.tk hi
 rw [e] at e'
 injection e' with e1 e2 e3
 obtain ⟨t0, t1, t2, t3, t4, t5, t6, t7, t8, t9, t10, t11, t12⟩ := h7.cells
 rw [map_nth (·.1) TT.z Ta.z T i hi]
 refine ⟨g, 0, _, _, _, _, e1, h7.lt, ?_, ?_, ?_, ?_, ?_, ?_, ?_, ?_, ?_, ?_, ?_, ?_, ?_, iR_at h7.ti.r, iR_at h7.ti.o, pR_at h7.ti.d, pR_at h7.ti.u⟩ <;> simp only [Nat.zero_add] <;> assumption
theorem SW.tas {X B : Nat} {w : World} {pc pb : Value} {p : Pr} {s : Sy} (h : SW X B w pc pb p s) {tv : Value} (h3 : w.cell? ⟨X, 3, none⟩ = some tv) : TasAt w tv s.tasks := by
 obtain ⟨f, cv, tv', lv, T, L, h1, h2, _, _, h5, _⟩ := h.ex
 rw [h3] at h5
 injection h5 with h5
 subst h5
 rw [<- h2]
 exact h1.tas

set_option maxRecDepth 20000
theorem awaits_any (X B : Nat) (pc pb : Value) (p : Pr) (s : Sy) (i : Nat) (w : World) (h : SW X B w pc pb p s) (hi : i < s.tasks.length) (hnp : Np p s) (hbd : Bd p s) :
   Calls Try.prog 148 #[.pointer (some ⟨X, 0, none⟩), .int .i64 (i : Int)] w fun r w' => r = .returned (.tuple #[]) /\ SW X B w' pc pb p (awaitS s i) /\ FrS (SX X B) w w' := by
 have hpc0 := (hnp.t i hi).pc
 have hpc4 : (tkN s i).pc <= 100 := by
   have h2 := (hnp.t i hi).body
   have hf := hnp.ok
   simp only [okB, foB, Bool.and_eq_true, List.all_eq_true, List.mem_range] at hf
   have := hf.1.2 (tkN s i).body.toNat (by omega)
   simp only [boB, Bool.and_eq_true, decide_eq_true_eq] at this
   unfold acts at hpc0
   omega
 have hpc1 := hpc0.1
 have hwr : IntKind.i64.wrap ((tkN s i).pc + 1) = (tkN s i).pc + 1 := by rw [IntKind.wrap_i64]; omega
 have HNP := (show Hid (Np _ _) from hnp)
 have HBD := (show Hid (Bd _ _) from hbd)
 have hl7 : s.tasks.length <= 7 := hbd.n7
 clear hpc0 hnp hbd
 obtain ⟨f, cv, g, cap, lv, T, L, V, h1, h2, h3, h4, h5, h6, h7, h8, h9⟩ := h.tk hi
 obtain ⟨a3, c3, a8, c8, a9, c9, a10, c10, rfl⟩ := h7.ti.shapes
 obtain ⟨t0, t1, t2, t3, t4, t5, t6, t7, t8, t9, t10, t11, t12⟩ := h7.cells
 simp only at t3 t8 t9 t10
 have tz := h7.fz
 have hi' : (i : Int) < (s.tasks.length : Int) := by omega
 have hX := h.lt
 have hB := h.le
 have hgB := h7.ge
 have hgl := h7.lt
 have hXl : X < w.heap.size := by omega
 have hXg : X ≠ g := by omega
 have HTI := (show Hid (TIn _ _ _ _ _) from h7.ti)
 have HK := (show Hid (f g = .t /\ ∀ b, cv.ownBlock = some b -> f b = .c) from ⟨h7.key, h1.c.2⟩)
 have HS := (show Hid (SW _ _ _ _ _ _ _) from h)
 clear h1 h2 h3 h7 h8 h9 h
 clear t0 t2 t3 t5 t6 t7 t8 t9 t10 t11 t12
 have HTS := (show Hid (TasAt _ _ _) from HS.out.tas h5)
 go_enter Try.func148, Try.ntmps148
 go_wp2_with fail
 refine (kids_any X s.tasks _ _ i 3 _ h5 HTS.out).mono ?_
 rintro e w1 ⟨rfl, hw⟩
 have hw := hw.symm
 subst hw
 by_cases q : kin s.tasks i 3 = 0
 . have q' : ((kin s.tasks (i : Int) 3 : Nat) : Int) = 0 := by omega
   have q2 : (((kin s.tasks (i : Int) 3 : Nat) : Int) == 0) = true := by simp [q]
   have HF : Hid (awaitS s i = setTk s i { tkN s i with way := 0, pc := (tkN s i).pc + 1 }) := by unfold Hid awaitS; rw [if_pos q]
   clear q q' HTS
   go_wp2_with fail
   go_region
   all_goals
     go_wp2_with fail
     first | go_end0 | ((try simp only [Exit.inBlock, Exit.then]); refine bodyPost_ret (results_none rfl _ _ _) rfl ?_)
     exact ⟨rfl, by rw [HF.out]; exact (HS.out.scs [(4, 0), (1, (tkN s i).pc + 1)] rfl h5 hi).drew, (((FrS.refl _ _).setCell (Or.inr hgB) _).setCell (Or.inr hgB) _).drew⟩
 . have q2 : (((kin s.tasks (i : Int) 3 : Nat) : Int) == 0) = false := by simp; omega
   have HF : Hid (awaitS s i = setTk (kidsS (offS s.tasks.length) s i s.tasks.length) i { tkN (kidsS (offS s.tasks.length) s i s.tasks.length) i with way := 3 }) := by unfold Hid awaitS; rw [if_neg q]
   clear q HTS t1 t4 tz h4 h5 h6 hi' hgB hgl hXl hXg HTI HK
   go_wp2_with fail
   go_loopw [4] (fun q w' => ∃ k : Nat, k <= s.tasks.length /\ q = .int .i64 k /\ SW X B w' pc pb p (kidsS (offS s.tasks.length) s i k) /\ FrS (SX X B) w w') (fun q _ => s.tasks.length - (intOf q).toNat)
   case atStart => exact ⟨0, Nat.zero_le _, rfl, by rw [show kidsS (offS s.tasks.length) s i 0 = s from rfl]; exact HS.out, FrS.refl _ _⟩
   case round =>
     obtain ⟨k, hk, rfl, hs, hfr⟩ := hrel
     have hl : (kidsS (offS s.tasks.length) s i k).tasks.length = s.tasks.length := kidsS_len (offS_len _) s i k
     have n1 : Hid (Np p (kidsS (offS s.tasks.length) s i k)) := Np.kids (offS_len _) (fun s k h hk => h.offS _ hk) HNP.out i k hk
     have b1 : Hid (Bd p (kidsS (offS s.tasks.length) s i k)) := HBD.out.mono (Lq.kids (offS_len _) (fun s k h hk => h.offS _ hk) (fun s k h hk => Lq.offS _ h hk) HNP.out i k hk)
     have HE : Hid (kidsS (offS s.tasks.length) s i (k + 1) = if (tkN (kidsS (offS s.tasks.length) s i k) k).up = i then offS s.tasks.length (kidsS (offS s.tasks.length) s i k) k else kidsS (offS s.tasks.length) s i k) := kidsS_succ _ _ _ _
     have HO : Hid (k = s.tasks.length -> awaitS s i = setTk (kidsS (offS s.tasks.length) s i k) i { tkN (kidsS (offS s.tasks.length) s i k) i with way := 3 }) := fun e => by rw [HF.out, e]
     have HFR := (show Hid (FrS _ _ _) from hfr)
     clear hfr HS HNP HBD HF
     revert hs hl n1 b1 HE HO
     generalize kidsS (offS s.tasks.length) s i k = s1
     intro hs hl n1 b1 HE HO
     have hi1 : i < s1.tasks.length := by omega
     by_cases hlt : k < s.tasks.length
     . have hk1 : k < s1.tasks.length := by omega
       have hk1' : (k : Int) < (s1.tasks.length : Int) := by omega
       obtain ⟨f, cv, g, cap, lv, T, L, V, h1, h2, h3, h4, h5, h6, h7, h8, h9⟩ := hs.tk hk1
       obtain ⟨a3, c3, a8, c8, a9, c9, a10, c10, rfl⟩ := h7.ti.shapes
       obtain ⟨t0, t1, t2, t3, t4, t5, t6, t7, t8, t9, t10, t11, t12⟩ := h7.cells
       simp only at t3 t8 t9 t10
       have tz := h7.fz
       have hi' : (i : Int) < (s1.tasks.length : Int) := by omega
       have hX := hs.lt
       have hB := hs.le
       have hgB := h7.ge
       have hgl := h7.lt
       have hXl : X < wr.heap.size := by omega
       have hXg : X ≠ g := by omega
       have HTI := (show Hid (TIn _ _ _ _ _) from h7.ti)
       have HK := (show Hid (f g = .t /\ ∀ b, cv.ownBlock = some b -> f b = .c) from ⟨h7.key, h1.c.2⟩)
       have HS := (show Hid (SW _ _ _ _ _ _ _) from hs)
       clear h1 h2 h3 h7 h8 h9 hs
       clear t0 t1 t3 t4 t5 t6 t7 t8 t9 t10 t11 t12
       have hwk : IntKind.i64.wrap ((k : Int) + 1) = (k : Int) + 1 := by rw [IntKind.wrap_i64]; omega
       by_cases qu : (tkN s1 k).up = (i : Int)
       . have qu' : ((tkN s1 k).up == (i : Int)) = true := by simp [qu]
         have QU := (show Hid (_ = _) from qu)
         clear qu
         go_wp2_with fail
         refine (off_any X B pc pb p s.tasks.length s1 k _ HS.out hk1 n1.out b1.out (by omega)).mono ?_
         rintro e w2 ⟨rfl, hs2, hf2⟩
         have HS2 := (show Hid (SW _ _ _ _ _ _ _) from hs2)
         have HF2 : Hid (FrS (SX X B) w w2) := HFR.out.trans hf2
         clear hs2 hf2
         go_wp2_with fail
         go_roundw
         case rel => exact ⟨k + 1, by omega, by go_num, by rw [HE.out, if_pos QU.out]; exact HS2.out, HF2.out⟩
         case measure => simp [intOf]; omega
       . have qu' : ((tkN s1 k).up == (i : Int)) = false := by simp [qu]
         have QU := (show Hid (¬ _) from qu)
         clear qu
         go_wp2_with fail
         go_roundw
         case rel => exact ⟨k + 1, by omega, by go_num, by rw [HE.out, if_neg QU.out]; exact HS.out, HFR.out⟩
         case measure => simp [intOf]; omega
     . have HO1 : Hid (awaitS s i = setTk s1 i { tkN s1 i with way := 3 }) := HO.out (by omega)
       have hk2 : ¬ (k : Int) < (s1.tasks.length : Int) := by omega
       clear HE HO
       obtain ⟨f, cv, g, cap, lv, T, L, V, h1, h2, h3, h4, h5, h6, h7, h8, h9⟩ := hs.tk hi1
       obtain ⟨a3, c3, a8, c8, a9, c9, a10, c10, rfl⟩ := h7.ti.shapes
       obtain ⟨t0, t1, t2, t3, t4, t5, t6, t7, t8, t9, t10, t11, t12⟩ := h7.cells
       simp only at t3 t8 t9 t10
       have tz := h7.fz
       have hi' : (i : Int) < (s1.tasks.length : Int) := by omega
       have hX := hs.lt
       have hB := hs.le
       have hgB := h7.ge
       have hgl := h7.lt
       have hXl : X < wr.heap.size := by omega
       have hXg : X ≠ g := by omega
       have HTI := (show Hid (TIn _ _ _ _ _) from h7.ti)
       have HK := (show Hid (f g = .t /\ ∀ b, cv.ownBlock = some b -> f b = .c) from ⟨h7.key, h1.c.2⟩)
       have HS := (show Hid (SW _ _ _ _ _ _ _) from hs)
       clear h1 h2 h3 h7 h8 h9 hs
       clear t0 t1 t2 t3 t4 t5 t6 t7 t8 t9 t10 t11 t12
       go_wp2_with fail
       refine (fails_any X B pc pb p s1 i _ HS.out hi1).mono ?_
       rintro e w2 ⟨rfl, hs2, hf2⟩
       have HS2 := (show Hid (SW _ _ _ _ _ _ _) from hs2)
       have HF2 : Hid (FrS (SX X B) w w2) := HFR.out.trans hf2
       clear hs2 hf2
       go_wp2_with fail
       first | go_end0 | ((try simp only [Exit.inBlock, Exit.then]); refine bodyPost_ret (results_none rfl _ _ _) rfl ?_)
       exact ⟨rfl, by rw [HO1.out]; exact HS2.out, HF2.out⟩

def SbT (t : Ta) : Prop := 0 <= t.since /\ t.since <= 200
def Sb (s : Sy) : Prop := ∀ i, i < s.tasks.length -> SbT (tkN s i)
theorem Sb.set {s : Sy} (h : Sb s) {i : Nat} (hi : i < s.tasks.length) {t : Ta} (ht : SbT t) : Sb (setTk s i t) := by
 intro k hk
 rw [setTk_len] at hk
 rw [tkN_set hi]
 by_cases e : i = k
 . rw [if_pos e]; exact ht
 . rw [if_neg e]; exact h k hk
theorem Sb.setc {s : Sy} (h : Sb s) {i : Nat} (hi : i < s.tasks.length) {t : Ta} (cs : List Ce) (k : Int) (l : List En) (ht : SbT t) : Sb (setTk { cells := cs, tasks := s.tasks, clock := k, log := l } i t) :=
 Sb.set (s := { cells := cs, tasks := s.tasks, clock := k, log := l }) h hi ht
theorem Sb.again {s : Sy} (h : Sb s) {i : Nat} (hi : i < s.tasks.length) : Sb (againS s i) := h.setc hi _ _ _ (h i hi)
theorem Sb.end {s : Sy} (h : Sb s) {i : Nat} (hi : i < s.tasks.length) (w : Int) : Sb (endS s i w) := h.setc hi _ _ _ ⟨by show (0 : Int) <= 0; omega, by show (0 : Int) <= 200; omega⟩
theorem Sb.write {s : Sy} (h : Sb s) {i : Nat} (hi : i < s.tasks.length) : Sb (writeS s i) := by
 unfold writeS
 have h1 : Sb (write1 s i) := h.setc hi _ _ _ (h i hi)
 split
 . exact h1.end (by unfold write1; rw [setTk_len]; exact hi) _
 . exact h1
theorem Sb.deed1 {s : Sy} (h : Sb s) {i : Nat} (hi : i < s.tasks.length) (d : De) : Sb (deed1 s i d) := by
 unfold Go.Proofs.Ytgbgjljflgbcaaa.deed1 loadS
 split
 . split
   . exact h.set hi (h i hi)
   . split
     . exact h.again hi
     . exact h.set hi (h i hi)
 split
 . exact h.set hi (h i hi)
 split
 . split
   . exact (h.again hi).set (by rw [againS_len]; exact hi) (h i hi)
   . exact h.set hi (h i hi)
 . exact h.set hi (h i hi)
theorem Sb.deed {s : Sy} (h : Sb s) {i : Nat} (hi : i < s.tasks.length) (ds : List De) : Sb (deedS s i ds) := by
 unfold deedS
 split
 . exact h.deed1 hi _
 split
 . exact h.end hi _
 . exact h.set hi (h i hi)
theorem Sb.try {s : Sy} (h : Sb s) (hc : 0 <= s.clock /\ s.clock <= 200) {i : Nat} (hi : i < s.tasks.length) (ds : List De) : Sb (tryS s i ds) := by
 unfold tryS
 split
 . exact h.set hi hc
 split
 . exact h.deed hi ds
 split
 . unfold lockS
   split
   . exact h.again hi
   . refine h.setc hi _ _ _ ?_
     split <;> exact h i hi
 split
 . exact h.setc hi _ _ _ (h i hi)
 split
 . unfold checkS
   split
   . split
     . exact h.again hi
     . exact h.set hi (h i hi)
   . exact h.set hi (h i hi)
 . exact h.write hi
theorem Sb.wrAll {s : Sy} (h : Sb s) {i : Nat} (hi : i < s.tasks.length) (n : Nat) : Sb (wrAll n s i) := by
 induction n generalizing s with
 | zero => exact h
 | succ n ih =>
   unfold Go.Proofs.Ytgbgjljflgbcaaa.wrAll
   split
   . exact ih (h.write hi) (by rw [writeS_len]; exact hi)
   . exact h
theorem Sb.offB {s : Sy} (h : Sb s) {i : Nat} (hi : i < s.tasks.length) : Sb (offB s i) := by
 unfold Go.Proofs.Ytgbgjljflgbcaaa.offB
 split
 . exact h
 . have l1 : i < (Go.Proofs.Ytgbgjljflgbcaaa.wrAll 4 s i).tasks.length := by rw [wrAll_len]; exact hi
   have v1 := h.wrAll hi 4
   simp only
   split
   . exact (v1.again l1).set (by rw [againS_len]; exact l1) ((v1.again l1) i (by rw [againS_len]; exact l1))
   . exact v1.set l1 (v1 i l1)
theorem Sb.kids {f : Sy -> Nat -> Sy} (hf : ∀ s k, (f s k).tasks.length = s.tasks.length) (hq : ∀ s k, Sb s -> k < s.tasks.length -> Sb (f s k)) {s : Sy} (h : Sb s) (i : Nat) : ∀ n, n <= s.tasks.length -> Sb (kidsS f s i n) := by
 intro n
 induction n with
 | zero => intro _; exact h
 | succ n ih =>
   intro hn'
   have hl := kidsS_len hf s i n
   rw [kidsS_succ]
   split
   . exact hq _ _ (ih (by omega)) (by omega)
   . exact ih (by omega)
theorem Sb.offS (f : Nat) {s : Sy} (h : Sb s) {i : Nat} (hi : i < s.tasks.length) : Sb (offS f s i) := by
 induction f generalizing s i with
 | zero => exact h
 | succ f ih =>
  unfold Go.Proofs.Ytgbgjljflgbcaaa.offS
  exact Sb.offB (Sb.kids (offS_len f) (fun s k h hk => ih h hk) h i s.tasks.length (Nat.le_refl _)) (by rw [kidsS_len (offS_len f)]; exact hi)
theorem Sb.await {s : Sy} (h : Sb s) {i : Nat} (hi : i < s.tasks.length) : Sb (awaitS s i) := by
 unfold awaitS
 split
 . exact h.set hi (h i hi)
 . have k1 := Sb.kids (offS_len s.tasks.length) (fun s' k h hk => Sb.offS _ h hk) h i s.tasks.length (Nat.le_refl _)
   have l1 : i < (kidsS (Go.Proofs.Ytgbgjljflgbcaaa.offS s.tasks.length) s i s.tasks.length).tasks.length := by rw [kidsS_len (offS_len _)]; exact hi
   exact k1.set l1 (k1 i l1)
theorem nth_mapS {α β : Type} (f : α -> β) (z : α) (zb : β) (l : List α) (i : Nat) (hi : i < l.length) : nth zb (l.map f) i = f (nth z l i) := by
 rw [nth_eq zb _ i (by simpa using hi), nth_eq z l i hi]; simp
theorem Sb.fork {s : Sy} (h : Sb s) {i : Nat} (hi : i < s.tasks.length) (ks : List Int) : Sb (forkS s i ks) := by
 unfold forkS
 have h1 : Sb { s with tasks := s.tasks ++ ks.map fun b => newK b i } := by
   intro k hk
   by_cases q : k < s.tasks.length
   . rw [tkN_app q]; exact h k q
   . have : tkN { s with tasks := s.tasks ++ ks.map fun b => newK b i } k = nth Ta.z (ks.map fun b => newK b i) (k - s.tasks.length) := by
       unfold tkN nth
       simp [List.getElem?_append_right (by omega : s.tasks.length <= k)]
     rw [this]
     have hk' : k - s.tasks.length < ks.length := by simp at hk; omega
     rw [nth_mapS (fun b => newK b i) 0 Ta.z ks _ hk']
     exact ⟨by show (0 : Int) <= 0; omega, by show (0 : Int) <= 200; omega⟩
 refine h1.set (by simp; omega) ?_
 exact h i hi
theorem Sb.step {p : Pr} {s : Sy} (h : Sb s) (hc : 0 <= s.clock /\ s.clock <= 200) {i : Nat} (hi : i < s.tasks.length) : Sb (stepS p s i) := by
 unfold stepS
 split
 . exact h.await hi
 split
 . simp only
   split
   . exact h.try hc hi _
   split
   . exact h.fork hi _
   split
   . exact h.set hi (h i hi)
   . exact h.set hi (h i hi)
 . exact h.set hi (h i hi)
structure Inw (p : Pr) (s : Sy) : Prop where
 i : Inv p s
 b : Sb s
theorem Inw.do {p : Pr} {s : Sy} (h : Inw p s) (k : Int) : Inw p (doS p s k) := by
 refine ⟨h.i.do k, ?_⟩
 unfold doS
 split
 . rename_i e; exact h.b.step h.i.np.ck (doB_at e).1
 . exact h.b
theorem Sb.of {p : Pr} {s : Sy} (h : mSoB p s = true) : Sb s := by
 have hn := Np.of h
 rw [<- so_eq] at h
 simp only [soB, Bool.and_eq_true] at h
 obtain ⟨⟨⟨⟨h1, h2⟩, h3⟩, h4⟩, h5⟩ := h
 simp only [tksB, Bool.and_eq_true, List.all_eq_true, List.mem_range, inB_iff] at h3
 intro i hi
 have ht := h3.2 i hi
 simp only [tkB, tnB, cgB, Bool.and_eq_true, inB_iff, plB_iff'] at ht
 obtain ⟨⟨⟨⟨⟨⟨⟨⟨a1, a2⟩, a3⟩, a4⟩, a5⟩, a6⟩, b⟩, c⟩, ⟨d1, d2⟩, e1, e2, e3, e4, e5, e6⟩ := ht
 have := hn.ck
 exact ⟨e4.1, Int.le_trans e4.2 this.2⟩
end Go.Proofs.Ytgbgjljflgbcaaa
