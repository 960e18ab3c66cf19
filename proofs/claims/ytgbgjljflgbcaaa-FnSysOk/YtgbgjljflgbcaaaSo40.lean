import Derived.Test.YtgbgjljflgbcaaaSo39
import Derived.Test.YtgbgjljflgbcaaaSo01
namespace Go.Proofs.Ytgbgjljflgbcaaa
set_option maxHeartbeats 8000000
open Go.RowKit
set_option linter.unusedSimpArgs false
set_option linter.unusedVariables false
set_option maxRecDepth 20000
structure Off (p : Pr) (s : Sy) : Prop where
 n : 1 <= s.tasks.length /\ s.tasks.length <= 7
 cs : s.cells.length <= 3
 lg : s.log.length <= 28
 sm : SmSy s
 inx : mSoB p s = true -> Inx p s
theorem Off.of {p : Pr} {s0 s : Sy} (h0 : Inx p s0) (hn : s.tasks.length = s0.tasks.length) (hlog : s.log = s0.log) (hc : s.cells.length <= s0.cells.length) (hq : Lq p s0 s) (hT : ∀ i, i < s.tasks.length -> SmTa (tkN s i)) : Off p s := by
 have np := h0.w.i.np
 have n7 := h0.w.i.bd.n7
 have l28 := np.l28 h0.w.i.bd
 have c3 := (ok_sizes np.ok).1
 have hcs := np.cs
 have h1 := np.n
 refine ⟨by omega, by omega, by rw [hlog]; exact l28, ⟨by omega, ⟨by omega, hT⟩, ⟨by rw [hlog]; omega, fun j hj => ?_⟩⟩, fun hm => ⟨⟨⟨Np.of hm, Nv.of hm, h0.w.i.bd.mono hq⟩, Sb.of hm⟩, h0.e.same hlog⟩⟩
 exact (h0.e.same hlog) _ (nth_mem En.z _ _ hj)
theorem Inx.smt {p : Pr} {s : Sy} (h : Inx p s) {i : Nat} (hi : i < s.tasks.length) : SmTa (tkN s i) := h.sm.2.1.2 i hi
theorem Off.self {p : Pr} {s : Sy} (h : Inx p s) : Off p s := Off.of h rfl rfl (Nat.le_refl _) (Lq.refl p s) (fun i hi => h.smt hi)
theorem Off.tk {p : Pr} {s : Sy} (h : Inx p s) {k : Nat} (hk : k < s.tasks.length) {t : Ta} (hr : rest p t <= rest p (tkN s k)) (hp : t.pc = (tkN s k).pc) (hs : SmTa t) : Off p (setTk s k t) := by
 refine Off.of h (setTk_len s k t) rfl (Nat.le_refl _) (Lq.set hk hr (by rw [hp]; exact Nat.le_refl _)) (fun i hi => ?_)
 rw [setTk_len] at hi
 rw [tkN_set hk]
 split
 . exact hs
 . exact h.smt hi
theorem Inx.clock {p : Pr} {s : Sy} (h : Inx p s) : 0 <= s.clock /\ s.clock <= 200 := h.w.i.np.ck
theorem OwnSy.tkF {f : Nat -> Key} {B : Nat} {w : World} {c l : Value} {g n cap : Nat} {cs : List Ce} {T : List TT} {L : List EE} (h : OwnSy f B w c (.slice (some ⟨g, 0, none⟩) n cap) l cs T L) {k j : Nat} {v : Int} {t' : Ta} (hk : k < T.length) (hj : j < 13)
  (hc : taC (t', (nth TT.z T k).2) = (taC (nth TT.z T k)).set j (.int .i64 v)) (e1 : t'.regs = (nth TT.z T k).1.regs) (e2 : t'.old = (nth TT.z T k).1.old) (e3 : t'.reads = (nth TT.z T k).1.reads) (e4 : t'.puts = (nth TT.z T k).1.puts) :
  OwnSy f B (w.setCell ⟨g, k * 13 + j, none⟩ (.int .i64 v)) c (.slice (some ⟨g, 0, none⟩) n cap) l cs (T.set k (t', (nth TT.z T k).2)) L :=
 h.setT (t', (nth TT.z T k).2) hk hj ⟨by have := (h.ti k hk).r; rw [<- e1] at this; exact this, by have := (h.ti k hk).o; rw [<- e2] at this; exact this, by have := (h.ti k hk).d; rw [<- e3] at this; exact this, by have := (h.ti k hk).u; rw [<- e4] at this; exact this⟩ hc
theorem OwnS.tkF {B : Nat} {w : World} {c l : Value} {g n cap : Nat} {s : Sy} (h : OwnS B w c (.slice (some ⟨g, 0, none⟩) n cap) l s) {k j : Nat} {v : Int} {t' : Ta} (hk : k < s.tasks.length) (hj : j < 13)
   (hc : ∀ V : TV, taC (t', V) = (taC (tkN s k, V)).set j (.int .i64 v)) (e1 : t'.regs = (tkN s k).regs) (e2 : t'.old = (tkN s k).old) (e3 : t'.reads = (tkN s k).reads) (e4 : t'.puts = (tkN s k).puts) :
   OwnS B (w.setCell ⟨g, k * 13 + j, none⟩ (.int .i64 v)) c (.slice (some ⟨g, 0, none⟩) n cap) l (setTk s k t') := by
 obtain ⟨f, T, L, h, hT, hL⟩ := h
 have hTl : k < T.length := by have := congrArg List.length hT; simp at this; omega
 have ek : (nth TT.z T k).1 = tkN s k := by unfold tkN; rw [<- hT]; exact (map_nth (·.1) TT.z Ta.z T k hTl).symm
 refine ⟨f, T.set k (t', (nth TT.z T k).2), L, h.tkF hTl hj ?_ (by rw [e1, ek]) (by rw [e2, ek]) (by rw [e3, ek]) (by rw [e4, ek]), ?_, hL⟩
 . have e5 := hc (nth TT.z T k).2
   rw [e5, <- ek]
 . show (T.set k (t', (nth TT.z T k).2)).map (·.1) = s.tasks.set k t'
   rw [List.map_set, hT]
theorem OwnS.ceF {B : Nat} {w : World} {t l : Value} {g n cap : Nat} {s : Sy} (h : OwnS B w (.slice (some ⟨g, 0, none⟩) n cap) t l s) {v : Int} (hk : 0 < s.cells.length) :
  OwnS B (w.setCell ⟨g, 2, none⟩ (.int .i64 v)) (.slice (some ⟨g, 0, none⟩) n cap) t l { s with cells := s.cells.set 0 { nth Ce.z s.cells 0 with lock := v } } := by
 obtain ⟨f, T, L, h, hT, hL⟩ := h
 exact ⟨f, T, L, by have := h.setC (i := 0) (j := 2) (x := .int .i64 v) { nth Ce.z s.cells 0 with lock := v } hk (by omega) rfl; simpa using this, hT, hL⟩
theorem OwnS.tblock {B : Nat} {w : World} {c t l : Value} {s : Sy} (h : OwnS B w c t l s) (hn : 0 < s.tasks.length) : ∃ g cap, t = .slice (some ⟨g, 0, none⟩) s.tasks.length cap /\ B <= g /\ g < w.heap.size /\ (∀ o, w.frozen? ⟨g, o, none⟩ = false) /\ ∀ j, j < s.tasks.length * 13 -> ∃ u, w.cell? ⟨g, j, none⟩ = some u := by
 obtain ⟨f, T, L, h, hT, hL⟩ := h
 have hTl : T.length = s.tasks.length := by rw [<- hT]; simp
 obtain ⟨g, cap, e, h1, h2, h3, h4, h5, h6, h7⟩ := row_cells h.t (by omega) (by omega)
 have hl := flat_len 13 taC taC_len T
 refine ⟨g, cap, by rw [e, hTl], h1, h2, h7, fun j hj => ?_⟩
 rw [<- hTl, <- hl] at hj
 exact ⟨_, (h6 j hj).trans (List.getElem?_eq_getElem hj)⟩
theorem OwnS.cblock {B : Nat} {w : World} {c t l : Value} {s : Sy} (h : OwnS B w c t l s) (hn : 0 < s.cells.length) : ∃ g cap, c = .slice (some ⟨g, 0, none⟩) s.cells.length cap /\ B <= g /\ g < w.heap.size /\ s.cells.length <= cap /\ (∀ o, w.frozen? ⟨g, o, none⟩ = false) /\ ∀ j, j < s.cells.length * 3 -> ∃ u, w.cell? ⟨g, j, none⟩ = some u := by
 obtain ⟨f, T, L, h, hT, hL⟩ := h
 obtain ⟨g, cap, e, h1, h2, h3, h4, h5, h6, h7⟩ := row_cells h.c (by omega) (by omega)
 have hl := flat_len 3 ceC ceC_len s.cells
 refine ⟨g, cap, e, h1, h2, h3, h7, fun j hj => ?_⟩
 rw [<- hl] at hj
 exact ⟨_, (h6 j hj).trans (List.getElem?_eq_getElem hj)⟩
theorem OwnSy.newU {f f' : Nat -> Key} {B : Nat} {w0 w2 : World} {c l v' : Value} {g n cap : Nat} {cs : List Ce} {T : List TT} {L : List EE} (h : OwnSy f B w0 c (.slice (some ⟨g, 0, none⟩) n cap) l cs T L) {k : Nat} (hk : k < T.length) (x : Pu)
   (hf : ∀ b, B <= b -> b < w0.heap.size -> f' b = f b) (hb : ∀ b, B <= b -> b < w0.heap.size -> f b ≠ .u k -> w2.heap[b]? = w0.heap[b]?)
   (hu : Row f' (.u k) B w2 52 2 v' ((nth TT.z T k).1.puts.length + 1) ((nth TT.z T k).1.puts.flatMap puC ++ puC x)) :
   OwnSy f' B (w2.setCell ⟨g, k * 13 + 10, none⟩ v') c (.slice (some ⟨g, 0, none⟩) n cap) l cs (T.set k ({ (nth TT.z T k).1 with puts := (nth TT.z T k).1.puts ++ [x] }, { (nth TT.z T k).2 with u := v' })) L := by
 have hg : f g = .t := h.t.2 g rfl
 have hgl := h.t.1.lt g rfl
 have K : ∀ b, B <= b -> b < w0.heap.size -> f b ≠ .t -> f b ≠ .u k -> (w2.setCell ⟨g, k * 13 + 10, none⟩ v').heap[b]? = w0.heap[b]? := fun b h1 h2 h3 h4 => (heap_set_ne w2 _ _ b (by intro e; simp at e; subst e; exact h3 hg)).trans (hb b h1 h2 h4)
 have hn : n = T.length := by obtain ⟨a, c, e, _⟩ := own_shape h.t.1; injection e
 refine ⟨h.c.move (fun b h1 h2 e => (hf b h1 h2).trans e) fun b h1 h2 e => K b h1 h2 (by rw [e]; simp) (by rw [e]; simp), ?_, h.l.move (fun b h1 h2 e => (hf b h1 h2).trans e) fun b h1 h2 e => K b h1 h2 (by rw [e]; simp) (by rw [e]; simp), fun i hi => ?_, fun j hj => (h.li j hj).move hf fun b h1 h2 e => K b h1 h2 (by rcases e with e | e <;> rw [e] <;> simp) (by rcases e with e | e <;> rw [e] <;> simp)⟩
 . subst hn
   refine ⟨?_, fun b hb' => by have := h.t.2 b hb'; injection hb' with hb'; subst hb'; rw [hf _ hgl.1 hgl.2]; exact this⟩
   have h2 : w2.ownsRow B 70 13 (.slice (some ⟨g, 0, none⟩) T.length cap) T.length (T.flatMap taC) := row_heap h.t.1 fun b hb' => by injection hb' with hb'; subst hb'; exact hb _ hgl.1 hgl.2 (by rw [hg]; simp)
   rw [List.length_set, <- flat_set 13 taC taC_len TT.z 10 (by omega) v' _ T k hk rfl]
   exact (h2.stored _ v').1
 . rw [List.length_set] at hi
   rw [nth_set' TT.z T k i _ hk]
   by_cases e : k = i
   . subst e
     rw [if_pos rfl]
     have hT := h.ti k hk
     refine ⟨hT.r.move (fun b h1 h2 e => (hf b h1 h2).trans e) (fun b h1 h2 e => K b h1 h2 (by rw [e]; simp) (by rw [e]; simp)), hT.o.move (fun b h1 h2 e => (hf b h1 h2).trans e) (fun b h1 h2 e => K b h1 h2 (by rw [e]; simp) (by rw [e]; simp)), hT.d.move (fun b h1 h2 e => (hf b h1 h2).trans e) (fun b h1 h2 e => K b h1 h2 (by rw [e]; simp) (by rw [e]; simp)), ?_, hu.2⟩
     show World.ownsRow _ B 52 2 v' ((nth TT.z T k).1.puts ++ [x]).length (((nth TT.z T k).1.puts ++ [x]).flatMap puC)
     rw [List.length_append, List.flatMap_append]
     have h3 := hu.1
     refine row_heap (by simpa using h3) (fun b hb' => heap_set_ne w2 _ _ b (fun e => ?_))
     have e1 := hu.2 b hb'
     have e' : b = g := e
     rw [e', hf _ hgl.1 hgl.2, hg] at e1
     cases e1
   . rw [if_neg e]
     exact (h.ti i hi).move hf fun b h1 h2 e' => K b h1 h2 (by rcases e' with e' | e' | e' | e' <;> rw [e'] <;> simp) (by rcases e' with e' | e' | e' | e' <;> rw [e'] <;> simp; exact fun q => e q.symm)
theorem OwnS.tag {B : Nat} {w w' : World} {c t l : Value} {s : Sy} (h : OwnS B w c t l s) (hk : TagKept 32 w w') : OwnS B w' c t l s := by
 obtain ⟨f, T, L, h, hT, hL⟩ := h
 exact ⟨f, T, L, ⟨⟨own_tag h.c.1 hk (by decide), h.c.2⟩, ⟨own_tag h.t.1 hk (by decide), h.t.2⟩, ⟨own_tag h.l.1 hk (by decide), h.l.2⟩, fun i hi => ⟨⟨own_tag (h.ti i hi).r.1 hk (by decide), (h.ti i hi).r.2⟩, ⟨own_tag (h.ti i hi).o.1 hk (by decide), (h.ti i hi).o.2⟩, ⟨own_tag (h.ti i hi).d.1 hk (by decide), (h.ti i hi).d.2⟩, ⟨own_tag (h.ti i hi).u.1 hk (by decide), (h.ti i hi).u.2⟩⟩,
  fun j hj => ⟨⟨own_tag (h.li j hj).d.1 hk (by decide), (h.li j hj).d.2⟩, ⟨own_tag (h.li j hj).u.1 hk (by decide), (h.li j hj).u.2⟩⟩⟩, hT, hL⟩
structure SyBx (B R Z C D P Y q : Nat) (w : World) (pr : Pr) (cv bv c t l : Value) (k : Int) (wx : World) : Prop where
 g : PBox wx w.heap.size (.slice none 0 0) (.slice none 0 0)
 z : SBox wx Z (.slice none 0 0) (.slice none 0 0) (.slice none 0 0) 0
 p : PBox wx P cv bv
 y : SBox wx Y c t l k
 pr : PrS (fun b => C <= b /\ b < D) wx cv bv pr
 rd : RdAt B wx R q
 fr : Fr R w.heap.size w wx
 od : R < B /\ B <= w.heap.size /\ w.heap.size < Z /\ Z < C /\ C <= D /\ D <= P /\ P < Y
theorem SyBx.move {B R Z C D P Y q q' : Nat} {w wx W : World} {pr : Pr} {cv bv c t l : Value} {k : Int} (h : SyBx B R Z C D P Y q w pr cv bv c t l k wx) (hf : Fr R wx.heap.size wx W) (hr : RdAt B W R q') : SyBx B R Z C D P Y q' w pr cv bv c t l k W := by
 have ho := h.od
 have hs := h.fr.size
 exact ⟨h.g.heap (hf.block _ h.g.lt (by omega)), h.z.heap (hf.block _ h.z.lt (by omega)), h.p.heap (hf.block _ h.p.lt (by omega)), h.y.heap (hf.block _ h.y.lt (by omega)), h.pr.kept ⟨hf.size, fun b o hb hlt => hf.cell hlt (by have hb : C <= b /\ b < D := hb; omega)⟩, hr, h.fr.trans (hf.mono hs), ho⟩
theorem SyBx.set {B R Z C D P Y q : Nat} {w wx : World} {pr : Pr} {cv bv c t l : Value} {k : Int} (h : SyBx B R Z C D P Y q w pr cv bv c t l k wx) {g o : Nat} (v : Value) (hg : D <= g) (hgP : g < P) : SyBx B R Z C D P Y q w pr cv bv c t l k (wx.setCell ⟨g, o, none⟩ v) := by
 have ho := h.od
 exact ⟨h.g.heap (heap_set_ne _ _ _ _ (by show w.heap.size ≠ g; omega)), h.z.heap (heap_set_ne _ _ _ _ (by show Z ≠ g; omega)), h.p.heap (heap_set_ne _ _ _ _ (by show P ≠ g; omega)), h.y.heap (heap_set_ne _ _ _ _ (by show Y ≠ g; omega)), h.pr.kept (Kept.set _ _ _ _ (fun hb => by have hb : C <= g /\ g < D := hb; omega)), h.rd.below ((Below.refl _ _).setCell (by show B <= g; omega) _), h.fr.setCell (.inl (by show w.heap.size <= g; omega)) _, ho⟩
theorem SyBx.setY {B R Z C D P Y q : Nat} {w wx : World} {pr : Pr} {cv bv c t l c' t' l' v : Value} {k k' : Int} (h : SyBx B R Z C D P Y q w pr cv bv c t l k wx) {o : Nat} (hy : SBox (wx.setCell ⟨Y, o, none⟩ v) Y c' t' l' k') : SyBx B R Z C D P Y q w pr cv bv c' t' l' k' (wx.setCell ⟨Y, o, none⟩ v) := by
 have ho := h.od
 exact ⟨h.g.heap (heap_set_ne _ _ _ _ (by show w.heap.size ≠ Y; omega)), h.z.heap (heap_set_ne _ _ _ _ (by show Z ≠ Y; omega)), h.p.heap (heap_set_ne _ _ _ _ (by show P ≠ Y; omega)), hy, h.pr.kept (Kept.set _ _ _ _ (fun hb => by have hb : C <= Y /\ Y < D := hb; omega)), h.rd.below ((Below.refl _ _).setCell (by show B <= Y; omega) _), h.fr.setCell (.inl (by show w.heap.size <= Y; omega)) _, ho⟩
theorem SyBx.alloc {B R Z C D P Y q : Nat} {w wx : World} {pr : Pr} {cv bv c t l : Value} {k : Int} (h : SyBx B R Z C D P Y q w pr cv bv c t l k wx) (o : Obj) : SyBx B R Z C D P Y q w pr cv bv c t l k (wx.alloc o) := h.move (Fr.of_below ((Below.refl _ _).alloc (Nat.le_refl _) _)) (h.rd.below ((Below.refl _ _).alloc h.rd.le _))
theorem SyBx.frs {B R Z C D P Y q0 q q' : Nat} {w wx w6 W : World} {pr : Pr} {cv bv c t l : Value} {k : Int} (_ : SyBx B R Z C D P Y q0 w pr cv bv c t l k w6) (h : SyBx B R Z C D P Y q w pr cv bv c t l k wx) (hf : FrS (fun b => b = R \/ (D <= b /\ b ≠ P /\ b ≠ Y)) wx W) (hr : RdAt B W R q') : SyBx B R Z C D P Y q' w pr cv bv c t l k W := by
 have ho := h.od
 have hs := h.fr.size
 exact ⟨h.g.heap (hf.block _ h.g.lt (by omega)), h.z.heap (hf.block _ h.z.lt (by omega)), h.p.heap (hf.block _ h.p.lt (by omega)), h.y.heap (hf.block _ h.y.lt (by omega)), h.pr.kept ⟨hf.size, fun b o hb hlt => hf.cell hlt (by have hb : C <= b /\ b < D := hb; omega)⟩, hr, h.fr.trans ⟨hf.os, hf.tape, hf.output, hf.size, fun b hb hR => hf.block b (by omega) (by omega)⟩, ho⟩
theorem own_ne_box {w : World} {B : Nat} {e : TypeId} {size : Nat} {v : Value} {n Y : Nat} {xs : List Value} {cur : Array Value} {t : TypeId} (h : w.ownsRow B e size v n xs) (hb : w.heap[Y]? = some (.cells cur t (0, 0))) (he : e ≠ t) : v.ownBlock ≠ some Y := by
 intro hv
 rcases h.2 with ⟨rfl, _⟩ | ⟨g', cap, cur', rfl, _, hgg, _⟩
 . cases hv
 . injection hv with hv
   subst hv
   rw [hgg] at hb
   injection hb with hb
   injection hb with _ h2 _
   exact he h2
theorem nth_drop1 (xs : List Ce) (i : Nat) : nth Ce.z (xs.drop 1) i = nth Ce.z xs (i + 1) := by rw [nth_drop]; congr 1; omega
theorem CesOn.tail {S : Nat -> Prop} {w : World} {g n cap : Nat} {xs : List Ce} (h : CesOn S w (.slice (some ⟨g, 0, none⟩) n cap) xs) (h1 : 0 < xs.length) : CesOn S w (.slice (some ⟨g, 3, none⟩) (xs.length - 1) (cap - 1)) (xs.drop 1) := by
 obtain ⟨a, cap', e, hm, hc⟩ := h
 injection e with e1 e2 e3
 subst e1 e3
 refine ⟨some ⟨g, 3, none⟩, cap - 1, by simp, by simp; omega, fun i hi => ?_⟩
 rw [List.length_drop] at hi
 obtain ⟨b, off, e4, hb, hl, c0, c1, c2⟩ := hc (i + 1) (by omega)
 injection e4 with e4
 injection e4 with e4 e5
 subst e4 e5
 rw [nth_drop1]
 refine ⟨g, 3, rfl, hb, hl, ?_, ?_, ?_⟩
 . rw [<- c0]; congr 2; omega
 . rw [<- c1]; congr 2; omega
 . rw [<- c2]; congr 2; omega
theorem CesOn.tail1 {S : Nat -> Prop} {w : World} {g n cap : Nat} {xs : List Ce} (h : CesOn S w (.slice (some ⟨g, 0, none⟩) n cap) xs) (h1 : 0 < xs.length) (hc1 : cap = 1) : CesOn S w (.slice (some ⟨g, 0, none⟩) (xs.length - 1) 0) (xs.drop 1) := by
 obtain ⟨a, cap', e, hm, hc⟩ := h
 injection e with e1 e2 e3
 subst e3 hc1
 refine ⟨some ⟨g, 0, none⟩, 0, by simp, by simp; omega, fun i hi => ?_⟩
 rw [List.length_drop] at hi
 omega
def OffR (B R p hi : Nat) (w : World) (e : Ending) (w' : World) : Prop :=
 ∃ (pr : Pr) (s : Sy) (cv bv c t l : Value) (p' : Nat), e = .returned (.tuple #[.agg #[cv, bv], .agg #[c, t, .int .i64 s.clock, l]]) /\ PrS (fun b => w.heap.size <= b) w' cv bv pr /\ SyOn (fun b => w.heap.size <= b) w' c t l s /\ okB pr = true /\ 1 <= pr.cells.length /\ Off pr s /\ p <= p' /\ p' <= p + hi /\ RdAt B w' R p' /\ Fr R w.heap.size w w'
theorem OffR.fin {B R Z C D P Y q p hi : Nat} {w wx X : World} {pr : Pr} {s : Sy} {cv bv c t l : Value} (h : SyBx B R Z C D P Y q w pr cv bv c t l s.clock wx) (hs : SyOn (fun b => C <= b) wx c t l s) (hX : FrS (fun b => b = w.heap.size \/ b = Z) wx X) (hok : okB pr = true) (hc1 : 1 <= pr.cells.length) (ho : Off pr s) (h1 : p <= q) (h2 : q <= p + hi) :
  OffR B R p hi w (.returned (.tuple #[.agg #[cv, bv], .agg #[c, t, .int .i64 s.clock, l]])) X := by
 have od := h.od
 have hbel : Below w.heap.size wx X := hX.below (fun b hb => by rcases hb with hb | hb <;> omega) h.fr.size
 have hK : Kept (fun b => C <= b) wx X := ⟨hX.size, fun b o hb hlt => World.cell?_of_block (hX.block b hlt (fun e => by have hb : C <= b := hb; rcases e with e | e <;> omega))⟩
 refine ⟨pr, s, cv, bv, c, t, l, q, rfl, ((h.pr.wide (S' := fun b => C <= b) (fun b hb => hb.1)).kept hK).wide (fun b hb => by have : C <= b := hb; show w.heap.size <= b; omega), (hs.kept hK).wide (fun b hb => by have : C <= b := hb; show w.heap.size <= b; omega), hok, hc1, ho, h1, h2, h.rd.below (hbel.mono od.2.1), h.fr.trans (Fr.of_below hbel)⟩
theorem tblA (q : Int) (h0 : 0 <= q) (h1 : q < 5) : ∃ x : Int, (#[Value.int .i64 (-1), .int .i64 5, .int .i64 2, .int .i64 3, .int .i64 4] : Array Value)[q.toNat]? = some (.int .i64 x) /\ (∀ h, ([Value.int .i64 (-1), .int .i64 5, .int .i64 2, .int .i64 3, .int .i64 4] : List Value)[q.toNat]'h = .int .i64 x) /\ x ≠ 0 /\ x ≠ 1 := by
 have : q = 0 \/ q = 1 \/ q = 2 \/ q = 3 \/ q = 4 := by omega
 rcases this with rfl | rfl | rfl | rfl | rfl <;> exact ⟨_, rfl, fun _ => rfl, by omega, by omega⟩
theorem tblB (q : Int) (h0 : 0 <= q) (h1 : q < 2) : ∃ x : Int, (#[Value.int .i64 (-1), .int .i64 201] : Array Value)[q.toNat]? = some (.int .i64 x) /\ (∀ h, ([Value.int .i64 (-1), .int .i64 201] : List Value)[q.toNat]'h = .int .i64 x) := by
 have : q = 0 \/ q = 1 := by omega
 rcases this with rfl | rfl <;> exact ⟨_, rfl, fun _ => rfl⟩
theorem l71Off_any (B R p : Nat) (w : World) (h : RdAt B w R p) (hp : p <= 350000) :
   Calls Try.prog 47 #[.pointer (some ⟨R, 0, none⟩)] w (OffR B R p 20010 w) := by
 have hlt := h.lt
 have hle := h.le
 have HY : Hid (∃ V, V = ((w.alloc (.cells #[.slice none 0 0, .slice none 0 0] 26)).alloc (.cells #[.slice none 0 0, .slice none 0 0, .int .i64 0, .slice none 0 0] 32)) /\ PBox V w.heap.size (.slice none 0 0) (.slice none 0 0) /\ SBox V (w.heap.size + 1) (.slice none 0 0) (.slice none 0 0) (.slice none 0 0) 0 /\ V.heap.size = w.heap.size + 2 /\ Below w.heap.size w V /\ RdAt B V R p) := by
   refine ⟨_, rfl, PBox.alloc (heap_alloc_new w _) _, ?_, by simp, (((Below.refl _ _).alloc (Nat.le_refl _) _).alloc (by simp) _), h.below (((Below.refl _ _).alloc hle _).alloc (by simp; omega) _)⟩
   unfold SBox
   simpa using heap_alloc_new (w.alloc (.cells #[.slice none 0 0, .slice none 0 0] 26)) (.cells #[.slice none 0 0, .slice none 0 0, .int .i64 0, .slice none 0 0] 32)
 clear h
 go_enter Try.func47, Try.ntmps47
 go_wp2_with fail
 obtain ⟨V, hV, hVG, hVZ, hVs, hVb, hVR⟩ := HY.out
 rw [<- hV]
 clear hV HY
 have hC : V.heap.size = w.heap.size + 1 + 1 := by omega
 have HVG := (show Hid (PBox _ _ _ _) from hVG)
 have HVZ := (show Hid (SBox _ _ _ _ _ _) from hVZ)
 have HVB := (show Hid (Below _ _ _) from hVb)
 clear hVG hVZ hVb hVs
 refine (l71Sys_any B R p _ hVR (by omega)).mono ?_
 rintro e w1 ⟨pr, s, cv, bv, c, t, l, p1, D, rfl, hD, hPr, hOs, hok, hc1, hre, a1, a2, hR1, hF1⟩
 have hsV := HVB.out.size
 have hs1 := hF1.size
 have hix := hre.inx hok
 have hn1 := hix.w.i.np.n
 have hn7 : s.tasks.length <= 7 := hix.w.i.bd.n7
 have hck := hix.clock
 have hcl : 0 < s.cells.length := by have := hix.w.i.np.cs; omega
 obtain ⟨ac, cc, hcv, _⟩ := hPr.1.shape
 obtain ⟨ab, cb, hbv, _⟩ := hPr.2.shape
 subst hcv hbv
 obtain ⟨g, tcap, rfl, hgD, hg1, hgz, hgc⟩ := hOs.tblock (by omega)
 obtain ⟨gc, ccap, rfl, hcD, hcg1, hcn, hcz, hcc⟩ := hOs.cblock hcl
 obtain ⟨_, _, _, _, la, lc, _, _, rfl⟩ := hOs.on.shapes
 have hDs : D <= w1.heap.size := by omega
 have HB0 : Hid (SyBx B R (w.heap.size + 1) V.heap.size D w1.heap.size (w1.heap.size + 1) p1 w pr (.slice ac pr.cells.length cc) (.slice ab pr.bodies.length cb) (.slice (some ⟨gc, 0, none⟩) s.cells.length ccap) (.slice (some ⟨g, 0, none⟩) s.tasks.length tcap) (.slice la s.log.length lc) s.clock ((w1.alloc (.cells #[.slice ac pr.cells.length cc, .slice ab pr.bodies.length cb] 26)).alloc (.cells #[.slice (some ⟨gc, 0, none⟩) s.cells.length ccap, .slice (some ⟨g, 0, none⟩) s.tasks.length tcap, .int .i64 s.clock, .slice la s.log.length lc] 32))) := by
   have hb12 : Below w1.heap.size w1 ((w1.alloc (.cells #[.slice ac pr.cells.length cc, .slice ab pr.bodies.length cb] 26)).alloc (.cells #[.slice (some ⟨gc, 0, none⟩) s.cells.length ccap, .slice (some ⟨g, 0, none⟩) s.tasks.length tcap, .int .i64 s.clock, .slice la s.log.length lc] 32)) := ((Below.refl w1.heap.size w1).alloc (Nat.le_refl _) _).alloc (by simp) _
   have hG1 : PBox w1 w.heap.size (.slice none 0 0) (.slice none 0 0) := HVG.out.fr hF1 (by omega)
   have hZ1 : SBox w1 (w.heap.size + 1) (.slice none 0 0) (.slice none 0 0) (.slice none 0 0) 0 := HVZ.out.heap (hF1.block _ HVZ.out.lt (by omega))
   refine ⟨hG1.heap (hb12.block _ hG1.lt), hZ1.heap (hb12.block _ hZ1.lt), PBox.alloc (heap_alloc_new w1 _) _, ?_, hPr.kept ⟨hb12.size, fun b o hb hlt => hb12.cell (p := ⟨b, o, none⟩) hlt⟩, hR1.below (hb12.mono hR1.le), ((Fr.of_below HVB.out).trans (hF1.mono (by omega))).trans (Fr.of_below (hb12.mono (by omega))), by omega, hle, by omega, by omega, hD, hDs, by omega⟩
   unfold SBox
   simpa using heap_alloc_new (w1.alloc (.cells #[.slice ac pr.cells.length cc, .slice ab pr.bodies.length cb] 26)) (.cells #[.slice (some ⟨gc, 0, none⟩) s.cells.length ccap, .slice (some ⟨g, 0, none⟩) s.tasks.length tcap, .int .i64 s.clock, .slice la s.log.length lc] 32)
 have HS0 : Hid (OwnS D ((w1.alloc (.cells #[.slice ac pr.cells.length cc, .slice ab pr.bodies.length cb] 26)).alloc (.cells #[.slice (some ⟨gc, 0, none⟩) s.cells.length ccap, .slice (some ⟨g, 0, none⟩) s.tasks.length tcap, .int .i64 s.clock, .slice la s.log.length lc] 32)) (.slice (some ⟨gc, 0, none⟩) s.cells.length ccap) (.slice (some ⟨g, 0, none⟩) s.tasks.length tcap) (.slice la s.log.length lc) s) :=
   hOs.below (((Below.refl w1.heap.size w1).alloc (Nat.le_refl _) _).alloc (by simp) _) (Nat.le_refl _)
 have HOK := (show Hid (_ = _) from hok)
 have HC1 := (show Hid (1 <= _) from hc1)
 have HIX := (show Hid (Inx _ _) from hix)
 clear hPr hOs hok hc1 hre hix hR1 hF1 hgc hgz hcc hcz HVG HVZ HVB hVR
 go_wp2_with fail
 revert HB0 HS0 hg1 hcg1 hDs
 generalize ((w1.alloc (.cells #[.slice ac pr.cells.length cc, .slice ab pr.bodies.length cb] 26)).alloc (.cells #[.slice (some ⟨gc, 0, none⟩) s.cells.length ccap, .slice (some ⟨g, 0, none⟩) s.tasks.length tcap, .int .i64 s.clock, .slice la s.log.length lc] 32)) = w2
 generalize hPe : w1.heap.size = P
 generalize hYe : P + 1 = Y
 intro hg1 hcg1 hDs HB0 HS0
 have hPY : P < Y := by omega
 clear hPe
 refine (pick_any B R p1 14 _ HB0.out.rd (by omega) (by omega) (by omega)).mono ?_
 rintro e w3 ⟨q3, rfl, q30, q31, hR3, hF3⟩
 have HB3 := (show Hid (SyBx _ _ _ _ _ _ _ _ _ _ _ _ _ _ _ _ _) from HB0.out.move hF3 hR3)
 have HS3 : Hid (OwnS D w3 (.slice (some ⟨gc, 0, none⟩) s.cells.length ccap) (.slice (some ⟨g, 0, none⟩) s.tasks.length tcap) (.slice la s.log.length lc) s) := HS0.out.ext (fun b hb hlt => hF3.block b hlt (by have := HB0.out.od; omega))
 clear hR3 hF3 HB0 HS0
 have od := HB3.out.od
 by_cases hq : 0 < q3
 . have hsO := (show Hid (SyOn (fun b => V.heap.size <= b) _ _ _ _ _) from HS3.out.on.wide (fun b hb => by have : D <= b := hb; show V.heap.size <= b; omega))
   have HOF := (show Hid (Off _ _) from Off.self HIX.out)
   obtain ⟨k0, k1, _, _⟩ := HB3.out.p.cells
   obtain ⟨gg0, gg1, fg0, fg1⟩ := HB3.out.g.cells
   obtain ⟨⟨x0, x1, x2, x3⟩, _, _⟩ := HB3.out.y.cells
   obtain ⟨⟨z0, z1, z2, z3⟩, ⟨fz0, fz1, fz2, fz3⟩, _⟩ := HB3.out.z.cells
   have hGl := HB3.out.g.lt
   have hZl := HB3.out.z.lt
   have hPl' := HB3.out.p.lt
   have hYl' := HB3.out.y.lt
   go_wp2_with fail
   go_region
   go_wp2_with fail
   obtain ⟨h1, h2⟩ := two_boxes (x0 := .slice ac pr.cells.length cc) (x1 := .slice ab pr.bodies.length cb) (c := .slice (some ⟨gc, 0, none⟩) s.cells.length ccap) (t := .slice (some ⟨g, 0, none⟩) s.tasks.length tcap) (l := .slice la s.log.length lc) (k := s.clock) HB3.out.g HB3.out.z (by omega)
   obtain ⟨e0, e1, _, _⟩ := h1.cells
   obtain ⟨⟨d0, d1, d2, d3⟩, _, _⟩ := h2.cells
   clear k0 k1 gg0 gg1 fg0 fg1 x0 x1 x2 x3 z0 z1 z2 z3 fz0 fz1 fz2 fz3 h1 h2
   refine bodyPost_ret (v := .tuple #[.agg #[.slice ac pr.cells.length cc, .slice ab pr.bodies.length cb], .agg #[.slice (some ⟨gc, 0, none⟩) s.cells.length ccap, .slice (some ⟨g, 0, none⟩) s.tasks.length tcap, .int .i64 (s.clock), .slice la s.log.length lc]]) (by simp [results, Try.results47, go_sem, e0, e1, d0, d1, d2, d3]) rfl ?_
   refine OffR.fin (s := s) HB3.out hsO.out ?_ HOK.out HC1.out HOF.out (by omega) (by omega)
   exact ((((((FrS.refl _ _).setCell (p := ⟨w.heap.size, 0, none⟩) (.inl rfl) _).setCell (p := ⟨w.heap.size, 1, none⟩) (.inl rfl) _).setCell (p := ⟨w.heap.size + 1, 0, none⟩) (.inr rfl) _).setCell (p := ⟨w.heap.size + 1, 1, none⟩) (.inr rfl) _).setCell (p := ⟨w.heap.size + 1, 2, none⟩) (.inr rfl) _).setCell (p := ⟨w.heap.size + 1, 3, none⟩) (.inr rfl) _ |>.drew
 have hq0 : q3 = 0 := by omega
 subst hq0
 clear hq q30 q31
 obtain ⟨⟨y0, y1, y2, y3⟩, ⟨fy0, fy1, fy2, fy3⟩, hYl⟩ := HB3.out.y.cells
 go_wp2_with fail
 refine (pick_any B R (p1 + 1) (s.tasks.length : Int) _ HB3.out.rd (by omega) (by omega) (by omega)).mono ?_
 rintro e w4 ⟨q4, rfl, q40, q41, hR4, hF4⟩
 obtain ⟨k, rfl⟩ : ∃ k : Nat, q4 = (k : Int) := ⟨q4.toNat, by omega⟩
 have hk : k < s.tasks.length := by omega
 have HB4 := (show Hid (SyBx _ _ _ _ _ _ _ _ _ _ _ _ _ _ _ _ _) from HB3.out.move hF4 hR4)
 have HS4 : Hid (OwnS D w4 (.slice (some ⟨gc, 0, none⟩) s.cells.length ccap) (.slice (some ⟨g, 0, none⟩) s.tasks.length tcap) (.slice la s.log.length lc) s) := HS3.out.ext (fun b hb hlt => hF4.block b hlt (by omega))
 clear hR4 hF4 HB3 HS3 y0 y1 y2 y3 fy0 fy1 fy2 fy3 hYl
 go_wp2_with fail
 refine (pick_any B R (p1 + 1 + 1) 8 _ HB4.out.rd (by omega) (by omega) (by omega)).mono ?_
 rintro e w5 ⟨q5, rfl, q50, q51, hR5, hF5⟩
 have HB5 := (show Hid (SyBx _ _ _ _ _ _ _ _ _ _ _ _ _ _ _ _ _) from HB4.out.move hF5 hR5)
 have HS5 : Hid (OwnS D w5 (.slice (some ⟨gc, 0, none⟩) s.cells.length ccap) (.slice (some ⟨g, 0, none⟩) s.tasks.length tcap) (.slice la s.log.length lc) s) := HS4.out.ext (fun b hb hlt => hF5.block b hlt (by omega))
 clear hR5 hF5 HB4 HS4
 obtain ⟨⟨y0, y1, y2, y3⟩, ⟨fy0, fy1, fy2, fy3⟩, hYl⟩ := HB5.out.y.cells
 have hs5 := HB5.out.fr.size
 have HRd : Hid (RdAt B w5.drew R (p1 + 1 + 1 + 1)) := HB5.out.rd.below (Below.refl _ _).drew
 have HRa : Hid (∀ W, Below w5.heap.size w5 W -> RdAt B W R (p1 + 1 + 1 + 1)) := fun W hb => HB5.out.rd.below (hb.mono HB5.out.rd.le)
 have HGT : Hid ((∀ o, w5.frozen? ⟨g, o, none⟩ = false) /\ ∀ j, j < s.tasks.length * 13 -> ∃ u, w5.cell? ⟨g, j, none⟩ = some u) := by
   obtain ⟨g', cap', e, _, _, h5, h6⟩ := HS5.out.tblock (by omega)
   injection e with e1
   injection e1 with e1
   injection e1 with e1
   subst e1
   exact ⟨h5, h6⟩
 have HGC : Hid ((∀ o, w5.frozen? ⟨gc, o, none⟩ = false) /\ ∀ j, j < s.cells.length * 3 -> ∃ u, w5.cell? ⟨gc, j, none⟩ = some u) := by
   obtain ⟨g', cap', e, _, _, _, h5, h6⟩ := HS5.out.cblock hcl
   injection e with e1
   injection e1 with e1
   injection e1 with e1
   subst e1
   exact ⟨h5, h6⟩
 have hgl : g < w5.heap.size := by omega
 have hgcl : gc < w5.heap.size := by omega
 have hkk : (k : Int) < (s.tasks.length : Int) := by omega
 have hq8 : q5 = 0 \/ q5 = 1 \/ q5 = 2 \/ q5 = 3 \/ q5 = 4 \/ q5 = 5 \/ q5 = 6 \/ q5 = 7 := by omega
 clear q50 q51
 rcases hq8 with hq | hq | hq | hq | hq | hq | hq | hq
 . subst hq
   go_wp2_with (go_at_call 48; refine (pick_any B R (p1 + 1 + 1 + 1) 2 _ (HRa.out _ ((Below.refl _ _).alloc (Nat.le_refl _) _)) (by omega) (by omega) (by omega)).mono ?_; rintro e w6 ⟨q6, rfl, q60, q61, hR6, hF6⟩; obtain ⟨x, hx, hxl⟩ := tblB q6 q60 q61; have HX6 : Hid (Fr R w5.heap.size w5 w6) := (Fr.of_below ((Below.refl _ _).alloc (Nat.le_refl _) _)).trans (hF6.mono (by simp)); have HB6 := (show Hid (SyBx _ _ _ _ _ _ _ _ _ _ _ _ _ _ _ _ _) from HB5.out.move HX6.out hR6); have HS6 := (show Hid (OwnS _ _ _ _ _ _) from HS5.out.ext (fun b hb hlt => HX6.out.block b hlt (by omega))); have ex : w6.cell? ⟨w5.heap.size, q6.toNat, none⟩ = some (.int .i64 x) := (by rw [hF6.cell (by simp) (by omega)]; simpa [go_sem] using hx); have hs6 : w5.heap.size < w6.heap.size := (by have := hF6.size; simp at this; omega); obtain ⟨⟨u0, u1, u2, u3⟩, ⟨fu0, fu1, fu2, fu3⟩, hYl6⟩ := HB6.out.y.cells; clear hR6 hF6 hx hxl y0 y1 y2 y3 fy0 fy1 fy2 fy3)
   clear u0 u1 u2 u3 fu0 fu1 fu2 fu3 ex
   have HB7 : Hid (SyBx B R (w.heap.size + 1) V.heap.size D P Y (p1 + 1 + 1 + 1 + 1) w pr (.slice ac pr.cells.length cc) (.slice ab pr.bodies.length cb) (.slice (some ⟨gc, 0, none⟩) s.cells.length ccap) (.slice (some ⟨g, 0, none⟩) s.tasks.length tcap) (.slice la s.log.length lc) (x) (w6.setCell ⟨Y, 2, none⟩ (.int .i64 x))) := HB6.out.setY (by unfold SBox; rw [heap_setCell_same w6 Y 2 _ _ _ HB6.out.y]; rfl)
   have HO7 : Hid (SyOn (fun b => V.heap.size <= b) (w6.setCell ⟨Y, 2, none⟩ (.int .i64 x)) (.slice (some ⟨gc, 0, none⟩) s.cells.length ccap) (.slice (some ⟨g, 0, none⟩) s.tasks.length tcap) (.slice la s.log.length lc) ({ s with clock := x })) := (HS6.out.tag (TagKept.set HB6.out.y)).on.wide (fun b hb => by have : D <= b := hb; show V.heap.size <= b; omega)
   have HOF : Hid (Off pr ({ s with clock := x })) := Off.of HIX.out rfl rfl (Nat.le_refl _) (Lq.cells pr s s.cells x) (fun i hi => HIX.out.smt hi)
   clear HB6 HS6 HX6
   revert HB7 HO7
   generalize w6.setCell ⟨Y, 2, none⟩ (.int .i64 x) = w7
   intro HB7 HO7
   have hsO := HO7
   obtain ⟨k0, k1, _, _⟩ := HB7.out.p.cells
   obtain ⟨gg0, gg1, fg0, fg1⟩ := HB7.out.g.cells
   obtain ⟨⟨x0, x1, x2, x3⟩, _, _⟩ := HB7.out.y.cells
   obtain ⟨⟨z0, z1, z2, z3⟩, ⟨fz0, fz1, fz2, fz3⟩, _⟩ := HB7.out.z.cells
   have hGl := HB7.out.g.lt
   have hZl := HB7.out.z.lt
   have hPl' := HB7.out.p.lt
   have hYl' := HB7.out.y.lt
   go_wp2_with fail
   go_region
   go_wp2_with fail
   obtain ⟨h1, h2⟩ := two_boxes (x0 := .slice ac pr.cells.length cc) (x1 := .slice ab pr.bodies.length cb) (c := .slice (some ⟨gc, 0, none⟩) s.cells.length ccap) (t := .slice (some ⟨g, 0, none⟩) s.tasks.length tcap) (l := .slice la s.log.length lc) (k := x) HB7.out.g HB7.out.z (by omega)
   obtain ⟨e0, e1, _, _⟩ := h1.cells
   obtain ⟨⟨d0, d1, d2, d3⟩, _, _⟩ := h2.cells
   clear k0 k1 gg0 gg1 fg0 fg1 x0 x1 x2 x3 z0 z1 z2 z3 fz0 fz1 fz2 fz3 h1 h2
   refine bodyPost_ret (v := .tuple #[.agg #[.slice ac pr.cells.length cc, .slice ab pr.bodies.length cb], .agg #[.slice (some ⟨gc, 0, none⟩) s.cells.length ccap, .slice (some ⟨g, 0, none⟩) s.tasks.length tcap, .int .i64 (x), .slice la s.log.length lc]]) (by simp [results, Try.results47, go_sem, e0, e1, d0, d1, d2, d3]) rfl ?_
   refine OffR.fin (s := { s with clock := x }) HB7.out hsO.out ?_ HOK.out HC1.out HOF.out (by omega) (by omega)
   exact ((((((FrS.refl _ _).setCell (p := ⟨w.heap.size, 0, none⟩) (.inl rfl) _).setCell (p := ⟨w.heap.size, 1, none⟩) (.inl rfl) _).setCell (p := ⟨w.heap.size + 1, 0, none⟩) (.inr rfl) _).setCell (p := ⟨w.heap.size + 1, 1, none⟩) (.inr rfl) _).setCell (p := ⟨w.heap.size + 1, 2, none⟩) (.inr rfl) _).setCell (p := ⟨w.heap.size + 1, 3, none⟩) (.inr rfl) _ |>.drew
 . subst hq
   have SM : Hid (∀ W : World, Fr R w5.heap.size w5 W -> W.cell? ⟨Y, 1, none⟩ = some (.slice (some ⟨g, 0, none⟩) s.tasks.length tcap) /\ W.cell? ⟨Y, 0, none⟩ = some (.slice (some ⟨gc, 0, none⟩) s.cells.length ccap)) := fun W hf => by
     have h2 := (HB5.out.y.heap (hf.block Y HB5.out.y.lt (by omega))).cells.1
     exact ⟨h2.2.1, h2.1⟩
   go_wp2_with fail
   refine till_begin (S := fun w' => w'.cell? ⟨Y, 1, none⟩ = some (.slice (some ⟨g, 0, none⟩) s.tasks.length tcap) /\ w'.cell? ⟨Y, 0, none⟩ = some (.slice (some ⟨gc, 0, none⟩) s.cells.length ccap)) (z := 10) (by kernel_rfl) ?_
   refine till_take (i := 0) (v := (.pointer (some ⟨Y, 1, none⟩))) rfl (by kernel_rfl) (fun _ _ _ h => h) (by rfl) ?_ (SM.out _ (Fr.of_below (Below.refl _ _).drew)) ?_
   . (intro w hSw; obtain ⟨q0, q1⟩ := hSw; go_simp)
   (try simp only [Act.put, zq1, zq2, zq3])
   refine till_take (i := 1) (v := (.slice (some ⟨g, 0, none⟩) s.tasks.length tcap)) rfl (by kernel_rfl) (fun _ _ _ h => h) (by rfl) ?_ (SM.out _ (Fr.of_below (Below.refl _ _).drew)) ?_
   . (intro w hSw; obtain ⟨q0, q1⟩ := hSw; go_simp)
   (try simp only [Act.put, zq1, zq2, zq3])
   refine till_take (i := 2) (v := (.int .i64 (k : Int))) rfl (by kernel_rfl) (fun _ _ _ h => h) (by rfl) ?_ (SM.out _ (Fr.of_below (Below.refl _ _).drew)) ?_
   . (intro w hSw; obtain ⟨q0, q1⟩ := hSw; go_simp)
   (try simp only [Act.put, zq1, zq2, zq3])
   refine till_take (i := 4) (v := (.pointer (some ⟨R, 0, none⟩))) rfl (by kernel_rfl) (fun _ _ _ h => h) (by rfl) ?_ (SM.out _ (Fr.of_below (Below.refl _ _).drew)) ?_
   . (intro w hSw; obtain ⟨q0, q1⟩ := hSw; go_simp)
   (try simp only [Act.put, zq1, zq2, zq3])
   refine till_two (i := 3) (j := 5) rfl rfl (by kernel_rfl) (fun K hK => ?_) (fun K hK => ?_)
   . go_simp
     refine hK.out _ _ (fun _ => SM.out _ (Fr.of_below (((Below.refl w5.heap.size w5).alloc (Nat.le_refl _) _).drew))) ?_
     clear hK
     (try simp only [Act.put, zq1, zq2, zq3])
     refine till_step (i := 5) rfl (by kernel_rfl) (fun K hK => ?_)
     go_simp
     refine (pick_any B R (p1 + 1 + 1 + 1) 5 _ (HRa.out _ (((Below.refl w5.heap.size w5).alloc (Nat.le_refl _) _).drew)) (by omega) (by omega) (by omega)).mono ?_
     rintro e w6 ⟨v6, rfl, v60, v61, hR6, hF6⟩
     obtain ⟨x, hx, hxl, hx0, hx1⟩ := tblA v6 v60 v61
     have HX6 : Hid (Fr R w5.heap.size w5 w6) := (Fr.of_below (((Below.refl w5.heap.size w5).alloc (Nat.le_refl _) _).drew)).trans (hF6.mono (by simp))
     have HR6 := (show Hid (RdAt _ _ _ _) from hR6)
     have hs6 := HX6.out.size
     have ex : w6.cell? ⟨w5.heap.size, v6.toNat, none⟩ = some (.int .i64 x) := by rw [hF6.cell (by simp) (by omega)]; simpa [go_sem] using hx
     have hwl : w5.heap.size < w6.heap.size := by have := hF6.size; simp at this; omega
     clear hR6 hF6 hx hxl
     refine hK.out _ _ (fun _ => SM.out _ HX6.out) ?_
     clear hK
     (try simp only [Act.put, zq1, zq2, zq3])
     refine till_step (i := 6) rfl (by kernel_rfl) (fun K hK => ?_)
     go_simp
     refine hK.out _ _ (fun _ => SM.out _ HX6.out) ?_
     clear hK
     (try simp only [Act.put, zq1, zq2, zq3])
     refine till_step (i := 7) rfl (by kernel_rfl) (fun K hK => ?_)
     go_simp
     refine hK.out _ _ (fun _ => SM.out _ HX6.out) ?_
     clear hK
     (try simp only [Act.put, zq1, zq2, zq3])
     refine till_take (i := 8) (v := (.pointer (some ⟨g, k * 13, none⟩))) rfl (by kernel_rfl) (fun _ _ _ h => h) (by rfl) ?_ (SM.out _ HX6.out) ?_
     . (intro w hSw; obtain ⟨q0, q1⟩ := hSw; go_simp)
     (try simp only [Act.put, zq1, zq2, zq3])
     refine till_take (i := 9) (v := (.pointer (some ⟨g, k * 13 + 4, none⟩))) rfl (by kernel_rfl) (fun _ _ _ h => h) (by rfl) ?_ (SM.out _ HX6.out) ?_
     . (intro w hSw; obtain ⟨q0, q1⟩ := hSw; go_simp)
     (try simp only [Act.put, zq1, zq2, zq3])
     have HB6 := (show Hid (SyBx _ _ _ _ _ _ _ _ _ _ _ _ _ _ _ _ _) from HB5.out.move HX6.out HR6.out)
     have HS6 := (show Hid (OwnS _ _ _ _ _ _) from HS5.out.ext (fun b hb hlt => HX6.out.block b hlt (by omega)))
     obtain ⟨ux, hux⟩ := HGT.out.2 (k * 13 + 4) (by omega)
     have X6 : w6.cell? ⟨g, k * 13 + 4, none⟩ = some ux := (HX6.out.cell hgl (by omega)).trans hux
     have Z6 : w6.frozen? ⟨g, k * 13 + 4, none⟩ = false := (HX6.out.frozen hgl (by omega)).trans (HGT.out.1 _)
     clear hux
     refine till_step (i := 10) rfl (by kernel_rfl) (fun K hK => ?_)
     go_simp
     refine hK.out _ _ (fun h => absurd rfl h) ?_
     clear hK
     refine till_done (by kernel_rfl) ?_ _
     clear X6 Z6 SM ex y0 y1 y2 y3 fy0 fy1 fy2 fy3
     go_wp2_with fail
     have HB7 : Hid (SyBx B R (w.heap.size + 1) V.heap.size D P Y (p1 + 1 + 1 + 1 + 1) w pr (.slice ac pr.cells.length cc) (.slice ab pr.bodies.length cb) (.slice (some ⟨gc, 0, none⟩) s.cells.length ccap) (.slice (some ⟨g, 0, none⟩) s.tasks.length tcap) (.slice la s.log.length lc) (s.clock) (w6.setCell ⟨g, k * 13 + 4, none⟩ (.int .i64 x))) := HB6.out.set _ hgD hg1
     have HO7 : Hid (SyOn (fun b => V.heap.size <= b) (w6.setCell ⟨g, k * 13 + 4, none⟩ (.int .i64 x)) (.slice (some ⟨gc, 0, none⟩) s.cells.length ccap) (.slice (some ⟨g, 0, none⟩) s.tasks.length tcap) (.slice la s.log.length lc) (setTk s k { tkN s k with way := x })) := ((HS6.out.tkF (j := 4) (v := x) (t' := { tkN s k with way := x }) hk (by omega) (fun _ => rfl) rfl rfl rfl rfl)).on.wide (fun b hb => by have : D <= b := hb; show V.heap.size <= b; omega)
     have HOF : Hid (Off pr (setTk s k { tkN s k with way := x })) := Off.tk HIX.out hk (rest_le rfl (.inr (.inl ⟨hx0, hx1⟩))) rfl (HIX.out.smt hk)
     clear HB6 HS6 HX6 HR6
     revert HB7 HO7
     generalize w6.setCell ⟨g, k * 13 + 4, none⟩ (.int .i64 x) = w7
     intro HB7 HO7
     have hsO := HO7
     obtain ⟨k0, k1, _, _⟩ := HB7.out.p.cells
     obtain ⟨gg0, gg1, fg0, fg1⟩ := HB7.out.g.cells
     obtain ⟨⟨x0, x1, x2, x3⟩, _, _⟩ := HB7.out.y.cells
     obtain ⟨⟨z0, z1, z2, z3⟩, ⟨fz0, fz1, fz2, fz3⟩, _⟩ := HB7.out.z.cells
     have hGl := HB7.out.g.lt
     have hZl := HB7.out.z.lt
     have hPl' := HB7.out.p.lt
     have hYl' := HB7.out.y.lt
     go_wp2_with fail
     go_region
     go_wp2_with fail
     obtain ⟨h1, h2⟩ := two_boxes (x0 := .slice ac pr.cells.length cc) (x1 := .slice ab pr.bodies.length cb) (c := .slice (some ⟨gc, 0, none⟩) s.cells.length ccap) (t := .slice (some ⟨g, 0, none⟩) s.tasks.length tcap) (l := .slice la s.log.length lc) (k := s.clock) HB7.out.g HB7.out.z (by omega)
     obtain ⟨e0, e1, _, _⟩ := h1.cells
     obtain ⟨⟨d0, d1, d2, d3⟩, _, _⟩ := h2.cells
     clear k0 k1 gg0 gg1 fg0 fg1 x0 x1 x2 x3 z0 z1 z2 z3 fz0 fz1 fz2 fz3 h1 h2
     refine bodyPost_ret (v := .tuple #[.agg #[.slice ac pr.cells.length cc, .slice ab pr.bodies.length cb], .agg #[.slice (some ⟨gc, 0, none⟩) s.cells.length ccap, .slice (some ⟨g, 0, none⟩) s.tasks.length tcap, .int .i64 (s.clock), .slice la s.log.length lc]]) (by simp [results, Try.results47, go_sem, e0, e1, d0, d1, d2, d3]) rfl ?_
     refine OffR.fin (s := setTk s k { tkN s k with way := x }) HB7.out hsO.out ?_ HOK.out HC1.out HOF.out (by omega) (by omega)
     exact ((((((FrS.refl _ _).setCell (p := ⟨w.heap.size, 0, none⟩) (.inl rfl) _).setCell (p := ⟨w.heap.size, 1, none⟩) (.inl rfl) _).setCell (p := ⟨w.heap.size + 1, 0, none⟩) (.inr rfl) _).setCell (p := ⟨w.heap.size + 1, 1, none⟩) (.inr rfl) _).setCell (p := ⟨w.heap.size + 1, 2, none⟩) (.inr rfl) _).setCell (p := ⟨w.heap.size + 1, 3, none⟩) (.inr rfl) _ |>.drew
   . go_simp
     refine (pick_any B R (p1 + 1 + 1 + 1) 5 _ (HRa.out _ ((Below.refl w5.heap.size w5).drew)) (by omega) (by omega) (by omega)).mono ?_
     rintro e w6 ⟨v6, rfl, v60, v61, hR6, hF6⟩
     obtain ⟨x, hx, hxl, hx0, hx1⟩ := tblA v6 v60 v61
     have HX6 : Hid (Fr R w5.heap.size w5 w6) := (Fr.of_below ((Below.refl w5.heap.size w5).drew)).trans (hF6.mono (by simp))
     have HR6 := (show Hid (RdAt _ _ _ _) from hR6)
     have hs6 := HX6.out.size
     clear hR6 hF6
     refine hK.out _ _ (fun _ => SM.out _ HX6.out) ?_
     clear hK
     (try simp only [Act.put, zq1, zq2, zq3])
     refine till_step (i := 3) rfl (by kernel_rfl) (fun K hK => ?_)
     go_simp
     have HX7 : Hid (Fr R w5.heap.size w5 (w6.alloc (.cells #[.int .i64 (-1), .int .i64 5, .int .i64 2, .int .i64 3, .int .i64 4] 3))) := HX6.out.trans (Fr.of_below ((Below.refl _ _).alloc hs6 _))
     refine hK.out _ _ (fun _ => SM.out _ HX7.out) ?_
     clear hK
     (try simp only [Act.put, zq1, zq2, zq3])
     have ex : (w6.alloc (.cells #[.int .i64 (-1), .int .i64 5, .int .i64 2, .int .i64 3, .int .i64 4] 3)).cell? ⟨w6.heap.size, v6.toNat, none⟩ = some (.int .i64 x) := by simpa [go_sem] using hx
     clear hx hxl
     refine till_step (i := 6) rfl (by kernel_rfl) (fun K hK => ?_)
     go_simp
     refine hK.out _ _ (fun _ => SM.out _ HX7.out) ?_
     clear hK
     (try simp only [Act.put, zq1, zq2, zq3])
     refine till_step (i := 7) rfl (by kernel_rfl) (fun K hK => ?_)
     go_simp
     refine hK.out _ _ (fun _ => SM.out _ HX7.out) ?_
     clear hK
     (try simp only [Act.put, zq1, zq2, zq3])
     refine till_take (i := 8) (v := (.pointer (some ⟨g, k * 13, none⟩))) rfl (by kernel_rfl) (fun _ _ _ h => h) (by rfl) ?_ (SM.out _ HX7.out) ?_
     . (intro w hSw; obtain ⟨q0, q1⟩ := hSw; go_simp)
     (try simp only [Act.put, zq1, zq2, zq3])
     refine till_take (i := 9) (v := (.pointer (some ⟨g, k * 13 + 4, none⟩))) rfl (by kernel_rfl) (fun _ _ _ h => h) (by rfl) ?_ (SM.out _ HX7.out) ?_
     . (intro w hSw; obtain ⟨q0, q1⟩ := hSw; go_simp)
     (try simp only [Act.put, zq1, zq2, zq3])
     have HB6 := (show Hid (SyBx _ _ _ _ _ _ _ _ _ _ _ _ _ _ _ _ _) from HB5.out.move HX6.out HR6.out)
     have HS6 := (show Hid (OwnS _ _ _ _ _ _) from HS5.out.ext (fun b hb hlt => HX6.out.block b hlt (by omega)))
     obtain ⟨ux, hux⟩ := HGT.out.2 (k * 13 + 4) (by omega)
     have X6 : w6.cell? ⟨g, k * 13 + 4, none⟩ = some ux := (HX6.out.cell hgl (by omega)).trans hux
     have Z6 : w6.frozen? ⟨g, k * 13 + 4, none⟩ = false := (HX6.out.frozen hgl (by omega)).trans (HGT.out.1 _)
     have hgl6 : g < w6.heap.size := by omega
     clear hux
     refine till_step (i := 10) rfl (by kernel_rfl) (fun K hK => ?_)
     go_simp
     refine hK.out _ _ (fun h => absurd rfl h) ?_
     clear hK
     refine till_done (by kernel_rfl) ?_ _
     clear X6 Z6 SM ex y0 y1 y2 y3 fy0 fy1 fy2 fy3
     go_wp2_with fail
     have HB7 : Hid (SyBx B R (w.heap.size + 1) V.heap.size D P Y (p1 + 1 + 1 + 1 + 1) w pr (.slice ac pr.cells.length cc) (.slice ab pr.bodies.length cb) (.slice (some ⟨gc, 0, none⟩) s.cells.length ccap) (.slice (some ⟨g, 0, none⟩) s.tasks.length tcap) (.slice la s.log.length lc) (s.clock) ((w6.setCell ⟨g, k * 13 + 4, none⟩ (.int .i64 x)).alloc (.cells #[.int .i64 (-1), .int .i64 5, .int .i64 2, .int .i64 3, .int .i64 4] 3))) := (HB6.out.set _ hgD hg1).alloc _
     have HO7 : Hid (SyOn (fun b => V.heap.size <= b) ((w6.setCell ⟨g, k * 13 + 4, none⟩ (.int .i64 x)).alloc (.cells #[.int .i64 (-1), .int .i64 5, .int .i64 2, .int .i64 3, .int .i64 4] 3)) (.slice (some ⟨gc, 0, none⟩) s.cells.length ccap) (.slice (some ⟨g, 0, none⟩) s.tasks.length tcap) (.slice la s.log.length lc) (setTk s k { tkN s k with way := x })) := (HS6.out.tkF (j := 4) (v := x) (t' := { tkN s k with way := x }) hk (by omega) (fun _ => rfl) rfl rfl rfl rfl).below ((Below.refl _ _).alloc (Nat.le_refl _) _) (Nat.le_refl _) |>.on.wide (fun b hb => by have : D <= b := hb; show V.heap.size <= b; omega)
     have HOF : Hid (Off pr (setTk s k { tkN s k with way := x })) := Off.tk HIX.out hk (rest_le rfl (.inr (.inl ⟨hx0, hx1⟩))) rfl (HIX.out.smt hk)
     clear HB6 HS6 HX6 HX7 HR6
     revert HB7 HO7
     generalize (w6.setCell ⟨g, k * 13 + 4, none⟩ (.int .i64 x)).alloc (.cells #[.int .i64 (-1), .int .i64 5, .int .i64 2, .int .i64 3, .int .i64 4] 3) = w7
     intro HB7 HO7
     have hsO := HO7
     obtain ⟨k0, k1, _, _⟩ := HB7.out.p.cells
     obtain ⟨gg0, gg1, fg0, fg1⟩ := HB7.out.g.cells
     obtain ⟨⟨x0, x1, x2, x3⟩, _, _⟩ := HB7.out.y.cells
     obtain ⟨⟨z0, z1, z2, z3⟩, ⟨fz0, fz1, fz2, fz3⟩, _⟩ := HB7.out.z.cells
     have hGl := HB7.out.g.lt
     have hZl := HB7.out.z.lt
     have hPl' := HB7.out.p.lt
     have hYl' := HB7.out.y.lt
     go_wp2_with fail
     go_region
     go_wp2_with fail
     obtain ⟨h1, h2⟩ := two_boxes (x0 := .slice ac pr.cells.length cc) (x1 := .slice ab pr.bodies.length cb) (c := .slice (some ⟨gc, 0, none⟩) s.cells.length ccap) (t := .slice (some ⟨g, 0, none⟩) s.tasks.length tcap) (l := .slice la s.log.length lc) (k := s.clock) HB7.out.g HB7.out.z (by omega)
     obtain ⟨e0, e1, _, _⟩ := h1.cells
     obtain ⟨⟨d0, d1, d2, d3⟩, _, _⟩ := h2.cells
     clear k0 k1 gg0 gg1 fg0 fg1 x0 x1 x2 x3 z0 z1 z2 z3 fz0 fz1 fz2 fz3 h1 h2
     refine bodyPost_ret (v := .tuple #[.agg #[.slice ac pr.cells.length cc, .slice ab pr.bodies.length cb], .agg #[.slice (some ⟨gc, 0, none⟩) s.cells.length ccap, .slice (some ⟨g, 0, none⟩) s.tasks.length tcap, .int .i64 (s.clock), .slice la s.log.length lc]]) (by simp [results, Try.results47, go_sem, e0, e1, d0, d1, d2, d3]) rfl ?_
     refine OffR.fin (s := setTk s k { tkN s k with way := x }) HB7.out hsO.out ?_ HOK.out HC1.out HOF.out (by omega) (by omega)
     exact ((((((FrS.refl _ _).setCell (p := ⟨w.heap.size, 0, none⟩) (.inl rfl) _).setCell (p := ⟨w.heap.size, 1, none⟩) (.inl rfl) _).setCell (p := ⟨w.heap.size + 1, 0, none⟩) (.inr rfl) _).setCell (p := ⟨w.heap.size + 1, 1, none⟩) (.inr rfl) _).setCell (p := ⟨w.heap.size + 1, 2, none⟩) (.inr rfl) _).setCell (p := ⟨w.heap.size + 1, 3, none⟩) (.inr rfl) _ |>.drew
 . subst hq
   have SM : Hid (∀ W : World, Fr R w5.heap.size w5 W -> W.cell? ⟨Y, 1, none⟩ = some (.slice (some ⟨g, 0, none⟩) s.tasks.length tcap) /\ W.cell? ⟨Y, 0, none⟩ = some (.slice (some ⟨gc, 0, none⟩) s.cells.length ccap)) := fun W hf => by
     have h2 := (HB5.out.y.heap (hf.block Y HB5.out.y.lt (by omega))).cells.1
     exact ⟨h2.2.1, h2.1⟩
   go_wp2_with fail
   refine till_begin (S := fun w' => w'.cell? ⟨Y, 1, none⟩ = some (.slice (some ⟨g, 0, none⟩) s.tasks.length tcap) /\ w'.cell? ⟨Y, 0, none⟩ = some (.slice (some ⟨gc, 0, none⟩) s.cells.length ccap)) (z := 7) (by kernel_rfl) ?_
   refine till_take (i := 0) (v := (.pointer (some ⟨Y, 1, none⟩))) rfl (by kernel_rfl) (fun _ _ _ h => h) (by rfl) ?_ (SM.out _ (Fr.of_below (Below.refl _ _).drew)) ?_
   . (intro w hSw; obtain ⟨q0, q1⟩ := hSw; go_simp)
   (try simp only [Act.put, zq1, zq2, zq3])
   refine till_take (i := 1) (v := (.slice (some ⟨g, 0, none⟩) s.tasks.length tcap)) rfl (by kernel_rfl) (fun _ _ _ h => h) (by rfl) ?_ (SM.out _ (Fr.of_below (Below.refl _ _).drew)) ?_
   . (intro w hSw; obtain ⟨q0, q1⟩ := hSw; go_simp)
   (try simp only [Act.put, zq1, zq2, zq3])
   refine till_take (i := 2) (v := (.int .i64 (k : Int))) rfl (by kernel_rfl) (fun _ _ _ h => h) (by rfl) ?_ (SM.out _ (Fr.of_below (Below.refl _ _).drew)) ?_
   . (intro w hSw; obtain ⟨q0, q1⟩ := hSw; go_simp)
   (try simp only [Act.put, zq1, zq2, zq3])
   refine till_take (i := 3) (v := (.pointer (some ⟨R, 0, none⟩))) rfl (by kernel_rfl) (fun _ _ _ h => h) (by rfl) ?_ (SM.out _ (Fr.of_below (Below.refl _ _).drew)) ?_
   . (intro w hSw; obtain ⟨q0, q1⟩ := hSw; go_simp)
   (try simp only [Act.put, zq1, zq2, zq3])
   refine till_step (i := 4) rfl (by kernel_rfl) (fun K hK => ?_)
   go_simp
   refine (pick_any B R (p1 + 1 + 1 + 1) 7 _ HRd.out (by omega) (by omega) (by omega)).mono ?_
   rintro e w6 ⟨v6, rfl, v60, v61, hR6, hF6⟩
   have HX6 : Hid (Fr R w5.heap.size w5 w6) := (Fr.of_below (Below.refl _ _).drew).trans hF6
   have HB6 := (show Hid (SyBx _ _ _ _ _ _ _ _ _ _ _ _ _ _ _ _ _) from HB5.out.move HX6.out hR6)
   have HS6 := (show Hid (OwnS _ _ _ _ _ _) from HS5.out.ext (fun b hb hlt => HX6.out.block b hlt (by omega)))
   have hs6 := HX6.out.size
   clear hR6 hF6
   refine hK.out _ _ (fun _ => SM.out _ HX6.out) ?_
   clear hK
   (try simp only [Act.put, zq1, zq2, zq3])
   refine till_take (i := 5) (v := (.pointer (some ⟨g, k * 13, none⟩))) rfl (by kernel_rfl) (fun _ _ _ h => h) (by rfl) ?_ (SM.out _ HX6.out) ?_
   . (intro w hSw; obtain ⟨q0, q1⟩ := hSw; go_simp)
   (try simp only [Act.put, zq1, zq2, zq3])
   refine till_take (i := 6) (v := (.pointer (some ⟨g, k * 13 + 5, none⟩))) rfl (by kernel_rfl) (fun _ _ _ h => h) (by rfl) ?_ (SM.out _ HX6.out) ?_
   . (intro w hSw; obtain ⟨q0, q1⟩ := hSw; go_simp)
   (try simp only [Act.put, zq1, zq2, zq3])
   obtain ⟨ux, hux⟩ := HGT.out.2 (k * 13 + 5) (by omega)
   have X6 : w6.cell? ⟨g, k * 13 + 5, none⟩ = some ux := (HX6.out.cell hgl (by omega)).trans hux
   have Z6 : w6.frozen? ⟨g, k * 13 + 5, none⟩ = false := (HX6.out.frozen hgl (by omega)).trans (HGT.out.1 _)
   clear hux
   refine till_step (i := 7) rfl (by kernel_rfl) (fun K hK => ?_)
   go_simp
   refine hK.out _ _ (fun h => absurd rfl h) ?_
   clear hK
   refine till_done (by kernel_rfl) ?_ _
   clear X6 Z6 SM y0 y1 y2 y3 fy0 fy1 fy2 fy3
   go_wp2_with fail
   have HB7 : Hid (SyBx B R (w.heap.size + 1) V.heap.size D P Y (p1 + 1 + 1 + 1 + 1) w pr (.slice ac pr.cells.length cc) (.slice ab pr.bodies.length cb) (.slice (some ⟨gc, 0, none⟩) s.cells.length ccap) (.slice (some ⟨g, 0, none⟩) s.tasks.length tcap) (.slice la s.log.length lc) (s.clock) (w6.setCell ⟨g, k * 13 + 5, none⟩ (.int .i64 v6))) := HB6.out.set _ hgD hg1
   have HO7 : Hid (SyOn (fun b => V.heap.size <= b) (w6.setCell ⟨g, k * 13 + 5, none⟩ (.int .i64 v6)) (.slice (some ⟨gc, 0, none⟩) s.cells.length ccap) (.slice (some ⟨g, 0, none⟩) s.tasks.length tcap) (.slice la s.log.length lc) (setTk s k { tkN s k with stage := v6 })) := ((HS6.out.tkF (j := 5) (v := v6) (t' := { tkN s k with stage := v6 }) hk (by omega) (fun _ => rfl) rfl rfl rfl rfl)).on.wide (fun b hb => by have : D <= b := hb; show V.heap.size <= b; omega)
   have HOF : Hid (Off pr (setTk s k { tkN s k with stage := v6 })) := Off.tk HIX.out hk (rest_le rfl (.inl ⟨rfl, Nat.le_refl _⟩)) rfl (HIX.out.smt hk)
   clear HB6 HS6 HX6
   revert HB7 HO7
   generalize w6.setCell ⟨g, k * 13 + 5, none⟩ (.int .i64 v6) = w7
   intro HB7 HO7
   have hsO := HO7
   obtain ⟨k0, k1, _, _⟩ := HB7.out.p.cells
   obtain ⟨gg0, gg1, fg0, fg1⟩ := HB7.out.g.cells
   obtain ⟨⟨x0, x1, x2, x3⟩, _, _⟩ := HB7.out.y.cells
   obtain ⟨⟨z0, z1, z2, z3⟩, ⟨fz0, fz1, fz2, fz3⟩, _⟩ := HB7.out.z.cells
   have hGl := HB7.out.g.lt
   have hZl := HB7.out.z.lt
   have hPl' := HB7.out.p.lt
   have hYl' := HB7.out.y.lt
   go_wp2_with fail
   go_region
   go_wp2_with fail
   obtain ⟨h1, h2⟩ := two_boxes (x0 := .slice ac pr.cells.length cc) (x1 := .slice ab pr.bodies.length cb) (c := .slice (some ⟨gc, 0, none⟩) s.cells.length ccap) (t := .slice (some ⟨g, 0, none⟩) s.tasks.length tcap) (l := .slice la s.log.length lc) (k := s.clock) HB7.out.g HB7.out.z (by omega)
   obtain ⟨e0, e1, _, _⟩ := h1.cells
   obtain ⟨⟨d0, d1, d2, d3⟩, _, _⟩ := h2.cells
   clear k0 k1 gg0 gg1 fg0 fg1 x0 x1 x2 x3 z0 z1 z2 z3 fz0 fz1 fz2 fz3 h1 h2
   refine bodyPost_ret (v := .tuple #[.agg #[.slice ac pr.cells.length cc, .slice ab pr.bodies.length cb], .agg #[.slice (some ⟨gc, 0, none⟩) s.cells.length ccap, .slice (some ⟨g, 0, none⟩) s.tasks.length tcap, .int .i64 (s.clock), .slice la s.log.length lc]]) (by simp [results, Try.results47, go_sem, e0, e1, d0, d1, d2, d3]) rfl ?_
   refine OffR.fin (s := setTk s k { tkN s k with stage := v6 }) HB7.out hsO.out ?_ HOK.out HC1.out HOF.out (by omega) (by omega)
   exact ((((((FrS.refl _ _).setCell (p := ⟨w.heap.size, 0, none⟩) (.inl rfl) _).setCell (p := ⟨w.heap.size, 1, none⟩) (.inl rfl) _).setCell (p := ⟨w.heap.size + 1, 0, none⟩) (.inr rfl) _).setCell (p := ⟨w.heap.size + 1, 1, none⟩) (.inr rfl) _).setCell (p := ⟨w.heap.size + 1, 2, none⟩) (.inr rfl) _).setCell (p := ⟨w.heap.size + 1, 3, none⟩) (.inr rfl) _ |>.drew
 . subst hq
   have SM : Hid (∀ W : World, Fr R w5.heap.size w5 W -> W.cell? ⟨Y, 1, none⟩ = some (.slice (some ⟨g, 0, none⟩) s.tasks.length tcap) /\ W.cell? ⟨Y, 0, none⟩ = some (.slice (some ⟨gc, 0, none⟩) s.cells.length ccap)) := fun W hf => by
     have h2 := (HB5.out.y.heap (hf.block Y HB5.out.y.lt (by omega))).cells.1
     exact ⟨h2.2.1, h2.1⟩
   go_wp2_with fail
   refine till_begin (S := fun w' => w'.cell? ⟨Y, 1, none⟩ = some (.slice (some ⟨g, 0, none⟩) s.tasks.length tcap) /\ w'.cell? ⟨Y, 0, none⟩ = some (.slice (some ⟨gc, 0, none⟩) s.cells.length ccap)) (z := 8) (by kernel_rfl) ?_
   refine till_take (i := 0) (v := (.pointer (some ⟨Y, 1, none⟩))) rfl (by kernel_rfl) (fun _ _ _ h => h) (by rfl) ?_ (SM.out _ (Fr.of_below (Below.refl _ _).drew)) ?_
   . (intro w hSw; obtain ⟨q0, q1⟩ := hSw; go_simp)
   (try simp only [Act.put, zq1, zq2, zq3])
   refine till_take (i := 1) (v := (.slice (some ⟨g, 0, none⟩) s.tasks.length tcap)) rfl (by kernel_rfl) (fun _ _ _ h => h) (by rfl) ?_ (SM.out _ (Fr.of_below (Below.refl _ _).drew)) ?_
   . (intro w hSw; obtain ⟨q0, q1⟩ := hSw; go_simp)
   (try simp only [Act.put, zq1, zq2, zq3])
   refine till_take (i := 2) (v := (.int .i64 (k : Int))) rfl (by kernel_rfl) (fun _ _ _ h => h) (by rfl) ?_ (SM.out _ (Fr.of_below (Below.refl _ _).drew)) ?_
   . (intro w hSw; obtain ⟨q0, q1⟩ := hSw; go_simp)
   (try simp only [Act.put, zq1, zq2, zq3])
   refine till_take (i := 3) (v := (.pointer (some ⟨R, 0, none⟩))) rfl (by kernel_rfl) (fun _ _ _ h => h) (by rfl) ?_ (SM.out _ (Fr.of_below (Below.refl _ _).drew)) ?_
   . (intro w hSw; obtain ⟨q0, q1⟩ := hSw; go_simp)
   (try simp only [Act.put, zq1, zq2, zq3])
   refine till_step (i := 4) rfl (by kernel_rfl) (fun K hK => ?_)
   go_simp
   refine (pick_any B R (p1 + 1 + 1 + 1) 5 _ HRd.out (by omega) (by omega) (by omega)).mono ?_
   rintro e w6 ⟨v6, rfl, v60, v61, hR6, hF6⟩
   have HX6 : Hid (Fr R w5.heap.size w5 w6) := (Fr.of_below (Below.refl _ _).drew).trans hF6
   have HB6 := (show Hid (SyBx _ _ _ _ _ _ _ _ _ _ _ _ _ _ _ _ _) from HB5.out.move HX6.out hR6)
   have HS6 := (show Hid (OwnS _ _ _ _ _ _) from HS5.out.ext (fun b hb hlt => HX6.out.block b hlt (by omega)))
   have hs6 := HX6.out.size
   clear hR6 hF6
   have hwv : IntKind.i64.wrap (v6 - 1) = v6 - 1 := by rw [IntKind.wrap_i64]; omega
   refine hK.out _ _ (fun _ => SM.out _ HX6.out) ?_
   clear hK
   (try simp only [Act.put, zq1, zq2, zq3])
   refine till_take (i := 5) (v := (.int .i64 (v6 - 1))) rfl (by kernel_rfl) (fun _ _ _ h => h) (by rfl) ?_ (SM.out _ HX6.out) ?_
   . (intro w hSw; go_simp)
   (try simp only [Act.put, zq1, zq2, zq3])
   refine till_take (i := 6) (v := (.pointer (some ⟨g, k * 13, none⟩))) rfl (by kernel_rfl) (fun _ _ _ h => h) (by rfl) ?_ (SM.out _ HX6.out) ?_
   . (intro w hSw; obtain ⟨q0, q1⟩ := hSw; go_simp)
   (try simp only [Act.put, zq1, zq2, zq3])
   refine till_take (i := 7) (v := (.pointer (some ⟨g, k * 13 + 2, none⟩))) rfl (by kernel_rfl) (fun _ _ _ h => h) (by rfl) ?_ (SM.out _ HX6.out) ?_
   . (intro w hSw; obtain ⟨q0, q1⟩ := hSw; go_simp)
   (try simp only [Act.put, zq1, zq2, zq3])
   obtain ⟨ux, hux⟩ := HGT.out.2 (k * 13 + 2) (by omega)
   have X6 : w6.cell? ⟨g, k * 13 + 2, none⟩ = some ux := (HX6.out.cell hgl (by omega)).trans hux
   have Z6 : w6.frozen? ⟨g, k * 13 + 2, none⟩ = false := (HX6.out.frozen hgl (by omega)).trans (HGT.out.1 _)
   clear hux
   refine till_step (i := 8) rfl (by kernel_rfl) (fun K hK => ?_)
   go_simp
   refine hK.out _ _ (fun h => absurd rfl h) ?_
   clear hK
   refine till_done (by kernel_rfl) ?_ _
   clear X6 Z6 SM y0 y1 y2 y3 fy0 fy1 fy2 fy3
   go_wp2_with fail
   have HB7 : Hid (SyBx B R (w.heap.size + 1) V.heap.size D P Y (p1 + 1 + 1 + 1 + 1) w pr (.slice ac pr.cells.length cc) (.slice ab pr.bodies.length cb) (.slice (some ⟨gc, 0, none⟩) s.cells.length ccap) (.slice (some ⟨g, 0, none⟩) s.tasks.length tcap) (.slice la s.log.length lc) (s.clock) (w6.setCell ⟨g, k * 13 + 2, none⟩ (.int .i64 (v6 - 1)))) := HB6.out.set _ hgD hg1
   have HO7 : Hid (SyOn (fun b => V.heap.size <= b) (w6.setCell ⟨g, k * 13 + 2, none⟩ (.int .i64 (v6 - 1))) (.slice (some ⟨gc, 0, none⟩) s.cells.length ccap) (.slice (some ⟨g, 0, none⟩) s.tasks.length tcap) (.slice la s.log.length lc) (setTk s k { tkN s k with up := v6 - 1 })) := ((HS6.out.tkF (j := 2) (v := v6 - 1) (t' := { tkN s k with up := v6 - 1 }) hk (by omega) (fun _ => rfl) rfl rfl rfl rfl)).on.wide (fun b hb => by have : D <= b := hb; show V.heap.size <= b; omega)
   have HOF : Hid (Off pr (setTk s k { tkN s k with up := v6 - 1 })) := Off.tk HIX.out hk (rest_le rfl (.inl ⟨rfl, Nat.le_refl _⟩)) rfl (HIX.out.smt hk)
   clear HB6 HS6 HX6
   revert HB7 HO7
   generalize w6.setCell ⟨g, k * 13 + 2, none⟩ (.int .i64 (v6 - 1)) = w7
   intro HB7 HO7
   have hsO := HO7
   obtain ⟨k0, k1, _, _⟩ := HB7.out.p.cells
   obtain ⟨gg0, gg1, fg0, fg1⟩ := HB7.out.g.cells
   obtain ⟨⟨x0, x1, x2, x3⟩, _, _⟩ := HB7.out.y.cells
   obtain ⟨⟨z0, z1, z2, z3⟩, ⟨fz0, fz1, fz2, fz3⟩, _⟩ := HB7.out.z.cells
   have hGl := HB7.out.g.lt
   have hZl := HB7.out.z.lt
   have hPl' := HB7.out.p.lt
   have hYl' := HB7.out.y.lt
   go_wp2_with fail
   go_region
   go_wp2_with fail
   obtain ⟨h1, h2⟩ := two_boxes (x0 := .slice ac pr.cells.length cc) (x1 := .slice ab pr.bodies.length cb) (c := .slice (some ⟨gc, 0, none⟩) s.cells.length ccap) (t := .slice (some ⟨g, 0, none⟩) s.tasks.length tcap) (l := .slice la s.log.length lc) (k := s.clock) HB7.out.g HB7.out.z (by omega)
   obtain ⟨e0, e1, _, _⟩ := h1.cells
   obtain ⟨⟨d0, d1, d2, d3⟩, _, _⟩ := h2.cells
   clear k0 k1 gg0 gg1 fg0 fg1 x0 x1 x2 x3 z0 z1 z2 z3 fz0 fz1 fz2 fz3 h1 h2
   refine bodyPost_ret (v := .tuple #[.agg #[.slice ac pr.cells.length cc, .slice ab pr.bodies.length cb], .agg #[.slice (some ⟨gc, 0, none⟩) s.cells.length ccap, .slice (some ⟨g, 0, none⟩) s.tasks.length tcap, .int .i64 (s.clock), .slice la s.log.length lc]]) (by simp [results, Try.results47, go_sem, e0, e1, d0, d1, d2, d3]) rfl ?_
   refine OffR.fin (s := setTk s k { tkN s k with up := v6 - 1 }) HB7.out hsO.out ?_ HOK.out HC1.out HOF.out (by omega) (by omega)
   exact ((((((FrS.refl _ _).setCell (p := ⟨w.heap.size, 0, none⟩) (.inl rfl) _).setCell (p := ⟨w.heap.size, 1, none⟩) (.inl rfl) _).setCell (p := ⟨w.heap.size + 1, 0, none⟩) (.inr rfl) _).setCell (p := ⟨w.heap.size + 1, 1, none⟩) (.inr rfl) _).setCell (p := ⟨w.heap.size + 1, 2, none⟩) (.inr rfl) _).setCell (p := ⟨w.heap.size + 1, 3, none⟩) (.inr rfl) _ |>.drew
 . subst hq
   have hwr2 : IntKind.i64.wrap ((s.tasks.length : Int) + 2) = (s.tasks.length : Int) + 2 := by rw [IntKind.wrap_i64]; omega
   have SM : Hid (∀ W : World, Fr R w5.heap.size w5 W -> W.cell? ⟨Y, 1, none⟩ = some (.slice (some ⟨g, 0, none⟩) s.tasks.length tcap) /\ W.cell? ⟨Y, 0, none⟩ = some (.slice (some ⟨gc, 0, none⟩) s.cells.length ccap)) := fun W hf => by
     have h2 := (HB5.out.y.heap (hf.block Y HB5.out.y.lt (by omega))).cells.1
     exact ⟨h2.2.1, h2.1⟩
   go_wp2_with fail
   refine till_begin (S := fun w' => w'.cell? ⟨Y, 1, none⟩ = some (.slice (some ⟨g, 0, none⟩) s.tasks.length tcap) /\ w'.cell? ⟨Y, 0, none⟩ = some (.slice (some ⟨gc, 0, none⟩) s.cells.length ccap)) (z := 11) (by kernel_rfl) ?_
   refine till_take (i := 0) (v := (.pointer (some ⟨Y, 0, none⟩))) rfl (by kernel_rfl) (fun _ _ _ h => h) (by rfl) ?_ (SM.out _ (Fr.of_below (Below.refl _ _).drew)) ?_
   . (intro w hSw; obtain ⟨q0, q1⟩ := hSw; go_simp)
   (try simp only [Act.put, zq1, zq2, zq3])
   refine till_take (i := 1) (v := (.slice (some ⟨gc, 0, none⟩) s.cells.length ccap)) rfl (by kernel_rfl) (fun _ _ _ h => h) (by rfl) ?_ (SM.out _ (Fr.of_below (Below.refl _ _).drew)) ?_
   . (intro w hSw; obtain ⟨q0, q1⟩ := hSw; go_simp)
   (try simp only [Act.put, zq1, zq2, zq3])
   refine till_take (i := 2) (v := (.pointer (some ⟨R, 0, none⟩))) rfl (by kernel_rfl) (fun _ _ _ h => h) (by rfl) ?_ (SM.out _ (Fr.of_below (Below.refl _ _).drew)) ?_
   . (intro w hSw; obtain ⟨q0, q1⟩ := hSw; go_simp)
   (try simp only [Act.put, zq1, zq2, zq3])
   refine till_take (i := 3) (v := (.pointer (some ⟨Y, 1, none⟩))) rfl (by kernel_rfl) (fun _ _ _ h => h) (by rfl) ?_ (SM.out _ (Fr.of_below (Below.refl _ _).drew)) ?_
   . (intro w hSw; obtain ⟨q0, q1⟩ := hSw; go_simp)
   (try simp only [Act.put, zq1, zq2, zq3])
   refine till_take (i := 4) (v := (.slice (some ⟨g, 0, none⟩) s.tasks.length tcap)) rfl (by kernel_rfl) (fun _ _ _ h => h) (by rfl) ?_ (SM.out _ (Fr.of_below (Below.refl _ _).drew)) ?_
   . (intro w hSw; obtain ⟨q0, q1⟩ := hSw; go_simp)
   (try simp only [Act.put, zq1, zq2, zq3])
   refine till_take (i := 5) (v := (.int .i64 (s.tasks.length : Int))) rfl (by kernel_rfl) (fun _ _ _ h => h) (by rfl) ?_ (SM.out _ (Fr.of_below (Below.refl _ _).drew)) ?_
   . (intro w hSw; obtain ⟨q0, q1⟩ := hSw; go_simp)
   (try simp only [Act.put, zq1, zq2, zq3])
   refine till_take (i := 6) (v := (.int .i64 ((s.tasks.length : Int) + 2))) rfl (by kernel_rfl) (fun _ _ _ h => h) (by rfl) ?_ (SM.out _ (Fr.of_below (Below.refl _ _).drew)) ?_
   . (intro w hSw; obtain ⟨q0, q1⟩ := hSw; go_simp)
   (try simp only [Act.put, zq1, zq2, zq3])
   refine till_step (i := 7) rfl (by kernel_rfl) (fun K hK => ?_)
   go_simp
   refine (pick_any B R (p1 + 1 + 1 + 1) ((s.tasks.length : Int) + 2) _ HRd.out (by omega) (by omega) (by omega)).mono ?_
   rintro e w6 ⟨v6, rfl, v60, v61, hR6, hF6⟩
   have HX6 : Hid (Fr R w5.heap.size w5 w6) := (Fr.of_below (Below.refl _ _).drew).trans hF6
   have HB6 := (show Hid (SyBx _ _ _ _ _ _ _ _ _ _ _ _ _ _ _ _ _) from HB5.out.move HX6.out hR6)
   have HS6 := (show Hid (OwnS _ _ _ _ _ _) from HS5.out.ext (fun b hb hlt => HX6.out.block b hlt (by omega)))
   have hs6 := HX6.out.size
   clear hR6 hF6
   have hwv : IntKind.i64.wrap (v6 - 1) = v6 - 1 := by rw [IntKind.wrap_i64]; omega
   refine hK.out _ _ (fun _ => SM.out _ HX6.out) ?_
   clear hK
   (try simp only [Act.put, zq1, zq2, zq3])
   refine till_take (i := 8) (v := (.int .i64 (v6 - 1))) rfl (by kernel_rfl) (fun _ _ _ h => h) (by rfl) ?_ (SM.out _ HX6.out) ?_
   . (intro w hSw; obtain ⟨q0, q1⟩ := hSw; go_simp)
   (try simp only [Act.put, zq1, zq2, zq3])
   refine till_take (i := 9) (v := (.pointer (some ⟨gc, 0, none⟩))) rfl (by kernel_rfl) (fun _ _ _ h => h) (by rfl) ?_ (SM.out _ HX6.out) ?_
   . (intro w hSw; obtain ⟨q0, q1⟩ := hSw; go_simp)
   (try simp only [Act.put, zq1, zq2, zq3])
   refine till_take (i := 10) (v := (.pointer (some ⟨gc, 2, none⟩))) rfl (by kernel_rfl) (fun _ _ _ h => h) (by rfl) ?_ (SM.out _ HX6.out) ?_
   . (intro w hSw; obtain ⟨q0, q1⟩ := hSw; go_simp)
   (try simp only [Act.put, zq1, zq2, zq3])
   obtain ⟨ux, hux⟩ := HGC.out.2 2 (by omega)
   have X6 : w6.cell? ⟨gc, 2, none⟩ = some ux := (HX6.out.cell hgcl (by omega)).trans hux
   have Z6 : w6.frozen? ⟨gc, 2, none⟩ = false := (HX6.out.frozen hgcl (by omega)).trans (HGC.out.1 _)
   clear hux
   refine till_step (i := 11) rfl (by kernel_rfl) (fun K hK => ?_)
   go_simp
   refine hK.out _ _ (fun h => absurd rfl h) ?_
   clear hK
   refine till_done (by kernel_rfl) ?_ _
   clear X6 Z6 SM y0 y1 y2 y3 fy0 fy1 fy2 fy3
   go_wp2_with fail
   have HB7 : Hid (SyBx B R (w.heap.size + 1) V.heap.size D P Y (p1 + 1 + 1 + 1 + 1) w pr (.slice ac pr.cells.length cc) (.slice ab pr.bodies.length cb) (.slice (some ⟨gc, 0, none⟩) s.cells.length ccap) (.slice (some ⟨g, 0, none⟩) s.tasks.length tcap) (.slice la s.log.length lc) (s.clock) (w6.setCell ⟨gc, 2, none⟩ (.int .i64 (v6 - 1)))) := HB6.out.set _ hcD hcg1
   have HO7 : Hid (SyOn (fun b => V.heap.size <= b) (w6.setCell ⟨gc, 2, none⟩ (.int .i64 (v6 - 1))) (.slice (some ⟨gc, 0, none⟩) s.cells.length ccap) (.slice (some ⟨g, 0, none⟩) s.tasks.length tcap) (.slice la s.log.length lc) ({ s with cells := s.cells.set 0 { nth Ce.z s.cells 0 with lock := v6 - 1 } })) := (HS6.out.ceF (v := v6 - 1) hcl).on.wide (fun b hb => by have : D <= b := hb; show V.heap.size <= b; omega)
   have HOF : Hid (Off pr ({ s with cells := s.cells.set 0 { nth Ce.z s.cells 0 with lock := v6 - 1 } })) := Off.of HIX.out rfl rfl (by simp) (Lq.cells pr s _ s.clock) (fun i hi => HIX.out.smt hi)
   clear HB6 HS6 HX6
   revert HB7 HO7
   generalize w6.setCell ⟨gc, 2, none⟩ (.int .i64 (v6 - 1)) = w7
   intro HB7 HO7
   have hsO := HO7
   obtain ⟨k0, k1, _, _⟩ := HB7.out.p.cells
   obtain ⟨gg0, gg1, fg0, fg1⟩ := HB7.out.g.cells
   obtain ⟨⟨x0, x1, x2, x3⟩, _, _⟩ := HB7.out.y.cells
   obtain ⟨⟨z0, z1, z2, z3⟩, ⟨fz0, fz1, fz2, fz3⟩, _⟩ := HB7.out.z.cells
   have hGl := HB7.out.g.lt
   have hZl := HB7.out.z.lt
   have hPl' := HB7.out.p.lt
   have hYl' := HB7.out.y.lt
   go_wp2_with fail
   go_region
   go_wp2_with fail
   obtain ⟨h1, h2⟩ := two_boxes (x0 := .slice ac pr.cells.length cc) (x1 := .slice ab pr.bodies.length cb) (c := .slice (some ⟨gc, 0, none⟩) s.cells.length ccap) (t := .slice (some ⟨g, 0, none⟩) s.tasks.length tcap) (l := .slice la s.log.length lc) (k := s.clock) HB7.out.g HB7.out.z (by omega)
   obtain ⟨e0, e1, _, _⟩ := h1.cells
   obtain ⟨⟨d0, d1, d2, d3⟩, _, _⟩ := h2.cells
   clear k0 k1 gg0 gg1 fg0 fg1 x0 x1 x2 x3 z0 z1 z2 z3 fz0 fz1 fz2 fz3 h1 h2
   refine bodyPost_ret (v := .tuple #[.agg #[.slice ac pr.cells.length cc, .slice ab pr.bodies.length cb], .agg #[.slice (some ⟨gc, 0, none⟩) s.cells.length ccap, .slice (some ⟨g, 0, none⟩) s.tasks.length tcap, .int .i64 (s.clock), .slice la s.log.length lc]]) (by simp [results, Try.results47, go_sem, e0, e1, d0, d1, d2, d3]) rfl ?_
   refine OffR.fin (s := { s with cells := s.cells.set 0 { nth Ce.z s.cells 0 with lock := v6 - 1 } }) HB7.out hsO.out ?_ HOK.out HC1.out HOF.out (by omega) (by omega)
   exact ((((((FrS.refl _ _).setCell (p := ⟨w.heap.size, 0, none⟩) (.inl rfl) _).setCell (p := ⟨w.heap.size, 1, none⟩) (.inl rfl) _).setCell (p := ⟨w.heap.size + 1, 0, none⟩) (.inr rfl) _).setCell (p := ⟨w.heap.size + 1, 1, none⟩) (.inr rfl) _).setCell (p := ⟨w.heap.size + 1, 2, none⟩) (.inr rfl) _).setCell (p := ⟨w.heap.size + 1, 3, none⟩) (.inr rfl) _ |>.drew
 . subst hq
   have hwr2 : IntKind.i64.wrap (s.clock + 1) = s.clock + 1 := by rw [IntKind.wrap_i64]; omega
   have HX6 : Hid (Fr R w5.heap.size w5 w5) := Fr.refl _ _ _
   have HB6 := HB5
   have HS6 := HS5
   obtain ⟨ux, hux⟩ := HGT.out.2 (k * 13 + 7) (by omega)
   have Z6 : w5.frozen? ⟨g, k * 13 + 7, none⟩ = false := HGT.out.1 _
   go_wp2_with fail
   clear y0 y1 y2 y3 fy0 fy1 fy2 fy3 hux Z6
   have HB7 : Hid (SyBx B R (w.heap.size + 1) V.heap.size D P Y (p1 + 1 + 1 + 1) w pr (.slice ac pr.cells.length cc) (.slice ab pr.bodies.length cb) (.slice (some ⟨gc, 0, none⟩) s.cells.length ccap) (.slice (some ⟨g, 0, none⟩) s.tasks.length tcap) (.slice la s.log.length lc) (s.clock) (w5.setCell ⟨g, k * 13 + 7, none⟩ (.int .i64 (s.clock + 1)))) := HB6.out.set _ hgD hg1
   have HO7 : Hid (SyOn (fun b => V.heap.size <= b) (w5.setCell ⟨g, k * 13 + 7, none⟩ (.int .i64 (s.clock + 1))) (.slice (some ⟨gc, 0, none⟩) s.cells.length ccap) (.slice (some ⟨g, 0, none⟩) s.tasks.length tcap) (.slice la s.log.length lc) (setTk s k { tkN s k with since := s.clock + 1 })) := ((HS6.out.tkF (j := 7) (v := s.clock + 1) (t' := { tkN s k with since := s.clock + 1 }) hk (by omega) (fun _ => rfl) rfl rfl rfl rfl)).on.wide (fun b hb => by have : D <= b := hb; show V.heap.size <= b; omega)
   have HOF : Hid (Off pr (setTk s k { tkN s k with since := s.clock + 1 })) := Off.tk HIX.out hk (rest_le rfl (.inl ⟨rfl, Nat.le_refl _⟩)) rfl (HIX.out.smt hk)
   clear HB6 HS6 HX6
   revert HB7 HO7
   generalize w5.setCell ⟨g, k * 13 + 7, none⟩ (.int .i64 (s.clock + 1)) = w7
   intro HB7 HO7
   have hsO := HO7
   obtain ⟨k0, k1, _, _⟩ := HB7.out.p.cells
   obtain ⟨gg0, gg1, fg0, fg1⟩ := HB7.out.g.cells
   obtain ⟨⟨x0, x1, x2, x3⟩, _, _⟩ := HB7.out.y.cells
   obtain ⟨⟨z0, z1, z2, z3⟩, ⟨fz0, fz1, fz2, fz3⟩, _⟩ := HB7.out.z.cells
   have hGl := HB7.out.g.lt
   have hZl := HB7.out.z.lt
   have hPl' := HB7.out.p.lt
   have hYl' := HB7.out.y.lt
   go_wp2_with fail
   go_region
   go_wp2_with fail
   obtain ⟨h1, h2⟩ := two_boxes (x0 := .slice ac pr.cells.length cc) (x1 := .slice ab pr.bodies.length cb) (c := .slice (some ⟨gc, 0, none⟩) s.cells.length ccap) (t := .slice (some ⟨g, 0, none⟩) s.tasks.length tcap) (l := .slice la s.log.length lc) (k := s.clock) HB7.out.g HB7.out.z (by omega)
   obtain ⟨e0, e1, _, _⟩ := h1.cells
   obtain ⟨⟨d0, d1, d2, d3⟩, _, _⟩ := h2.cells
   clear k0 k1 gg0 gg1 fg0 fg1 x0 x1 x2 x3 z0 z1 z2 z3 fz0 fz1 fz2 fz3 h1 h2
   refine bodyPost_ret (v := .tuple #[.agg #[.slice ac pr.cells.length cc, .slice ab pr.bodies.length cb], .agg #[.slice (some ⟨gc, 0, none⟩) s.cells.length ccap, .slice (some ⟨g, 0, none⟩) s.tasks.length tcap, .int .i64 (s.clock), .slice la s.log.length lc]]) (by simp [results, Try.results47, go_sem, e0, e1, d0, d1, d2, d3]) rfl ?_
   refine OffR.fin (s := setTk s k { tkN s k with since := s.clock + 1 }) HB7.out hsO.out ?_ HOK.out HC1.out HOF.out (by omega) (by omega)
   exact ((((((FrS.refl _ _).setCell (p := ⟨w.heap.size, 0, none⟩) (.inl rfl) _).setCell (p := ⟨w.heap.size, 1, none⟩) (.inl rfl) _).setCell (p := ⟨w.heap.size + 1, 0, none⟩) (.inr rfl) _).setCell (p := ⟨w.heap.size + 1, 1, none⟩) (.inr rfl) _).setCell (p := ⟨w.heap.size + 1, 2, none⟩) (.inr rfl) _).setCell (p := ⟨w.heap.size + 1, 3, none⟩) (.inr rfl) _ |>.drew
 . subst hq
   obtain ⟨f, T, L, hO, hT, hL⟩ := HS5.out
   have hTl : T.length = s.tasks.length := by rw [<- hT]; simp
   have hkT : k < T.length := by omega
   have ek : (nth TT.z T k).1 = tkN s k := by unfold tkN; rw [<- hT]; exact (map_nth (·.1) TT.z Ta.z T k hkT).symm
   have hu := (hO.ti k hkT).u
   rw [ek] at hu
   obtain ⟨ua, uc, eu, _⟩ := own_shape hu.1
   have hp3 : (tkN s k).puts.length <= 3 := by
     have h1 := puB_len (HIX.out.w.i.np.t k hk).puts
     have h2 := (ok_sizes HOK.out).1
     omega
   have hcu : w5.cell? ⟨g, k * 13 + 10, none⟩ = some (.slice ua (tkN s k).puts.length uc) := by
     obtain ⟨g', cap', e', _, _, _, _, _, h6, _⟩ := row_cells hO.t (by omega) (by omega)
     injection e' with e1
     injection e1 with e1
     injection e1 with e1
     subst e1
     rw [h6 _ (by rw [flat_len 13 taC taC_len]; have : (k + 1) * 13 <= T.length * 13 := Nat.mul_le_mul_right _ hkT; omega), flat_at 13 taC taC_len TT.z 10 (by omega) T k hkT, <- eu]
     rfl
   have hug : (Value.slice ua (tkN s k).puts.length uc).ownBlock ≠ some g := fun e => by
     rw [<- eu] at e
     have h1 := hu.2 g e
     rw [hO.t.2 g rfl] at h1
     cases h1
   have huY : (Value.slice ua (tkN s k).puts.length uc).ownBlock ≠ some Y := by rw [<- eu]; exact own_ne_box hu.1 HB5.out.y (by decide)
   have huP : (Value.slice ua (tkN s k).puts.length uc).ownBlock ≠ some P := by rw [<- eu]; exact own_ne_box hu.1 HB5.out.p (by decide)
   have huD : ∀ b, (Value.slice ua (tkN s k).puts.length uc).ownBlock = some b -> D <= b /\ b < w5.heap.size /\ f b = .u k := fun b e => by
     rw [<- eu] at e
     exact ⟨(hu.1.lt b e).1, (hu.1.lt b e).2, hu.2 b e⟩
   have HU : Hid (World.ownsRow w5 D 52 2 (.slice ua (tkN s k).puts.length uc) (tkN s k).puts.length ((tkN s k).puts.flatMap puC)) := by unfold Hid; rw [<- eu]; exact hu.1
   have HO5 := (show Hid (OwnSy _ _ _ _ _ _ _ _ _) from hO)
   have HM5 := (show Hid (_ /\ _ /\ _) from ⟨hT, hL, ek⟩)
   have HUD := (show Hid (∀ b, _) from huD)
   have hug' := (show Hid (_ ≠ _) from hug)
   have huY' := (show Hid (_ ≠ _) from huY)
   have huP' := (show Hid (_ ≠ _) from huP)
   clear hO hT hL ek hu eu hug huY huP huD
   obtain ⟨i0, hi0, hz0, hz1, hz2⟩ := info_parts (P := Try.prog) (e := 52) (z := .agg #[.int .i64 0, .int .i64 0]) (size := 2) (bytes := 16) (by kernel_rfl)
   have SM : Hid (∀ W : World, (∀ b, b < w5.heap.size -> b ≠ R -> (Value.slice ua (tkN s k).puts.length uc).ownBlock ≠ some b -> W.heap[b]? = w5.heap[b]?) -> W.cell? ⟨Y, 1, none⟩ = some (.slice (some ⟨g, 0, none⟩) s.tasks.length tcap) /\ W.cell? ⟨g, k * 13 + 10, none⟩ = some (.slice ua (tkN s k).puts.length uc)) := fun W hb => by
     have c1 : W.cell? ⟨Y, 1, none⟩ = w5.cell? ⟨Y, 1, none⟩ := World.cell?_of_block (hb Y hYl (by omega) huY'.out)
     have c2 : W.cell? ⟨g, k * 13 + 10, none⟩ = w5.cell? ⟨g, k * 13 + 10, none⟩ := World.cell?_of_block (hb g hgl (by omega) hug'.out)
     rw [c1, c2]
     exact ⟨y1, hcu⟩
   go_wp2_with fail
   refine till_begin (S := fun w' => w'.cell? ⟨Y, 1, none⟩ = some (.slice (some ⟨g, 0, none⟩) s.tasks.length tcap) /\ w'.cell? ⟨g, k * 13 + 10, none⟩ = some (.slice ua (tkN s k).puts.length uc)) (z := 16) (by kernel_rfl) ?_
   refine till_take (i := 0) (v := (.pointer (some ⟨Y, 1, none⟩))) rfl (by kernel_rfl) (fun _ _ _ h => h) (by rfl) ?_ (SM.out _ (fun b hb _ _ => rfl)) ?_
   . (intro w hSw; obtain ⟨q0, q1⟩ := hSw; go_simp)
   (try simp only [Act.put, zq1, zq2, zq3])
   refine till_take (i := 1) (v := (.slice (some ⟨g, 0, none⟩) s.tasks.length tcap)) rfl (by kernel_rfl) (fun _ _ _ h => h) (by rfl) ?_ (SM.out _ (fun b hb _ _ => rfl)) ?_
   . (intro w hSw; obtain ⟨q0, q1⟩ := hSw; go_simp)
   (try simp only [Act.put, zq1, zq2, zq3])
   refine till_take (i := 2) (v := (.int .i64 (k : Int))) rfl (by kernel_rfl) (fun _ _ _ h => h) (by rfl) ?_ (SM.out _ (fun b hb _ _ => rfl)) ?_
   . (intro w hSw; obtain ⟨q0, q1⟩ := hSw; go_simp)
   (try simp only [Act.put, zq1, zq2, zq3])
   refine till_take (i := 3) (v := (.pointer (some ⟨Y, 1, none⟩))) rfl (by kernel_rfl) (fun _ _ _ h => h) (by rfl) ?_ (SM.out _ (fun b hb _ _ => rfl)) ?_
   . (intro w hSw; obtain ⟨q0, q1⟩ := hSw; go_simp)
   (try simp only [Act.put, zq1, zq2, zq3])
   refine till_take (i := 4) (v := (.slice (some ⟨g, 0, none⟩) s.tasks.length tcap)) rfl (by kernel_rfl) (fun _ _ _ h => h) (by rfl) ?_ (SM.out _ (fun b hb _ _ => rfl)) ?_
   . (intro w hSw; obtain ⟨q0, q1⟩ := hSw; go_simp)
   (try simp only [Act.put, zq1, zq2, zq3])
   refine till_take (i := 5) (v := (.int .i64 (k : Int))) rfl (by kernel_rfl) (fun _ _ _ h => h) (by rfl) ?_ (SM.out _ (fun b hb _ _ => rfl)) ?_
   . (intro w hSw; obtain ⟨q0, q1⟩ := hSw; go_simp)
   (try simp only [Act.put, zq1, zq2, zq3])
   refine till_take (i := 6) (v := (.pointer (some ⟨g, k * 13, none⟩))) rfl (by kernel_rfl) (fun _ _ _ h => h) (by rfl) ?_ (SM.out _ (fun b hb _ _ => rfl)) ?_
   . (intro w hSw; obtain ⟨q0, q1⟩ := hSw; go_simp)
   (try simp only [Act.put, zq1, zq2, zq3])
   refine till_take (i := 7) (v := (.pointer (some ⟨g, k * 13 + 10, none⟩))) rfl (by kernel_rfl) (fun _ _ _ h => h) (by rfl) ?_ (SM.out _ (fun b hb _ _ => rfl)) ?_
   . (intro w hSw; obtain ⟨q0, q1⟩ := hSw; go_simp)
   (try simp only [Act.put, zq1, zq2, zq3])
   refine till_take (i := 8) (v := (.slice ua (tkN s k).puts.length uc)) rfl (by kernel_rfl) (fun _ _ _ h => h) (by rfl) ?_ (SM.out _ (fun b hb _ _ => rfl)) ?_
   . (intro w hSw; obtain ⟨q0, q1⟩ := hSw; go_simp)
   (try simp only [Act.put, zq1, zq2, zq3])
   refine till_take (i := 9) (v := (.pointer (some ⟨R, 0, none⟩))) rfl (by kernel_rfl) (fun _ _ _ h => h) (by rfl) ?_ (SM.out _ (fun b hb _ _ => rfl)) ?_
   . (intro w hSw; obtain ⟨q0, q1⟩ := hSw; go_simp)
   (try simp only [Act.put, zq1, zq2, zq3])
   refine till_step (i := 10) rfl (by kernel_rfl) (fun K hK => ?_)
   go_simp
   refine (pick_any B R (p1 + 1 + 1 + 1) 5 _ HRd.out (by omega) (by omega) (by omega)).mono ?_
   rintro e w6 ⟨v6, rfl, v60, v61, hR6, hF6⟩
   have HX6 : Hid (Fr R w5.heap.size w5 w6) := (Fr.of_below (Below.refl _ _).drew).trans hF6
   have HB6 := (show Hid (SyBx _ _ _ _ _ _ _ _ _ _ _ _ _ _ _ _ _) from HB5.out.move HX6.out hR6)
   have HS6 := (show Hid (OwnS _ _ _ _ _ _) from HS5.out.ext (fun b hb hlt => HX6.out.block b hlt (by omega)))
   have hs6 := HX6.out.size
   clear hR6 hF6
   refine hK.out _ _ (fun _ => SM.out _ (fun b hb hr _ => HX6.out.block b hb hr)) ?_
   clear hK
   (try simp only [Act.put, zq1, zq2, zq3])
   refine till_take (i := 11) (v := (.agg #[.int .i64 v6, .int .i64 0])) rfl (by kernel_rfl) (fun _ _ _ h => h) (by rfl) ?_ (SM.out _ (fun b hb hr _ => HX6.out.block b hb hr)) ?_
   . (intro w hSw; obtain ⟨q0, q1⟩ := hSw; go_simp)
   (try simp only [Act.put, zq1, zq2, zq3])
   refine till_step (i := 12) rfl (by kernel_rfl) (fun K hK => ?_)
   go_simp
   have HX7 : Hid (Fr R w5.heap.size w5 (w6.alloc (.cells #[.int .i64 v6, .int .i64 0] 52))) := HX6.out.trans (Fr.of_below ((Below.refl _ _).alloc hs6 _))
   refine hK.out _ _ (fun _ => SM.out _ (fun b hb hr _ => HX7.out.block b hb hr)) ?_
   clear hK
   (try simp only [Act.put, zq1, zq2, zq3])
   refine till_step (i := 13) rfl (by kernel_rfl) (fun K hK => ?_)
   have HTW : World.ownsRow (w6.alloc (.cells #[.int .i64 v6, .int .i64 0] 52)) D 52 2 (.slice ua (tkN s k).puts.length uc) (tkN s k).puts.length ((tkN s k).puts.flatMap puC) := row_heap HU.out (fun b hb => HX7.out.block b (HUD.out b hb).2.1 (by have := (HUD.out b hb).1; omega))
   refine step_append_lies _ (by rfl) _ _ 53 (by rfl) D 52 i0 (.agg #[.int .i64 0, .int .i64 0]) 2 16 Try.underlying53 hi0 hz0 hz1 hz2 rfl (by omega) _ (tkN s k).puts.length ((tkN s k).puts.flatMap puC) (by rfl) HTW ⟨w6.heap.size, 0, none⟩ 1 1 [.int .i64 v6, .int .i64 0] (by rfl) rfl (cells_new w6 [.int .i64 v6, .int .i64 0] _) (by intro u hu; simp at hu; rcases hu with rfl | rfl <;> rfl) (by omega) (by unfold maxLen; omega) (by omega) (by simp; omega) _ (by rfl) ?_
   intro g3 cap3 w8 hown3 hgrow hat3 hlt3
   clear HTW
   have HO3 := (show Hid (World.ownsRow _ _ _ _ _ _ _) from hown3)
   have HG3 := (show Hid (World.grownBy _ _ _) from hgrow)
   have HA3 := (show Hid (_ \/ _) from hat3)
   have hs7 : w6.heap.size + 1 <= w8.heap.size := by have := hgrow.size; simpa using this
   have HNL : Hid (∀ b, b < w5.heap.size -> b ≠ R -> (Value.slice ua (tkN s k).puts.length uc).ownBlock ≠ some b -> w8.heap[b]? = w5.heap[b]?) := fun b hb hr hne => (HG3.out.block b (by simp; omega) (fun e => hne e.symm)).trans (HX7.out.block b hb hr)
   clear hown3 hgrow hat3
   refine hK.out _ _ (fun _ => SM.out _ HNL.out) ?_
   clear hK
   (try simp only [Act.put, zq1, zq2, zq3])
   refine till_take (i := 14) (v := (.pointer (some ⟨g, k * 13, none⟩))) rfl (by kernel_rfl) (fun _ _ _ h => h) (by rfl) ?_ (SM.out _ HNL.out) ?_
   . (intro w hSw; obtain ⟨q0, q1⟩ := hSw; go_simp)
   (try simp only [Act.put, zq1, zq2, zq3])
   refine till_take (i := 15) (v := (.pointer (some ⟨g, k * 13 + 10, none⟩))) rfl (by kernel_rfl) (fun _ _ _ h => h) (by rfl) ?_ (SM.out _ HNL.out) ?_
   . (intro w hSw; obtain ⟨q0, q1⟩ := hSw; go_simp)
   (try simp only [Act.put, zq1, zq2, zq3])
   have X6 := (SM.out _ HNL.out).2
   have Z6 : w8.frozen? ⟨g, k * 13 + 10, none⟩ = false := by rw [World.frozen?_of_block (HNL.out g hgl (by omega) hug'.out)]; exact HGT.out.1 _
   have hgl8 : g < w8.heap.size := by omega
   refine till_step (i := 16) rfl (by kernel_rfl) (fun K hK => ?_)
   go_simp
   refine hK.out _ _ (fun h => absurd rfl h) ?_
   clear hK
   refine till_done (by kernel_rfl) ?_ _
   clear X6 Z6 SM hcu y0 y1 y2 y3 fy0 fy1 fy2 fy3
   go_wp2_with fail
   have HF8 : Hid (FrS (fun b => b = R \/ (D <= b /\ b ≠ P /\ b ≠ Y)) w5 (w8.setCell ⟨g, k * 13 + 10, none⟩ (.slice (some ⟨g3, 0, none⟩) ((tkN s k).puts.length + 1) cap3))) := by
     refine FrS.setCell ?_ (.inr ⟨hgD, by show g ≠ P; omega, by show g ≠ Y; omega⟩) _
     refine ⟨HG3.out.os.trans HX7.out.os, HG3.out.tape.trans HX7.out.tape, HG3.out.output.trans HX7.out.output, by omega, fun b hb hS => ?_⟩
     refine HNL.out b hb (fun e => hS (.inl e)) (fun e => hS (.inr ⟨(HUD.out b e).1, fun q => huP'.out (by rw [<- q]; exact e), fun q => huY'.out (by rw [<- q]; exact e)⟩))
   have HR8 : Hid (RdAt B (w8.setCell ⟨g, k * 13 + 10, none⟩ (.slice (some ⟨g3, 0, none⟩) ((tkN s k).puts.length + 1) cap3)) R (p1 + 1 + 1 + 1 + 1)) := by
     have h0 := HB6.out.rd
     refine h0.below (Below.setCell ?_ (by show B <= g; omega) _)
     exact ((Below.refl B w6).alloc (by omega) _).trans (grown_below HG3.out (fun b e => by have := (HUD.out b e).1; omega) (by simp; omega))
   have HB7 : Hid (SyBx B R (w.heap.size + 1) V.heap.size D P Y (p1 + 1 + 1 + 1 + 1) w pr (.slice ac pr.cells.length cc) (.slice ab pr.bodies.length cb) (.slice (some ⟨gc, 0, none⟩) s.cells.length ccap) (.slice (some ⟨g, 0, none⟩) s.tasks.length tcap) (.slice la s.log.length lc) (s.clock) (w8.setCell ⟨g, k * 13 + 10, none⟩ (.slice (some ⟨g3, 0, none⟩) ((tkN s k).puts.length + 1) cap3))) := HB6.out.frs HB5.out HF8.out HR8.out
   have HO7 : Hid (SyOn (fun b => V.heap.size <= b) (w8.setCell ⟨g, k * 13 + 10, none⟩ (.slice (some ⟨g3, 0, none⟩) ((tkN s k).puts.length + 1) cap3)) (.slice (some ⟨gc, 0, none⟩) s.cells.length ccap) (.slice (some ⟨g, 0, none⟩) s.tasks.length tcap) (.slice la s.log.length lc) (setTk s k { tkN s k with puts := (tkN s k).puts ++ [⟨v6, 0⟩] })) := by
     have ek := HM5.out.2.2
     have h1 := HO5.out.newU (f' := fun b => if b < w5.heap.size then f b else .u k) (w2 := w8) (v' := .slice (some ⟨g3, 0, none⟩) ((tkN s k).puts.length + 1) cap3) hkT ⟨v6, 0⟩ (fun b _ hb => if_pos hb) (fun b hb1 hb2 hne => HNL.out b hb2 (by omega) (fun e => hne (HUD.out b e).2.2)) ⟨by rw [ek]; exact HO3.out, fun b hb => by
       injection hb with hb
       subst hb
       rcases HA3.out with e | e
       . have h2 := HUD.out g3 (by first | rw [e] | (rw [e]; rfl))
         show (if g3 < w5.heap.size then f g3 else _) = _
         rw [if_pos h2.2.1]
         exact h2.2.2
       . show (if g3 < w5.heap.size then f g3 else _) = _
         rw [if_neg (by first | omega | (simp at e; omega))]⟩
     refine (OwnS.on (B := D) (s := setTk s k { tkN s k with puts := (tkN s k).puts ++ [⟨v6, 0⟩] }) ⟨_, _, _, h1, ?_, HM5.out.2.1⟩).wide (fun b hb => by have : D <= b := hb; show V.heap.size <= b; omega)
     rw [List.map_set, HM5.out.1, ek]
     rfl
   have HOF : Hid (Off pr (setTk s k { tkN s k with puts := (tkN s k).puts ++ [⟨v6, 0⟩] })) := Off.tk HIX.out hk (rest_le rfl (.inl ⟨rfl, Nat.le_refl _⟩)) rfl (by have h1 := HIX.out.smt hk; refine ⟨h1.1, h1.2.1, h1.2.2.1, ?_⟩; show ((tkN s k).puts ++ [_]).length <= 1048576; simp; omega)
   clear HB6 HS6 HX6 HX7 HF8 HR8 HG3 HO3 HA3 HNL
   revert HB7 HO7
   generalize w8.setCell ⟨g, k * 13 + 10, none⟩ (.slice (some ⟨g3, 0, none⟩) ((tkN s k).puts.length + 1) cap3) = w7
   intro HB7 HO7
   have hsO := HO7
   obtain ⟨k0, k1, _, _⟩ := HB7.out.p.cells
   obtain ⟨gg0, gg1, fg0, fg1⟩ := HB7.out.g.cells
   obtain ⟨⟨x0, x1, x2, x3⟩, _, _⟩ := HB7.out.y.cells
   obtain ⟨⟨z0, z1, z2, z3⟩, ⟨fz0, fz1, fz2, fz3⟩, _⟩ := HB7.out.z.cells
   have hGl := HB7.out.g.lt
   have hZl := HB7.out.z.lt
   have hPl' := HB7.out.p.lt
   have hYl' := HB7.out.y.lt
   go_wp2_with fail
   go_region
   go_wp2_with fail
   obtain ⟨h1, h2⟩ := two_boxes (x0 := .slice ac pr.cells.length cc) (x1 := .slice ab pr.bodies.length cb) (c := .slice (some ⟨gc, 0, none⟩) s.cells.length ccap) (t := .slice (some ⟨g, 0, none⟩) s.tasks.length tcap) (l := .slice la s.log.length lc) (k := s.clock) HB7.out.g HB7.out.z (by omega)
   obtain ⟨e0, e1, _, _⟩ := h1.cells
   obtain ⟨⟨d0, d1, d2, d3⟩, _, _⟩ := h2.cells
   clear k0 k1 gg0 gg1 fg0 fg1 x0 x1 x2 x3 z0 z1 z2 z3 fz0 fz1 fz2 fz3 h1 h2
   refine bodyPost_ret (v := .tuple #[.agg #[.slice ac pr.cells.length cc, .slice ab pr.bodies.length cb], .agg #[.slice (some ⟨gc, 0, none⟩) s.cells.length ccap, .slice (some ⟨g, 0, none⟩) s.tasks.length tcap, .int .i64 (s.clock), .slice la s.log.length lc]]) (by simp [results, Try.results47, go_sem, e0, e1, d0, d1, d2, d3]) rfl ?_
   refine OffR.fin (s := setTk s k { tkN s k with puts := (tkN s k).puts ++ [⟨v6, 0⟩] }) HB7.out hsO.out ?_ HOK.out HC1.out HOF.out (by omega) (by omega)
   exact ((((((FrS.refl _ _).setCell (p := ⟨w.heap.size, 0, none⟩) (.inl rfl) _).setCell (p := ⟨w.heap.size, 1, none⟩) (.inl rfl) _).setCell (p := ⟨w.heap.size + 1, 0, none⟩) (.inr rfl) _).setCell (p := ⟨w.heap.size + 1, 1, none⟩) (.inr rfl) _).setCell (p := ⟨w.heap.size + 1, 2, none⟩) (.inr rfl) _).setCell (p := ⟨w.heap.size + 1, 3, none⟩) (.inr rfl) _ |>.drew
 . subst hq
   go_wp2_with fail
   . have HB7 : Hid (SyBx B R (w.heap.size + 1) V.heap.size D P Y (p1 + 1 + 1 + 1) w pr (.slice ac pr.cells.length cc) (.slice ab pr.bodies.length cb) (.slice (some ⟨gc, 0, none⟩) (s.cells.length - 1) 0) (.slice (some ⟨g, 0, none⟩) s.tasks.length tcap) (.slice la s.log.length lc) (s.clock) (w5.setCell ⟨Y, 0, none⟩ (.slice (some ⟨gc, 0, none⟩) (s.cells.length - 1) 0))) := HB5.out.setY (by unfold SBox; rw [heap_setCell_same w5 Y 0 _ _ _ HB5.out.y]; rfl)
     have HO7 : Hid (SyOn (fun b => V.heap.size <= b) (w5.setCell ⟨Y, 0, none⟩ (.slice (some ⟨gc, 0, none⟩) (s.cells.length - 1) 0)) (.slice (some ⟨gc, 0, none⟩) (s.cells.length - 1) 0) (.slice (some ⟨g, 0, none⟩) s.tasks.length tcap) (.slice la s.log.length lc) ({ s with cells := s.cells.drop 1 })) := (let h := (HS5.out.tag (TagKept.set HB5.out.y)).on.wide (fun b hb => by have : D <= b := hb; show V.heap.size <= b; omega); ⟨h.1.tail1 hcl (by assumption), h.2.1, h.2.2⟩)
     have HOF : Hid (Off pr ({ s with cells := s.cells.drop 1 })) := Off.of HIX.out rfl rfl (by simp) (Lq.cells pr s _ s.clock) (fun i hi => HIX.out.smt hi)
     clear y0 y1 y2 y3 fy0 fy1 fy2 fy3
     revert HB7 HO7
     generalize w5.setCell ⟨Y, 0, none⟩ (.slice (some ⟨gc, 0, none⟩) (s.cells.length - 1) 0) = w7
     intro HB7 HO7
     have hsO := HO7
     obtain ⟨k0, k1, _, _⟩ := HB7.out.p.cells
     obtain ⟨gg0, gg1, fg0, fg1⟩ := HB7.out.g.cells
     obtain ⟨⟨x0, x1, x2, x3⟩, _, _⟩ := HB7.out.y.cells
     obtain ⟨⟨z0, z1, z2, z3⟩, ⟨fz0, fz1, fz2, fz3⟩, _⟩ := HB7.out.z.cells
     have hGl := HB7.out.g.lt
     have hZl := HB7.out.z.lt
     have hPl' := HB7.out.p.lt
     have hYl' := HB7.out.y.lt
     go_wp2_with fail
     go_region
     go_wp2_with fail
     obtain ⟨h1, h2⟩ := two_boxes (x0 := .slice ac pr.cells.length cc) (x1 := .slice ab pr.bodies.length cb) (c := .slice (some ⟨gc, 0, none⟩) (s.cells.length - 1) 0) (t := .slice (some ⟨g, 0, none⟩) s.tasks.length tcap) (l := .slice la s.log.length lc) (k := s.clock) HB7.out.g HB7.out.z (by omega)
     obtain ⟨e0, e1, _, _⟩ := h1.cells
     obtain ⟨⟨d0, d1, d2, d3⟩, _, _⟩ := h2.cells
     clear k0 k1 gg0 gg1 fg0 fg1 x0 x1 x2 x3 z0 z1 z2 z3 fz0 fz1 fz2 fz3 h1 h2
     refine bodyPost_ret (v := .tuple #[.agg #[.slice ac pr.cells.length cc, .slice ab pr.bodies.length cb], .agg #[.slice (some ⟨gc, 0, none⟩) (s.cells.length - 1) 0, .slice (some ⟨g, 0, none⟩) s.tasks.length tcap, .int .i64 (s.clock), .slice la s.log.length lc]]) (by simp [results, Try.results47, go_sem, e0, e1, d0, d1, d2, d3]) rfl ?_
     refine OffR.fin (s := { s with cells := s.cells.drop 1 }) HB7.out hsO.out ?_ HOK.out HC1.out HOF.out (by omega) (by omega)
     exact ((((((FrS.refl _ _).setCell (p := ⟨w.heap.size, 0, none⟩) (.inl rfl) _).setCell (p := ⟨w.heap.size, 1, none⟩) (.inl rfl) _).setCell (p := ⟨w.heap.size + 1, 0, none⟩) (.inr rfl) _).setCell (p := ⟨w.heap.size + 1, 1, none⟩) (.inr rfl) _).setCell (p := ⟨w.heap.size + 1, 2, none⟩) (.inr rfl) _).setCell (p := ⟨w.heap.size + 1, 3, none⟩) (.inr rfl) _ |>.drew
   . have HB7 : Hid (SyBx B R (w.heap.size + 1) V.heap.size D P Y (p1 + 1 + 1 + 1) w pr (.slice ac pr.cells.length cc) (.slice ab pr.bodies.length cb) (.slice (some ⟨gc, 3, none⟩) (s.cells.length - 1) (ccap - 1)) (.slice (some ⟨g, 0, none⟩) s.tasks.length tcap) (.slice la s.log.length lc) (s.clock) (w5.setCell ⟨Y, 0, none⟩ (.slice (some ⟨gc, 3, none⟩) (s.cells.length - 1) (ccap - 1)))) := HB5.out.setY (by unfold SBox; rw [heap_setCell_same w5 Y 0 _ _ _ HB5.out.y]; rfl)
     have HO7 : Hid (SyOn (fun b => V.heap.size <= b) (w5.setCell ⟨Y, 0, none⟩ (.slice (some ⟨gc, 3, none⟩) (s.cells.length - 1) (ccap - 1))) (.slice (some ⟨gc, 3, none⟩) (s.cells.length - 1) (ccap - 1)) (.slice (some ⟨g, 0, none⟩) s.tasks.length tcap) (.slice la s.log.length lc) ({ s with cells := s.cells.drop 1 })) := (let h := (HS5.out.tag (TagKept.set HB5.out.y)).on.wide (fun b hb => by have : D <= b := hb; show V.heap.size <= b; omega); ⟨h.1.tail hcl, h.2.1, h.2.2⟩)
     have HOF : Hid (Off pr ({ s with cells := s.cells.drop 1 })) := Off.of HIX.out rfl rfl (by simp) (Lq.cells pr s _ s.clock) (fun i hi => HIX.out.smt hi)
     clear y0 y1 y2 y3 fy0 fy1 fy2 fy3
     revert HB7 HO7
     generalize w5.setCell ⟨Y, 0, none⟩ (.slice (some ⟨gc, 3, none⟩) (s.cells.length - 1) (ccap - 1)) = w7
     intro HB7 HO7
     have hsO := HO7
     obtain ⟨k0, k1, _, _⟩ := HB7.out.p.cells
     obtain ⟨gg0, gg1, fg0, fg1⟩ := HB7.out.g.cells
     obtain ⟨⟨x0, x1, x2, x3⟩, _, _⟩ := HB7.out.y.cells
     obtain ⟨⟨z0, z1, z2, z3⟩, ⟨fz0, fz1, fz2, fz3⟩, _⟩ := HB7.out.z.cells
     have hGl := HB7.out.g.lt
     have hZl := HB7.out.z.lt
     have hPl' := HB7.out.p.lt
     have hYl' := HB7.out.y.lt
     go_wp2_with fail
     go_region
     go_wp2_with fail
     obtain ⟨h1, h2⟩ := two_boxes (x0 := .slice ac pr.cells.length cc) (x1 := .slice ab pr.bodies.length cb) (c := .slice (some ⟨gc, 3, none⟩) (s.cells.length - 1) (ccap - 1)) (t := .slice (some ⟨g, 0, none⟩) s.tasks.length tcap) (l := .slice la s.log.length lc) (k := s.clock) HB7.out.g HB7.out.z (by omega)
     obtain ⟨e0, e1, _, _⟩ := h1.cells
     obtain ⟨⟨d0, d1, d2, d3⟩, _, _⟩ := h2.cells
     clear k0 k1 gg0 gg1 fg0 fg1 x0 x1 x2 x3 z0 z1 z2 z3 fz0 fz1 fz2 fz3 h1 h2
     refine bodyPost_ret (v := .tuple #[.agg #[.slice ac pr.cells.length cc, .slice ab pr.bodies.length cb], .agg #[.slice (some ⟨gc, 3, none⟩) (s.cells.length - 1) (ccap - 1), .slice (some ⟨g, 0, none⟩) s.tasks.length tcap, .int .i64 (s.clock), .slice la s.log.length lc]]) (by simp [results, Try.results47, go_sem, e0, e1, d0, d1, d2, d3]) rfl ?_
     refine OffR.fin (s := { s with cells := s.cells.drop 1 }) HB7.out hsO.out ?_ HOK.out HC1.out HOF.out (by omega) (by omega)
     exact ((((((FrS.refl _ _).setCell (p := ⟨w.heap.size, 0, none⟩) (.inl rfl) _).setCell (p := ⟨w.heap.size, 1, none⟩) (.inl rfl) _).setCell (p := ⟨w.heap.size + 1, 0, none⟩) (.inr rfl) _).setCell (p := ⟨w.heap.size + 1, 1, none⟩) (.inr rfl) _).setCell (p := ⟨w.heap.size + 1, 2, none⟩) (.inr rfl) _).setCell (p := ⟨w.heap.size + 1, 3, none⟩) (.inr rfl) _ |>.drew
end Go.Proofs.Ytgbgjljflgbcaaa
