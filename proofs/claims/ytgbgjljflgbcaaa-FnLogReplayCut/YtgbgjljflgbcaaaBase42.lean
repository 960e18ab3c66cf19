import Derived.Test.YtgbgjljflgbcaaaBase40
import Derived.Test.YtgbgjljflgbcaaaBase41
namespace Go.Proofs.Ytgbgjljflgbcaaa
open Go.RowKit
set_option linter.unusedSimpArgs false
set_option linter.unusedVariables false
set_option maxRecDepth 20000
def OwnL (B : Nat) (w : World) (lv : Value) (L : List En) : Prop := ∃ f cv tv cs T LL, OwnSy f B w cv tv lv cs T LL ∧ LL.map (·.1) = L
theorem OwnL.ext {B : Nat} {w w' : World} {lv : Value} {L : List En} (h : OwnL B w lv L) (hk : ∀ g, B ≤ g → g < w.heap.size → w'.heap[g]? = w.heap[g]?) : OwnL B w' lv L := by
  obtain ⟨f, cv, tv, cs, T, LL, h, hL⟩ := h
  exact ⟨f, cv, tv, cs, T, LL, h.ext (fun _ _ _ => rfl) hk, hL⟩
theorem OwnL.of {B : Nat} {w : World} {cv tv lv : Value} {s : Sy} (h : OwnS B w cv tv lv s) : OwnL B w lv s.log := by
  obtain ⟨f, T, L, h, hT, hL⟩ := h
  exact ⟨f, cv, tv, s.cells, T, L, h, hL⟩
theorem OwnL.nil (B : Nat) (w : World) : OwnL B w (.slice none 0 0) [] := OwnL.of (OwnS.nil B w)
theorem OwnL.on {B : Nat} {w : World} {lv : Value} {L : List En} (h : OwnL B w lv L) : EnsOn (fun b => B ≤ b) w lv L := by
  obtain ⟨f, cv, tv, cs, T, LL, h, hL⟩ := h
  have := h.ensOn
  rw [hL] at this
  exact this
theorem OwnL.set0 {B : Nat} {w : World} {g n cap : Nat} {L : List En} (h : OwnL B w (.slice (some ⟨g, 0, none⟩) n cap) L) (h0 : 0 < L.length) (v : Int) :
    OwnL B (w.setCell ⟨g, 2, none⟩ (.int .i64 v)) (.slice (some ⟨g, 0, none⟩) n cap) (L.set 0 { nth En.z L 0 with when_ := v }) := by
  obtain ⟨f, cv, tv, cs, T, LL, h, hL⟩ := h
  have hl : LL.length = L.length := by rw [← hL]; simp
  have e0 : (nth EE.z LL 0).1 = nth En.z L 0 := by rw [← hL]; exact (map_nth (·.1) EE.z En.z LL 0 (by omega)).symm
  have hg : f g = .l := h.l.2 g rfl
  have hn : n = LL.length := by obtain ⟨a, c, e, _⟩ := own_shape h.l.1; injection e
  have K : ∀ k, f k ≠ .l → (w.setCell ⟨g, 2, none⟩ (.int .i64 v)).heap[k]? = w.heap[k]? := fun k hk => heap_set_ne w _ _ k (by intro e; simp at e; subst e; exact hk hg)
  refine ⟨f, cv, tv, cs, T, LL.set 0 ({ (nth EE.z LL 0).1 with when_ := v }, (nth EE.z LL 0).2), ⟨h.c.move (fun _ _ _ e => e) fun k _ _ e => K k (by rw [e]; simp), h.t.move (fun _ _ _ e => e) fun k _ _ e => K k (by rw [e]; simp), ?_, fun k hk => (h.ti k hk).move (fun _ _ _ => rfl) fun b _ _ e => K b (by rcases e with e | e | e | e <;> rw [e] <;> simp), fun k hk => ?_⟩, ?_⟩
  · subst hn
    refine ⟨?_, h.l.2⟩
    rw [List.length_set, ← flat_set 6 enC enC_len EE.z 2 (by omega) (.int .i64 v) ({ (nth EE.z LL 0).1 with when_ := v }, (nth EE.z LL 0).2) LL 0 (by omega) rfl]
    simpa using (h.l.1.stored 2 (.int .i64 v)).1
  · rw [List.length_set] at hk
    have M : ∀ x', EIn f B w k x' → EIn f B (w.setCell ⟨g, 2, none⟩ (.int .i64 v)) k x' := fun x' hx => hx.move (fun _ _ _ => rfl) fun b _ _ e => K b (by rcases e with e | e <;> rw [e] <;> simp)
    have h1 : nth EE.z (LL.set 0 ({ (nth EE.z LL 0).1 with when_ := v }, (nth EE.z LL 0).2)) k = if 0 = k then ({ (nth EE.z LL 0).1 with when_ := v }, (nth EE.z LL 0).2) else nth EE.z LL k := nth_set' EE.z LL 0 k _ (by omega)
    rw [h1]
    by_cases e : 0 = k
    · subst e
      rw [if_pos rfl]
      exact M _ ⟨(h.li 0 hk).d, (h.li 0 hk).u⟩
    · rw [if_neg e]
      exact M _ (h.li k hk)
  · rw [List.map_set, hL, e0]
theorem OwnL.block {B : Nat} {w : World} {lv : Value} {L : List En} (h : OwnL B w lv L) (h0 : 0 < L.length) : ∃ g cap, lv = .slice (some ⟨g, 0, none⟩) L.length cap ∧ B ≤ g ∧ g < w.heap.size ∧ (∀ o, w.frozen? ⟨g, o, none⟩ = false) ∧ ∀ i, i < L.length → w.cell? ⟨g, i * 6 + 2, none⟩ = some (.int .i64 (nth En.z L i).when_) := by
  obtain ⟨f, cv, tv, cs, T, LL, h, hL⟩ := h
  have hl : LL.length = L.length := by rw [← hL]; simp
  obtain ⟨g, cap, e, h1, h2, h3, h4, h5, h6, h7⟩ := row_cells h.l (by omega) (by omega)
  refine ⟨g, cap, by rw [e, hl], h1, h2, h7, fun i hi => ?_⟩
  rw [h6 _ (by rw [flat_len 6 enC enC_len]; have : (i + 1) * 6 ≤ LL.length * 6 := Nat.mul_le_mul_right _ (by omega); omega), flat_at 6 enC enC_len EE.z 2 (by omega) LL i (by omega)]
  have e0 : (nth EE.z LL i).1 = nth En.z L i := by rw [← hL]; exact (map_nth (·.1) EE.z En.z LL i (by omega)).symm
  rw [← e0]
  rfl
structure LoB (B R P C D q : Nat) (w : World) (pr : Pr) (cv bv : Value) (wx : World) : Prop where
  g : PBox wx w.heap.size (.slice none 0 0) (.slice none 0 0)
  p : PBox wx P cv bv
  pr : PrS (fun b => C ≤ b ∧ b < D) wx cv bv pr
  rd : RdAt B wx R q
  fr : Fr R w.heap.size w wx
  od : R < B ∧ B ≤ w.heap.size ∧ w.heap.size < C ∧ C ≤ D ∧ D ≤ P
theorem LoB.move {B R P C D q q' : Nat} {w wx W : World} {pr : Pr} {cv bv : Value} (h : LoB B R P C D q w pr cv bv wx) (hf : Fr R wx.heap.size wx W) (hr : RdAt B W R q') : LoB B R P C D q' w pr cv bv W := by
  have ho := h.od
  have hs := h.fr.size
  exact ⟨h.g.heap (hf.block _ h.g.lt (by omega)), h.p.heap (hf.block _ h.p.lt (by omega)), h.pr.kept ⟨hf.size, fun b o hb hlt => hf.cell hlt (by have hb : C ≤ b ∧ b < D := hb; omega)⟩, hr, h.fr.trans (hf.mono hs), ho⟩
theorem LoB.bel {B R P C D q : Nat} {w wx W : World} {pr : Pr} {cv bv : Value} (h : LoB B R P C D q w pr cv bv wx) (hf : Below wx.heap.size wx W) : LoB B R P C D q w pr cv bv W := h.move (Fr.of_below hf) (h.rd.below (hf.mono h.rd.le))
theorem LoB.set {B R P C D q : Nat} {w wx : World} {pr : Pr} {cv bv : Value} (h : LoB B R P C D q w pr cv bv wx) {g o : Nat} (v : Value) (hg : P < g) : LoB B R P C D q w pr cv bv (wx.setCell ⟨g, o, none⟩ v) := by
  have ho := h.od
  exact ⟨h.g.heap (heap_set_ne _ _ _ _ (by show w.heap.size ≠ g; omega)), h.p.heap (heap_set_ne _ _ _ _ (by show P ≠ g; omega)), h.pr.kept (Kept.set _ _ _ _ (fun hb => by have hb : C ≤ g ∧ g < D := hb; omega)), h.rd.below ((Below.refl _ _).setCell (by show B ≤ g; omega) _), h.fr.setCell (.inl (by show w.heap.size ≤ g; omega)) _, ho⟩
def L28 (L : List En) : Prop := L.length ≤ 28 ∧ ∀ e, e ∈ L → SmEn e
theorem L28.sms {L : List En} (h : L28 L) : SmsEn L := ⟨by have := h.1; omega, fun j hj => h.2 _ (nth_mem En.z L j hj)⟩
theorem L28.set {L : List En} (h : L28 L) (h0 : 0 < L.length) (v : Int) : L28 (L.set 0 { nth En.z L 0 with when_ := v }) := by
  refine ⟨by rw [List.length_set]; exact h.1, fun e he => ?_⟩
  rcases List.mem_or_eq_of_mem_set he with he | he
  · exact h.2 e he
  · subst he
    have h1 := h.2 _ (nth_mem En.z L 0 h0)
    exact ⟨h1.1, h1.2⟩
def LogD (B R p hi : Nat) (w : World) (e : Ending) (w' : World) : Prop :=
  ∃ (pr : Pr) (L : List En) (cv bv lv : Value) (p' : Nat), e = .returned (.tuple #[.agg #[cv, bv], lv]) ∧ PrS (fun b => w.heap.size ≤ b) w' cv bv pr ∧ EnsOn (fun b => w.heap.size ≤ b) w' lv L ∧ L28 L ∧ okB pr = true ∧ 1 ≤ pr.cells.length ∧ p ≤ p' ∧ p' ≤ p + hi ∧ RdAt B w' R p' ∧ Fr R w.heap.size w w'
theorem LogD.fin {B R P C D q p hi C2 : Nat} {w wx : World} {pr : Pr} {cv bv lv x0 x1 : Value} {L : List En} (h : LoB B R P C D q w pr cv bv wx) (hl : OwnL C2 wx lv L) (hC2 : P < C2) (hL : L28 L) (hok : okB pr = true) (hc1 : 1 ≤ pr.cells.length) (h1 : p ≤ q) (h2 : q ≤ p + hi) :
    LogD B R p hi w (.returned (.tuple #[.agg #[cv, bv], lv])) ((wx.setCell ⟨w.heap.size, 0, none⟩ x0).setCell ⟨w.heap.size, 1, none⟩ x1) := by
  have ho := h.od
  have hn0 : ¬ (fun b => C ≤ b ∧ b < D) w.heap.size := fun e => by have e : C ≤ w.heap.size ∧ w.heap.size < D := e; omega
  have hn1 : ¬ (fun b => C2 ≤ b) w.heap.size := by show ¬ C2 ≤ w.heap.size; omega
  refine ⟨pr, L, cv, bv, lv, q, rfl, ((h.pr.kept (Kept.set _ _ _ _ hn0)).kept (Kept.set _ _ _ _ hn0)).wide (fun b hb => by have : C ≤ b ∧ b < D := hb; show w.heap.size ≤ b; omega), ((hl.on.kept (Kept.set _ _ _ _ hn1)).kept (Kept.set _ _ _ _ hn1)).wide (fun b hb => by have : C2 ≤ b := hb; show w.heap.size ≤ b; omega), hL, hok, hc1, h1, h2, h.rd.below (((Below.refl _ _).setCell (by show B ≤ w.heap.size; omega) _).setCell (by show B ≤ w.heap.size; omega) _), (h.fr.setCell (.inl (Nat.le_refl _)) _).setCell (.inl (Nat.le_refl _)) _⟩
set_option maxHeartbeats 8000000 in
theorem l71Log_any (B R p : Nat) (w : World) (h : RdAt B w R p) (hp : p ≤ 350000) :
    Calls Try.prog 56 #[.pointer (some ⟨R, 0, none⟩)] w (LogD B R p 20010 w) := by
  have hlt := h.lt
  have hle := h.le
  have HY : Hid (∃ V, V = w.alloc (.cells #[.slice none 0 0, .slice none 0 0] 26) ∧ PBox V w.heap.size (.slice none 0 0) (.slice none 0 0) ∧ V.heap.size = w.heap.size + 1 ∧ Below w.heap.size w V ∧ RdAt B V R p) :=
    ⟨_, rfl, heap_alloc_new w _, by simp, (Below.refl _ _).alloc (Nat.le_refl _) _, h.below ((Below.refl _ _).alloc hle _)⟩
  clear h
  go_enter Try.func56, Try.ntmps56
  go_wp2_with fail
  obtain ⟨V, hV, hVG, hVs, hVb, hVR⟩ := HY.out
  rw [← hV]
  clear hV HY
  have HVG := (show Hid (PBox _ _ _ _) from hVG)
  have HVB := (show Hid (Below _ _ _) from hVb)
  clear hVG hVb
  refine (l71Sys_any B R p _ hVR (by omega)).mono ?_
  rintro e w1 ⟨pr, s, cv, bv, c, t, l, p1, D, rfl, hD, hPr, hOs, hok, hc1, hre, a1, a2, hR1, hF1⟩
  have hs1 := hF1.size
  have hix := hre.inx hok
  have hDs : D ≤ w1.heap.size ∨ True := .inr trivial
  obtain ⟨ac, cc, rfl, _⟩ := hPr.1.shape
  obtain ⟨ab, cb, rfl, _⟩ := hPr.2.shape
  obtain ⟨xa, xc, ya, yc, za, zc, rfl, rfl, rfl⟩ := hOs.on.shapes
  have hDP : D ≤ w1.heap.size := by
    obtain ⟨gt, _, _, hgt1, hgt2, _⟩ := hOs.tblock (by have := hix.w.i.np.n; omega)
    omega
  have HL0 : Hid (LoB B R w1.heap.size V.heap.size D p1 w pr (.slice ac pr.cells.length cc) (.slice ab pr.bodies.length cb) ((w1.alloc (.cells #[.slice ac pr.cells.length cc, .slice ab pr.bodies.length cb] 26)).alloc (.cells #[.slice xa s.cells.length xc, .slice ya s.tasks.length yc, .int .i64 s.clock, .slice za s.log.length zc] 32))) := by
    have hb12 : Below w1.heap.size w1 ((w1.alloc (.cells #[.slice ac pr.cells.length cc, .slice ab pr.bodies.length cb] 26)).alloc (.cells #[.slice xa s.cells.length xc, .slice ya s.tasks.length yc, .int .i64 s.clock, .slice za s.log.length zc] 32)) := ((Below.refl w1.heap.size w1).alloc (Nat.le_refl _) _).alloc (by simp) _
    have hG1 : PBox w1 w.heap.size (.slice none 0 0) (.slice none 0 0) := HVG.out.fr hF1 (by omega)
    exact ⟨hG1.heap (hb12.block _ hG1.lt), PBox.alloc (heap_alloc_new w1 _) _, hPr.kept ⟨hb12.size, fun b o hb hlt => hb12.cell (p := ⟨b, o, none⟩) hlt⟩, hR1.below (hb12.mono hR1.le), ((Fr.of_below HVB.out).trans (hF1.mono (by omega))).trans (Fr.of_below (hb12.mono (by omega))), by omega, hle, by omega, hD, hDP⟩
  have HY0 : Hid (SBox ((w1.alloc (.cells #[.slice ac pr.cells.length cc, .slice ab pr.bodies.length cb] 26)).alloc (.cells #[.slice xa s.cells.length xc, .slice ya s.tasks.length yc, .int .i64 s.clock, .slice za s.log.length zc] 32)) (w1.heap.size + 1) (.slice xa s.cells.length xc) (.slice ya s.tasks.length yc) (.slice za s.log.length zc) s.clock) := by
    unfold Hid SBox
    simpa using heap_alloc_new (w1.alloc (.cells #[.slice ac pr.cells.length cc, .slice ab pr.bodies.length cb] 26)) (.cells #[.slice xa s.cells.length xc, .slice ya s.tasks.length yc, .int .i64 s.clock, .slice za s.log.length zc] 32)
  have HS0 : Hid (OwnS D ((w1.alloc (.cells #[.slice ac pr.cells.length cc, .slice ab pr.bodies.length cb] 26)).alloc (.cells #[.slice xa s.cells.length xc, .slice ya s.tasks.length yc, .int .i64 s.clock, .slice za s.log.length zc] 32)) (.slice xa s.cells.length xc) (.slice ya s.tasks.length yc) (.slice za s.log.length zc) s) :=
    hOs.below (((Below.refl w1.heap.size w1).alloc (Nat.le_refl _) _).alloc (by simp) _) (Nat.le_refl _)
  have HOK := (show Hid (_ = _) from hok)
  have HC1 := (show Hid (1 ≤ _) from hc1)
  have HIX := (show Hid (Inx _ _) from hix)
  clear hPr hOs hok hc1 hre hix hR1 hF1 HVG HVB hVR hDs
  go_wp2_with fail
  revert HL0 HY0 HS0 hDP
  generalize ((w1.alloc (.cells #[.slice ac pr.cells.length cc, .slice ab pr.bodies.length cb] 26)).alloc (.cells #[.slice xa s.cells.length xc, .slice ya s.tasks.length yc, .int .i64 s.clock, .slice za s.log.length zc] 32)) = w2
  generalize w1.heap.size = P
  intro hDP HL0 HY0 HS0
  have hw2 := HL0.out.fr.size
  have hPl := HL0.out.p.lt
  have hYl := HY0.out.lt
  have od := HL0.out.od
  cases hm : mSoB pr s
  case false =>
    refine (sysRest_no pr s 1000 _ _ _ _ _ w2 ⟨HL0.out.pr.1.at, HL0.out.pr.2.at⟩ HS0.out.on.at HIX.out.sm (small_ok HOK.out) (.inl hm)).mono ?_
    rintro e w3 ⟨rfl, hb3⟩
    have HL3 := (show Hid (LoB _ _ _ _ _ _ _ _ _ _ _) from HL0.out.bel hb3)
    have hs3 := hb3.size
    clear hb3 hm
    go_wp2_with fail
    have HL4 : Hid (LoB B R P V.heap.size D p1 w pr (.slice ac pr.cells.length cc) (.slice ab pr.bodies.length cb) (w3.alloc (.cells #[.slice none 0 0, .slice none 0 0, .int .i64 0, .slice none 0 0] 32))) := HL3.out.bel ((Below.refl _ _).alloc (Nat.le_refl _) _)
    revert HL4
    generalize w3.alloc (.cells #[.slice none 0 0, .slice none 0 0, .int .i64 0, .slice none 0 0] 32) = w4
    intro HL4
    refine (pick_any B R p1 8 _ HL4.out.rd (by omega) (by omega) (by omega)).mono ?_
    rintro e w5 ⟨q5, rfl, q50, q51, hR5, hF5⟩
    have HL5 := (show Hid (LoB _ _ _ _ _ _ _ _ _ _ _) from HL4.out.move hF5 hR5)
    have HO5 : Hid (OwnL w2.heap.size w5 (.slice none 0 0) []) := OwnL.nil _ _
    have hL28 : L28 ([] : List En) := ⟨by simp, fun e he => by simp at he⟩
    clear hR5 hF5 HL3 HL4
    by_cases hq : q5 = 0
    · subst hq
      obtain ⟨k0, k1, _, _⟩ := HL5.out.p.cells
      obtain ⟨g0, g1, fg0, fg1⟩ := HL5.out.g.cells
      have hGl := HL5.out.g.lt
      have hPl' := HL5.out.p.lt
      go_wp2_with fail
      obtain ⟨d0, d1, _, _⟩ := ((HL5.out.g.set0 (.slice ac pr.cells.length cc)).set1 (.slice ab pr.bodies.length cb)).cells
      clear k0 k1 g0 g1 fg0 fg1
      refine bodyPost_ret (v := .tuple #[.agg #[.slice ac pr.cells.length cc, .slice ab pr.bodies.length cb], .slice none 0 0]) (by simp [results, Try.results56, go_sem, d0, d1]) rfl ?_
      exact LogD.fin HL5.out HO5.out (by omega) hL28 HOK.out HC1.out (by omega) (by omega)
    · have hqb : (q5 == 0) = false := by simp [hq]
      obtain ⟨k0, k1, _, _⟩ := HL5.out.p.cells
      obtain ⟨g0, g1, fg0, fg1⟩ := HL5.out.g.cells
      have hGl := HL5.out.g.lt
      have hPl' := HL5.out.p.lt
      go_wp2_with fail
      obtain ⟨d0, d1, _, _⟩ := ((HL5.out.g.set0 (.slice ac pr.cells.length cc)).set1 (.slice ab pr.bodies.length cb)).cells
      clear k0 k1 g0 g1 fg0 fg1
      refine bodyPost_ret (v := .tuple #[.agg #[.slice ac pr.cells.length cc, .slice ab pr.bodies.length cb], .slice none 0 0]) (by simp [results, Try.results56, go_sem, d0, d1]) rfl ?_
      exact LogD.fin HL5.out HO5.out (by omega) hL28 HOK.out HC1.out (by omega) (by omega)
  case true =>
  have hrest := sysRest_yes (fun b => D ≤ b) pr s 1000 _ _ _ _ _ w2 HL0.out.pr.lt HS0.out.on hm HIX.out (small_ok HOK.out) (by omega)
  rw [show ((1000 : Nat) : Int) = 1000 from rfl] at hrest
  refine hrest.mono ?_
  clear hrest
  have HX2 : Hid (Inx pr (restS pr s 1000)) := HIX.out.rest 1000
  rintro e w3 ⟨cx, tx, lx, rfl, hOx, hb3⟩
  replace hOx : OwnS w2.heap.size w3 cx tx lx (restS pr s 1000) := hOx
  revert HX2 hOx
  generalize restS pr s 1000 = s2
  intro HX2 hOx
  have HL3 := (show Hid (LoB _ _ _ _ _ _ _ _ _ _ _) from HL0.out.bel hb3)
  have hs3 := hb3.size
  have hL28 : L28 s2.log := ⟨HX2.out.w.i.np.l28 HX2.out.w.i.bd, HX2.out.e⟩
  obtain ⟨ua, uc, va, vc, ta, tc, rfl, rfl, rfl⟩ := hOx.on.shapes
  clear hb3 hm
  go_wp2_with fail
  have HL4 : Hid (LoB B R P V.heap.size D p1 w pr (.slice ac pr.cells.length cc) (.slice ab pr.bodies.length cb) (w3.alloc (.cells #[.slice ua s2.cells.length uc, .slice va s2.tasks.length vc, .int .i64 s2.clock, .slice ta s2.log.length tc] 32))) := HL3.out.bel ((Below.refl _ _).alloc (Nat.le_refl _) _)
  have HO4 : Hid (OwnL w2.heap.size (w3.alloc (.cells #[.slice ua s2.cells.length uc, .slice va s2.tasks.length vc, .int .i64 s2.clock, .slice ta s2.log.length tc] 32)) (.slice ta s2.log.length tc) s2.log) := OwnL.ext (OwnL.of hOx) (fun b _ hb => Below.heap_alloc w3 _ b hb)
  clear hOx
  revert HL4 HO4
  generalize w3.alloc (.cells #[.slice ua s2.cells.length uc, .slice va s2.tasks.length vc, .int .i64 s2.clock, .slice ta s2.log.length tc] 32) = w4
  intro HL4 HO4
  refine (pick_any B R p1 8 _ HL4.out.rd (by omega) (by omega) (by omega)).mono ?_
  rintro e w5 ⟨q5, rfl, q50, q51, hR5, hF5⟩
  have HL5 := (show Hid (LoB _ _ _ _ _ _ _ _ _ _ _) from HL4.out.move hF5 hR5)
  have HO5 : Hid (OwnL w2.heap.size w5 (.slice ta s2.log.length tc) s2.log) := HO4.out.ext (fun b hb hlt => hF5.block b hlt (by omega))
  clear hR5 hF5 HL3 HL4 HO4
  revert HO5 hL28
  generalize s2.log = L
  intro hL28 HO5
  by_cases hq : q5 = 0
  case neg =>
    have hqb : (q5 == 0) = false := by simp [hq]
    obtain ⟨k0, k1, _, _⟩ := HL5.out.p.cells
    obtain ⟨g0, g1, fg0, fg1⟩ := HL5.out.g.cells
    have hGl := HL5.out.g.lt
    have hPl' := HL5.out.p.lt
    go_wp2_with fail
    obtain ⟨d0, d1, _, _⟩ := ((HL5.out.g.set0 (.slice ac pr.cells.length cc)).set1 (.slice ab pr.bodies.length cb)).cells
    clear k0 k1 g0 g1 fg0 fg1
    refine bodyPost_ret (v := .tuple #[.agg #[.slice ac pr.cells.length cc, .slice ab pr.bodies.length cb], .slice ta L.length tc]) (by simp [results, Try.results56, go_sem, d0, d1]) rfl ?_
    exact LogD.fin HL5.out HO5.out (by omega) hL28 HOK.out HC1.out (by omega) (by omega)
  subst hq
  by_cases h1 : 1 < L.length
  case neg =>
    have h1' : ¬ (1 : Int) < (L.length : Int) := by omega
    obtain ⟨k0, k1, _, _⟩ := HL5.out.p.cells
    obtain ⟨g0, g1, fg0, fg1⟩ := HL5.out.g.cells
    have hGl := HL5.out.g.lt
    have hPl' := HL5.out.p.lt
    go_wp2_with fail
    obtain ⟨d0, d1, _, _⟩ := ((HL5.out.g.set0 (.slice ac pr.cells.length cc)).set1 (.slice ab pr.bodies.length cb)).cells
    clear k0 k1 g0 g1 fg0 fg1
    refine bodyPost_ret (v := .tuple #[.agg #[.slice ac pr.cells.length cc, .slice ab pr.bodies.length cb], .slice ta L.length tc]) (by simp [results, Try.results56, go_sem, d0, d1]) rfl ?_
    exact LogD.fin HL5.out HO5.out (by omega) hL28 HOK.out HC1.out (by omega) (by omega)
  have h1' : (1 : Int) < (L.length : Int) := by omega
  obtain ⟨g, cap, eg, hg1, hg2, hgz, hgc⟩ := HO5.out.block (by omega)
  injection eg with eg1 eg2 eg3
  subst eg1 eg3
  clear eg2
  have hL28n := hL28.1
  have hwl : IntKind.i64.wrap ((L.length : Int) - 1) = ((L.length - 1 : Nat) : Int) := by rw [IntKind.wrap_i64]; omega
  have y0 := hgc (L.length - 1) (by omega)
  have y1 := hgc 0 (by omega)
  rw [Nat.zero_mul, Nat.zero_add] at y1
  have y2 := hgz 2
  have hl0 : (0 : Int) < (L.length : Int) := by omega
  have hl1 : ((L.length - 1 : Nat) : Int) < (L.length : Int) := by omega
  have hgP : P < g := by omega
  clear hgz hgc
  obtain ⟨k0, k1, _, _⟩ := HL5.out.p.cells
  obtain ⟨g0, g1, fg0, fg1⟩ := HL5.out.g.cells
  have hGl := HL5.out.g.lt
  have hPl' := HL5.out.p.lt
  go_wp2_with fail
  generalize wrap64 ((nth En.z L (L.length - 1)).when_ + 1) = nw
  have HL6 : Hid (LoB B R P V.heap.size D (p1 + 1) w pr (.slice ac pr.cells.length cc) (.slice ab pr.bodies.length cb) (w5.setCell ⟨g, 2, none⟩ (.int .i64 nw))) := HL5.out.set _ hgP
  have HO6 : Hid (OwnL w2.heap.size (w5.setCell ⟨g, 2, none⟩ (.int .i64 nw)) (.slice (some ⟨g, 0, none⟩) L.length tc) (L.set 0 { nth En.z L 0 with when_ := nw })) := HO5.out.set0 (by omega) nw
  have hL28' : L28 (L.set 0 { nth En.z L 0 with when_ := nw }) := hL28.set (by omega) nw
  obtain ⟨d0, d1, _, _⟩ := ((HL6.out.g.set0 (.slice ac pr.cells.length cc)).set1 (.slice ab pr.bodies.length cb)).cells
  clear k0 k1 g0 g1 fg0 fg1 y0 y1 y2 HL5 HO5
  refine bodyPost_ret (v := .tuple #[.agg #[.slice ac pr.cells.length cc, .slice ab pr.bodies.length cb], .slice (some ⟨g, 0, none⟩) L.length tc]) (by simp [results, Try.results56, go_sem, d0, d1]) rfl ?_
  exact LogD.fin HL6.out HO6.out (by omega) hL28' HOK.out HC1.out (by omega) (by omega)
end Go.Proofs.Ytgbgjljflgbcaaa
