import Derived.Test.YtgbgjljflgbcaaaXn36
import Derived.Test.YtgbgjljflgbcaaaXn26
import Derived.Deep.QuietTactic
import Derived.BigQuiet
import Derived.Deep.RegionWith
import Derived.Test.YtgbgjljflgbcaaaXn24
import Derived.Deep.Upon
import Derived.Deep.AppendLies
import Derived.Handy
import Derived.BigRegion
import Derived.Laws.ResultCell
import Derived.Deep.LoopGhost
import Derived.Test.YtgbgjljflgbcaaaXn22
import Derived.Test.YtgbgjljflgbcaaaXn21
import Derived.Test.YtgbgjljflgbcaaaXn16
import Derived.Test.YtgbgjljflgbcaaaXn37
import Derived.Test.YtgbgjljflgbcaaaXn34
import Derived.Deep.Slices
import Derived.OwnWalk
import Derived.Deep.DeepCutAuto
import Derived.Laws.EntriesVeiled
namespace Go.Proofs.Ytgbgjljflgbcaaa
open Go.RowKit
set_option linter.unusedSimpArgs false
set_option linter.unusedVariables false
set_option maxRecDepth 20000
theorem IntsOn.ltw {S : Nat → Prop} {w : World} {v : Value} {xs : List Int} (h : IntsOn S w v xs) : IntsOn (fun b => S b ∧ b < w.heap.size) w v xs := by
  obtain ⟨a, cap, e, hm, hc⟩ := h
  refine ⟨a, cap, e, hm, fun i hi => ?_⟩
  obtain ⟨b, off, e2, hs, hb, c⟩ := hc i hi
  exact ⟨b, off, e2, ⟨hs, hb⟩, hb, c⟩
theorem PrS.wide {S S' : Nat → Prop} (hS : ∀ b, S b → S' b) {w : World} {cv bv : Value} {p : Pr} (h : PrS S w cv bv p) : PrS S' w cv bv p := ⟨h.1.wide hS, h.2.wide hS⟩
end Go.Proofs.Ytgbgjljflgbcaaa

namespace Go.Proofs.Ytgbgjljflgbcaaa
open Go.RowKit
set_option linter.unusedSimpArgs false
set_option linter.unusedVariables false
set_option maxRecDepth 20000
theorem PusOn.ltw {S : Nat → Prop} {w : World} {v : Value} {xs : List Pu} (h : PusOn S w v xs) : PusOn (fun b => S b ∧ b < w.heap.size) w v xs := by
  obtain ⟨a, cap, e, hm, hc⟩ := h
  refine ⟨a, cap, e, hm, fun i hi => ?_⟩
  obtain ⟨b, off, e2, hs, hb, c0, c1⟩ := hc i hi
  exact ⟨b, off, e2, ⟨hs, hb⟩, hb, c0, c1⟩
theorem CesOn.ltw {S : Nat → Prop} {w : World} {v : Value} {xs : List Ce} (h : CesOn S w v xs) : CesOn (fun b => S b ∧ b < w.heap.size) w v xs := by
  obtain ⟨a, cap, e, hm, hc⟩ := h
  refine ⟨a, cap, e, hm, fun i hi => ?_⟩
  obtain ⟨b, off, e2, hs, hb, c0, c1, c2⟩ := hc i hi
  exact ⟨b, off, e2, ⟨hs, hb⟩, hb, c0, c1, c2⟩
theorem TasOn.ltw {S : Nat → Prop} {w : World} {v : Value} {xs : List Ta} (h : TasOn S w v xs) : TasOn (fun b => S b ∧ b < w.heap.size) w v xs := by
  obtain ⟨a, cap, e, hm, hc⟩ := h
  refine ⟨a, cap, e, hm, fun i hi => ?_⟩
  obtain ⟨b, off, v3, v8, v9, v10, e2, g1, g2, c0, c1, c2, c3, c4, c5, c6, c7, c8, c9, c10, c11, c12, h3, h8, h9, h10⟩ := hc i hi
  exact ⟨b, off, v3, v8, v9, v10, e2, ⟨g1, g2⟩, g2, c0, c1, c2, c3, c4, c5, c6, c7, c8, c9, c10, c11, c12, h3.ltw, h8.ltw, h9.ltw, h10.ltw⟩
theorem EnsOn.ltw {S : Nat → Prop} {w : World} {v : Value} {xs : List En} (h : EnsOn S w v xs) : EnsOn (fun b => S b ∧ b < w.heap.size) w v xs := by
  obtain ⟨a, cap, e, hm, hc⟩ := h
  refine ⟨a, cap, e, hm, fun i hi => ?_⟩
  obtain ⟨b, off, v3, v4, e2, g1, g2, c0, c1, c2, c3, c4, c5, h3, h4⟩ := hc i hi
  exact ⟨b, off, v3, v4, e2, ⟨g1, g2⟩, g2, c0, c1, c2, c3, c4, c5, h3.ltw, h4.ltw⟩
theorem SyOn.ltw {S : Nat → Prop} {w : World} {cv tv lv : Value} {s : Sy} (h : SyOn S w cv tv lv s) : SyOn (fun b => S b ∧ b < w.heap.size) w cv tv lv s := ⟨h.1.ltw, h.2.1.ltw, h.2.2.ltw⟩
end Go.Proofs.Ytgbgjljflgbcaaa
