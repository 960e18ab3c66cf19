import Derived.Test.YtdpnenjbgcpefaaDoorP1
import Derived.Deep.RegionHeld3
namespace Go.Proofs.YtdpnenjbgcpefaaDoor
open Go.RowKit
set_option linter.unusedSimpArgs false
set_option linter.unusedVariables false

@[go_sem] theorem bs_size' (l : List UInt8) : (bs l).size = l.length := bs_size l
@[go_sem] theorem reT_len (a : Int) : (reT a).length = 1 := rfl
@[go_sem] theorem ceT_len (a : Int) : (ceT a).length = 1 := rfl
theorem mk_bs (l : List UInt8) : ByteArray.mk l.toArray = bs l := rfl

set_option maxHeartbeats 1000000 in
theorem wLoad_any (r c : Int) (h0 : 0 ≤ r) (h1 : r < 3) (h2 : 0 ≤ c) (h3 : c < 3) (w : World) :
    Calls Tryd.prog 85 #[.agg #[.int .i64 r, .int .i64 c]] w fun e w' => e = .returned (.string (bs (reT r ++ [61] ++ ceT c))) ∧ Below w.heap.size w w' := by
  go_enter Tryd.func85, Tryd.ntmps85
  go_wp2_with fail
  go_region_held3 (fun w' => w'.cell? ⟨w.heap.size, 0, none⟩ = some (.int .i64 r) ∧ w'.cell? ⟨w.heap.size, 1, none⟩ = some (.int .i64 c)) (first | exact ⟨k0, k1⟩ | go_keep | (constructor <;> simp [go_sem])) (first | (go_at_call 83; refine (regName_any _ (by omega) (by omega) _).mono ?_; rintro e w' ⟨rfl, rfl⟩) | (go_at_call 86; refine (cellName_any _ (by omega) (by omega) _).mono ?_; rintro e w' ⟨rfl, rfl⟩))
  all_goals
    go_wp2_with fail
    go_ret
    exact ⟨ret_str (by rw [mk_bs, bs_app, bs_app]), (by repeat (first | exact Below.refl _ _ | refine Below.alloc ?_ (by simp; try omega) _ | refine Below.drew ?_ | refine Below.setCell ?_ (by simp; try omega) _))⟩
set_option maxHeartbeats 1000000 in
theorem wStore_any (c r : Int) (h0 : 0 ≤ r) (h1 : r < 3) (h2 : 0 ≤ c) (h3 : c < 3) (w : World) :
    Calls Tryd.prog 87 #[.agg #[.int .i64 c, .int .i64 r]] w fun e w' => e = .returned (.string (bs (ceT c ++ [61] ++ reT r))) ∧ Below w.heap.size w w' := by
  go_enter Tryd.func87, Tryd.ntmps87
  go_wp2_with fail
  go_region_held3 (fun w' => w'.cell? ⟨w.heap.size, 0, none⟩ = some (.int .i64 c) ∧ w'.cell? ⟨w.heap.size, 1, none⟩ = some (.int .i64 r)) (first | exact ⟨k0, k1⟩ | go_keep | (constructor <;> simp [go_sem])) (first | (go_at_call 83; refine (regName_any _ (by omega) (by omega) _).mono ?_; rintro e w' ⟨rfl, rfl⟩) | (go_at_call 86; refine (cellName_any _ (by omega) (by omega) _).mono ?_; rintro e w' ⟨rfl, rfl⟩))
  all_goals
    go_wp2_with fail
    go_ret
    exact ⟨ret_str (by rw [mk_bs, bs_app, bs_app]), (by repeat (first | exact Below.refl _ _ | refine Below.alloc ?_ (by simp; try omega) _ | refine Below.drew ?_ | refine Below.setCell ?_ (by simp; try omega) _))⟩
set_option maxHeartbeats 1000000 in
theorem wAdd_any (r c : Int) (h0 : 0 ≤ r) (h1 : r < 3) (h2 : 0 ≤ c) (h3 : c < 3) (w : World) :
    Calls Tryd.prog 89 #[.agg #[.int .i64 r, .int .i64 c]] w fun e w' => e = .returned (.string (bs (reT r ++ [43] ++ reT c))) ∧ Below w.heap.size w w' := by
  go_enter Tryd.func89, Tryd.ntmps89
  go_wp2_with fail
  go_region_held3 (fun w' => w'.cell? ⟨w.heap.size, 0, none⟩ = some (.int .i64 r) ∧ w'.cell? ⟨w.heap.size, 1, none⟩ = some (.int .i64 c)) (first | exact ⟨k0, k1⟩ | go_keep | (constructor <;> simp [go_sem])) (first | (go_at_call 83; refine (regName_any _ (by omega) (by omega) _).mono ?_; rintro e w' ⟨rfl, rfl⟩))
  all_goals
    go_wp2_with fail
    go_ret
    exact ⟨ret_str (by rw [mk_bs, bs_app, bs_app]), (by repeat (first | exact Below.refl _ _ | refine Below.alloc ?_ (by simp; try omega) _ | refine Below.drew ?_ | refine Below.setCell ?_ (by simp; try omega) _))⟩
set_option maxHeartbeats 1000000 in
theorem wNeed_any (r : Int) (h0 : 0 ≤ r) (h1 : r < 3) (w : World) :
    Calls Tryd.prog 90 #[.agg #[.int .i64 r]] w fun e w' => e = .returned (.string (bs (reT r ++ [63]))) ∧ Below w.heap.size w w' := by
  go_enter Tryd.func90, Tryd.ntmps90
  go_wp2_with (go_at_call 83; refine (regName_any r h0 h1 _).mono ?_; rintro e w' ⟨rfl, rfl⟩)
  go_ret
  exact ⟨ret_str (by rw [mk_bs, bs_app]), (by repeat (first | exact Below.refl _ _ | refine Below.alloc ?_ (by simp; try omega) _ | refine Below.drew ?_ | refine Below.setCell ?_ (by simp; try omega) _))⟩
set_option maxHeartbeats 1000000 in
theorem wNum_any (r : Int) (n : Nat) (h0 : 0 ≤ r) (h1 : r < 3) (h3 : n < 100) (w : World) :
    Calls Tryd.prog 88 #[.agg #[.int .i64 r, .int .i64 (n : Int)]] w fun e w' => e = .returned (.string (bs (reT r ++ [61] ++ decT n))) ∧ Below w.heap.size w w' := by
  have hd : ∃ D, D = decT n ∧ (D.length = 1 ∨ D.length = 2) := ⟨_, rfl, by unfold decT; split <;> simp⟩
  obtain ⟨D, hD, hl⟩ := hd
  have HD := (show Hid (D = decT n) from hD)
  clear hD
  rcases hl with hl | hl
  all_goals
    go_enter Tryd.func88, Tryd.ntmps88
    go_wp2_with fail
    go_region_held3 (fun w' => w'.cell? ⟨w.heap.size, 0, none⟩ = some (.int .i64 r) ∧ w'.cell? ⟨w.heap.size, 1, none⟩ = some (.int .i64 (n : Int))) (first | exact ⟨k0, k1⟩ | go_keep | (constructor <;> simp [go_sem])) (first | (go_at_call 83; refine (regName_any _ (by omega) (by omega) _).mono ?_; rintro e w' ⟨rfl, rfl⟩) | (go_at_call 29; refine (itoa_any n h3 _).mono ?_; rintro e w2 ⟨rfl, hb⟩; rw [← HD.out]; have HB := (show Hid (Below _ _ _) from hb); have k0 : w2.cell? ⟨w.heap.size, 0, none⟩ = some (.int .i64 r) := (by rw [hb.cell (p := ⟨w.heap.size, 0, none⟩) (by simp)]; simp [go_sem]); have k1 : w2.cell? ⟨w.heap.size, 1, none⟩ = some (.int .i64 (n : Int)) := (by rw [hb.cell (p := ⟨w.heap.size, 1, none⟩) (by simp)]; simp [go_sem]); clear hb))
    all_goals
      go_wp2_with fail
      go_ret
      exact ⟨ret_str (by rw [mk_bs, bs_app, bs_app, HD.out]), Below.trans ((by repeat (first | exact Below.refl _ _ | refine Below.alloc ?_ (by simp; try omega) _ | refine Below.drew ?_ | refine Below.setCell ?_ (by simp; try omega) _))) (HB.out.mono (by simp; try omega))⟩

end Go.Proofs.YtdpnenjbgcpefaaDoor
