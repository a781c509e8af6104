/- The exact laws of the functions over one rectangle or two. -/
import Derived.Test.YtdpkodemmfaglaaBox2
import Derived.Test.YtdpkodemmfaglaaKeep
namespace Go.Proofs.Ytdpkodemmfaglaa
open Go.RowKit

set_option maxHeartbeats 400000 in
theorem exBoxOk_walk (x0 y0 x1 y1 : Int) (w : World) : Calls Try.prog 5 #[.agg #[.int .i64 x0, .int .i64 y0, .int .i64 x1, .int .i64 y1]] w fun e w' => e = .returned (.bool true) ∧ Below w.heap.size w w' := by
  go_enter Try.func5, Try.ntmps5
  go_wp2_with fail
  refine (toBox_any x0 y0 x1 y1 _).mono ?_
  rintro e w1 ⟨rfl, hb⟩
  have B := (new_below w _).trans (hb.mono (show w.heap.size ≤ _ by simp))
  have k : ∀ o, w1.cell? ⟨w.heap.size, o, none⟩ = _ := fun o => hb.cell (p := ⟨w.heap.size, o, none⟩) (by simp)
  have s := hb.size
  simp at s
  clear hb
  go_wp2_with fail
  refine (sBoxOk_any x0 y0 x1 y1 _).mono ?_
  rintro e w2 ⟨rfl, hb⟩
  replace B := B.trans (hb.mono (by omega))
  have k2 : ∀ o, w2.cell? ⟨w.heap.size, o, none⟩ = _ := fun o => (hb.cell (p := ⟨w.heap.size, o, none⟩) s).trans (k o)
  have s2 := hb.size
  clear hb k
  go_wp2_with fail
  refine (toBox_any x0 y0 x1 y1 _).mono ?_
  rintro e w3 ⟨rfl, hb⟩
  have s3 := hb.size
  replace B := B.trans (hb.mono (by omega))
  clear hb k2
  go_wp2_with fail
  refine (iBoxOk_any x0 y0 x1 y1 _).mono ?_
  rintro e w4 ⟨rfl, hb⟩
  replace B := B.trans (hb.mono (by omega))
  clear hb
  go_wp2
  go_ret
  exact ⟨rfl, B⟩

set_option maxHeartbeats 400000 in
theorem exArea_walk (x0 y0 x1 y1 : Int) (w : World) : Calls Try.prog 6 #[.agg #[.int .i64 x0, .int .i64 y0, .int .i64 x1, .int .i64 y1]] w fun e w' => e = .returned (.bool true) ∧ Below w.heap.size w w' := by
  go_enter Try.func6, Try.ntmps6
  go_wp2_with fail
  refine (toBox_any x0 y0 x1 y1 _).mono ?_
  rintro e w1 ⟨rfl, hb⟩
  have B := (new_below w _).trans (hb.mono (show w.heap.size ≤ _ by simp))
  have k : ∀ o, w1.cell? ⟨w.heap.size, o, none⟩ = _ := fun o => hb.cell (p := ⟨w.heap.size, o, none⟩) (by simp)
  have s := hb.size
  simp at s
  clear hb
  go_wp2_with fail
  refine (sArea_any x0 y0 x1 y1 _).mono ?_
  rintro e w2 ⟨rfl, hb⟩
  replace B := B.trans (hb.mono (by omega))
  have k2 : ∀ o, w2.cell? ⟨w.heap.size, o, none⟩ = _ := fun o => (hb.cell (p := ⟨w.heap.size, o, none⟩) s).trans (k o)
  have s2 := hb.size
  clear hb k
  go_wp2_with fail
  refine (toBox_any x0 y0 x1 y1 _).mono ?_
  rintro e w3 ⟨rfl, hb⟩
  have s3 := hb.size
  replace B := B.trans (hb.mono (by omega))
  clear hb k2
  go_wp2_with fail
  refine (iArea_any x0 y0 x1 y1 _).mono ?_
  rintro e w4 ⟨rfl, hb⟩
  replace B := B.trans (hb.mono (by omega))
  clear hb
  go_wp2
  go_ret
  exact ⟨rfl, B⟩

set_option maxHeartbeats 800000 in
theorem exMeets_walk (x0 y0 x1 y1 u0 v0 u1 v1 : Int) (w : World) : Calls Try.prog 8 #[.agg #[.int .i64 x0, .int .i64 y0, .int .i64 x1, .int .i64 y1], .agg #[.int .i64 u0, .int .i64 v0, .int .i64 u1, .int .i64 v1]] w fun e w' => e = .returned (.bool true) ∧ Below w.heap.size w w' := by
  go_enter Try.func8, Try.ntmps8
  go_wp2_with fail
  go_region_held3 (fun w' => (Below w.heap.size w w' ∧ w.heap.size < w'.heap.size ∧ w.heap.size + 1 < w'.heap.size) ∧ (w'.cell? ⟨w.heap.size, 0, none⟩ = some (.int .i64 x0) ∧ w'.cell? ⟨w.heap.size, 1, none⟩ = some (.int .i64 y0) ∧ w'.cell? ⟨w.heap.size, 2, none⟩ = some (.int .i64 x1) ∧ w'.cell? ⟨w.heap.size, 3, none⟩ = some (.int .i64 y1)) ∧ (w'.cell? ⟨w.heap.size + 1, 0, none⟩ = some (.int .i64 u0) ∧ w'.cell? ⟨w.heap.size + 1, 1, none⟩ = some (.int .i64 v0) ∧ w'.cell? ⟨w.heap.size + 1, 2, none⟩ = some (.int .i64 u1) ∧ w'.cell? ⟨w.heap.size + 1, 3, none⟩ = some (.int .i64 v1)))
    (first | exact keep2 (by assumption) hj | (refine ⟨⟨((new_below w _).trans ((new_below _ _).mono (show w.heap.size ≤ _ by simp))).drew, by simp; omega, by simp⟩, ?_⟩; simp; done))
    (first | ((with_reducible refine (toBox_any _ _ _ _ _).mono ?_); rintro e w1 ⟨rfl, hj⟩) | ((with_reducible refine (sMeets_any _ _ _ _ _ _ _ _ _).mono ?_); rintro e w1 ⟨rfl, hj⟩))
  rename_i hS
  have hS0 := hS
  clear hS
  go_wp2_with fail
  go_region_held3 (fun w' => (Below w.heap.size w w' ∧ w.heap.size < w'.heap.size ∧ w.heap.size + 1 < w'.heap.size) ∧ (w'.cell? ⟨w.heap.size, 0, none⟩ = some (.int .i64 x0) ∧ w'.cell? ⟨w.heap.size, 1, none⟩ = some (.int .i64 y0) ∧ w'.cell? ⟨w.heap.size, 2, none⟩ = some (.int .i64 x1) ∧ w'.cell? ⟨w.heap.size, 3, none⟩ = some (.int .i64 y1)) ∧ (w'.cell? ⟨w.heap.size + 1, 0, none⟩ = some (.int .i64 u0) ∧ w'.cell? ⟨w.heap.size + 1, 1, none⟩ = some (.int .i64 v0) ∧ w'.cell? ⟨w.heap.size + 1, 2, none⟩ = some (.int .i64 u1) ∧ w'.cell? ⟨w.heap.size + 1, 3, none⟩ = some (.int .i64 v1)))
    (first | exact keep2 hS0 (drew_below _) | exact keep2 (by assumption) hj)
    (first | ((with_reducible refine (toBox_any _ _ _ _ _).mono ?_); rintro e w1 ⟨rfl, hj⟩) | ((with_reducible refine (iMeets_any _ _ _ _ _ _ _ _ _).mono ?_); rintro e w1 ⟨rfl, hj⟩))
  rename_i hS
  have B := hS.1.1
  clear hS hS0
  go_wp2
  go_ret
  exact ⟨rfl, B⟩

set_option maxHeartbeats 800000 in
theorem exHolds_walk (x0 y0 x1 y1 u0 v0 u1 v1 : Int) (w : World) : Calls Try.prog 9 #[.agg #[.int .i64 x0, .int .i64 y0, .int .i64 x1, .int .i64 y1], .agg #[.int .i64 u0, .int .i64 v0, .int .i64 u1, .int .i64 v1]] w fun e w' => e = .returned (.bool true) ∧ Below w.heap.size w w' := by
  go_enter Try.func9, Try.ntmps9
  go_wp2_with fail
  go_region_held3 (fun w' => (Below w.heap.size w w' ∧ w.heap.size < w'.heap.size ∧ w.heap.size + 1 < w'.heap.size) ∧ (w'.cell? ⟨w.heap.size, 0, none⟩ = some (.int .i64 x0) ∧ w'.cell? ⟨w.heap.size, 1, none⟩ = some (.int .i64 y0) ∧ w'.cell? ⟨w.heap.size, 2, none⟩ = some (.int .i64 x1) ∧ w'.cell? ⟨w.heap.size, 3, none⟩ = some (.int .i64 y1)) ∧ (w'.cell? ⟨w.heap.size + 1, 0, none⟩ = some (.int .i64 u0) ∧ w'.cell? ⟨w.heap.size + 1, 1, none⟩ = some (.int .i64 v0) ∧ w'.cell? ⟨w.heap.size + 1, 2, none⟩ = some (.int .i64 u1) ∧ w'.cell? ⟨w.heap.size + 1, 3, none⟩ = some (.int .i64 v1)))
    (first | exact keep2 (by assumption) hj | (refine ⟨⟨((new_below w _).trans ((new_below _ _).mono (show w.heap.size ≤ _ by simp))).drew, by simp; omega, by simp⟩, ?_⟩; simp; done))
    (first | ((with_reducible refine (toBox_any _ _ _ _ _).mono ?_); rintro e w1 ⟨rfl, hj⟩) | ((with_reducible refine (sHolds_any _ _ _ _ _ _ _ _ _).mono ?_); rintro e w1 ⟨rfl, hj⟩))
  rename_i hS
  have hS0 := hS
  clear hS
  go_wp2_with fail
  go_region_held3 (fun w' => (Below w.heap.size w w' ∧ w.heap.size < w'.heap.size ∧ w.heap.size + 1 < w'.heap.size) ∧ (w'.cell? ⟨w.heap.size, 0, none⟩ = some (.int .i64 x0) ∧ w'.cell? ⟨w.heap.size, 1, none⟩ = some (.int .i64 y0) ∧ w'.cell? ⟨w.heap.size, 2, none⟩ = some (.int .i64 x1) ∧ w'.cell? ⟨w.heap.size, 3, none⟩ = some (.int .i64 y1)) ∧ (w'.cell? ⟨w.heap.size + 1, 0, none⟩ = some (.int .i64 u0) ∧ w'.cell? ⟨w.heap.size + 1, 1, none⟩ = some (.int .i64 v0) ∧ w'.cell? ⟨w.heap.size + 1, 2, none⟩ = some (.int .i64 u1) ∧ w'.cell? ⟨w.heap.size + 1, 3, none⟩ = some (.int .i64 v1)))
    (first | exact keep2 hS0 (drew_below _) | exact keep2 (by assumption) hj)
    (first | ((with_reducible refine (toBox_any _ _ _ _ _).mono ?_); rintro e w1 ⟨rfl, hj⟩) | ((with_reducible refine (iHolds_any _ _ _ _ _ _ _ _ _).mono ?_); rintro e w1 ⟨rfl, hj⟩))
  rename_i hS
  have B := hS.1.1
  clear hS hS0
  go_wp2
  go_ret
  exact ⟨rfl, B⟩

set_option maxHeartbeats 800000 in
theorem exGrowth_walk (x0 y0 x1 y1 u0 v0 u1 v1 : Int) (w : World) : Calls Try.prog 10 #[.agg #[.int .i64 x0, .int .i64 y0, .int .i64 x1, .int .i64 y1], .agg #[.int .i64 u0, .int .i64 v0, .int .i64 u1, .int .i64 v1]] w fun e w' => e = .returned (.bool true) ∧ Below w.heap.size w w' := by
  go_enter Try.func10, Try.ntmps10
  go_wp2_with fail
  go_region_held3 (fun w' => (Below w.heap.size w w' ∧ w.heap.size < w'.heap.size ∧ w.heap.size + 1 < w'.heap.size) ∧ (w'.cell? ⟨w.heap.size, 0, none⟩ = some (.int .i64 x0) ∧ w'.cell? ⟨w.heap.size, 1, none⟩ = some (.int .i64 y0) ∧ w'.cell? ⟨w.heap.size, 2, none⟩ = some (.int .i64 x1) ∧ w'.cell? ⟨w.heap.size, 3, none⟩ = some (.int .i64 y1)) ∧ (w'.cell? ⟨w.heap.size + 1, 0, none⟩ = some (.int .i64 u0) ∧ w'.cell? ⟨w.heap.size + 1, 1, none⟩ = some (.int .i64 v0) ∧ w'.cell? ⟨w.heap.size + 1, 2, none⟩ = some (.int .i64 u1) ∧ w'.cell? ⟨w.heap.size + 1, 3, none⟩ = some (.int .i64 v1)))
    (first | exact keep2 (by assumption) hj | (refine ⟨⟨((new_below w _).trans ((new_below _ _).mono (show w.heap.size ≤ _ by simp))).drew, by simp; omega, by simp⟩, ?_⟩; simp; done))
    (first | ((with_reducible refine (toBox_any _ _ _ _ _).mono ?_); rintro e w1 ⟨rfl, hj⟩) | ((with_reducible refine (sGrowth_any _ _ _ _ _ _ _ _ _).mono ?_); rintro e w1 ⟨rfl, hj⟩))
  rename_i hS
  have hS0 := hS
  clear hS
  go_wp2_with fail
  go_region_held3 (fun w' => (Below w.heap.size w w' ∧ w.heap.size < w'.heap.size ∧ w.heap.size + 1 < w'.heap.size) ∧ (w'.cell? ⟨w.heap.size, 0, none⟩ = some (.int .i64 x0) ∧ w'.cell? ⟨w.heap.size, 1, none⟩ = some (.int .i64 y0) ∧ w'.cell? ⟨w.heap.size, 2, none⟩ = some (.int .i64 x1) ∧ w'.cell? ⟨w.heap.size, 3, none⟩ = some (.int .i64 y1)) ∧ (w'.cell? ⟨w.heap.size + 1, 0, none⟩ = some (.int .i64 u0) ∧ w'.cell? ⟨w.heap.size + 1, 1, none⟩ = some (.int .i64 v0) ∧ w'.cell? ⟨w.heap.size + 1, 2, none⟩ = some (.int .i64 u1) ∧ w'.cell? ⟨w.heap.size + 1, 3, none⟩ = some (.int .i64 v1)))
    (first | exact keep2 hS0 (drew_below _) | exact keep2 (by assumption) hj)
    (first | ((with_reducible refine (toBox_any _ _ _ _ _).mono ?_); rintro e w1 ⟨rfl, hj⟩) | ((with_reducible refine (iGrowth_any _ _ _ _ _ _ _ _ _).mono ?_); rintro e w1 ⟨rfl, hj⟩))
  rename_i hS
  have B := hS.1.1
  clear hS hS0
  go_wp2
  go_ret
  exact ⟨rfl, B⟩
end Go.Proofs.Ytdpkodemmfaglaa
