/- The exact laws of the functions of the curve. -/
import Derived.Test.YtfednafegfihpaaCurveI
namespace Go.Proofs.Ytfednafegfihpaa
open Go.RowKit

set_option maxHeartbeats 400000 in
theorem exAlong_walk (a b : Int) (w : World) : Calls Try.prog 4 #[.int .i64 a, .int .i64 b] w fun e w' => e = .returned (.bool true) ∧ Below w.heap.size w w' := by
  go_enter Try.func4, Try.ntmps4
  go_wp2_with fail
  refine (sAlong_any a b w).mono ?_
  rintro e w1 ⟨rfl, rfl⟩
  go_wp2_with fail
  refine (iAlong_any a b w).mono ?_
  rintro e w1 ⟨rfl, hb⟩
  go_wp2
  go_ret
  exact ⟨rfl, hb⟩

set_option maxHeartbeats 400000 in
theorem exPointAt_walk (a : Int) (w : World) : Calls Try.prog 5 #[.int .i64 a] w fun e w' => e = .returned (.bool true) ∧ Below w.heap.size w w' := by
  go_enter Try.func5, Try.ntmps5
  go_wp2_with fail
  refine (sPointAt_any a w).mono ?_
  rintro e w1 ⟨rfl, rfl⟩
  go_wp2_with fail
  refine (iPointAt_any a w).mono ?_
  rintro e w1 ⟨rfl, rfl⟩
  go_wp2
  go_ret
  exact ⟨rfl, Below.refl _ _⟩

set_option maxHeartbeats 400000 in
theorem exApart_walk (a b : Int) (w : World) : Calls Try.prog 8 #[.int .i64 a, .int .i64 b] w fun e w' => e = .returned (.bool true) ∧ Below w.heap.size w w' := by
  go_enter Try.func8, Try.ntmps8
  go_wp2_with fail
  refine (sApart_any a b w).mono ?_
  rintro e w1 ⟨rfl, rfl⟩
  go_wp2_with fail
  refine (iApart_any a b w).mono ?_
  rintro e w1 ⟨rfl, rfl⟩
  go_wp2
  go_ret
  exact ⟨rfl, Below.refl _ _⟩

set_option maxHeartbeats 400000 in
theorem exMiddle_walk (x0 y0 x1 y1 : Int) (w : World) : Calls Try.prog 6 #[.agg #[.int .i64 x0, .int .i64 y0, .int .i64 x1, .int .i64 y1]] w fun e w' => e = .returned (.bool true) ∧ Below w.heap.size w w' := by
  go_enter Try.func6, Try.ntmps6
  go_wp2_with fail
  refine (toBox_any x0 y0 x1 y1 _).mono ?_
  rintro e w1 ⟨rfl, hb⟩
  have B := (new_below w _).trans (hb.mono (show w.heap.size ≤ _ by simp))
  have k : ∀ o, w1.cell? ⟨w.heap.size, o, none⟩ = _ := fun o => hb.cell (p := ⟨w.heap.size, o, none⟩) (by simp)
  have s := hb.size
  simp at s
  clear hb
  go_wp2_with fail
  refine (sMiddle_any x0 y0 x1 y1 _).mono ?_
  rintro e w2 ⟨rfl, hb⟩
  replace B := B.trans (hb.mono (by omega))
  have k2 : ∀ o, w2.cell? ⟨w.heap.size, o, none⟩ = _ := fun o => (hb.cell (p := ⟨w.heap.size, o, none⟩) s).trans (k o)
  have s2 := hb.size
  clear hb k
  go_wp2_with fail
  refine (toBox_any x0 y0 x1 y1 _).mono ?_
  rintro e w3 ⟨rfl, hb⟩
  have s3 := hb.size
  replace B := B.trans (hb.mono (by omega))
  clear hb k2
  go_wp2_with fail
  refine (iMiddle_any x0 y0 x1 y1 _).mono ?_
  rintro e w4 ⟨rfl, hb⟩
  replace B := B.trans (hb.mono (by omega))
  clear hb
  go_wp2
  go_ret
  exact ⟨rfl, B⟩

set_option maxHeartbeats 400000 in
theorem exKeyOf_walk (x0 y0 x1 y1 : Int) (w : World) : Calls Try.prog 7 #[.agg #[.int .i64 x0, .int .i64 y0, .int .i64 x1, .int .i64 y1]] w fun e w' => e = .returned (.bool true) ∧ Below w.heap.size w w' := by
  go_enter Try.func7, Try.ntmps7
  go_wp2_with fail
  refine (toBox_any x0 y0 x1 y1 _).mono ?_
  rintro e w1 ⟨rfl, hb⟩
  have B := (new_below w _).trans (hb.mono (show w.heap.size ≤ _ by simp))
  have k : ∀ o, w1.cell? ⟨w.heap.size, o, none⟩ = _ := fun o => hb.cell (p := ⟨w.heap.size, o, none⟩) (by simp)
  have s := hb.size
  simp at s
  clear hb
  go_wp2_with fail
  refine (sKeyOf_any x0 y0 x1 y1 _).mono ?_
  rintro e w2 ⟨rfl, hb⟩
  replace B := B.trans (hb.mono (by omega))
  have k2 : ∀ o, w2.cell? ⟨w.heap.size, o, none⟩ = _ := fun o => (hb.cell (p := ⟨w.heap.size, o, none⟩) s).trans (k o)
  have s2 := hb.size
  clear hb k
  go_wp2_with fail
  refine (toBox_any x0 y0 x1 y1 _).mono ?_
  rintro e w3 ⟨rfl, hb⟩
  have s3 := hb.size
  replace B := B.trans (hb.mono (by omega))
  clear hb k2
  go_wp2_with fail
  refine (iKeyOf_any x0 y0 x1 y1 _).mono ?_
  rintro e w4 ⟨rfl, hb⟩
  replace B := B.trans (hb.mono (by omega))
  clear hb
  go_wp2
  go_ret
  exact ⟨rfl, B⟩
end Go.Proofs.Ytfednafegfihpaa
