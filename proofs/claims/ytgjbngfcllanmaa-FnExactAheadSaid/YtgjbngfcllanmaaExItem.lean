/- The exact laws of ItemOk and Ahead. -/
import Derived.Test.YtgjbngfcllanmaaItemI
namespace Go.Proofs.Ytgjbngfcllanmaa
open Go.RowKit

set_option maxHeartbeats 400000 in
theorem exItemOk_walk (x : It) (w : World) : Calls Try.prog 3 #[.agg #[.int .i64 x.id, .int .i64 x.x0, .int .i64 x.y0, .int .i64 x.x1, .int .i64 x.y1]] w fun e w' => e = .returned (.bool true) ∧ Below w.heap.size w w' := by
  obtain ⟨i, x0, y0, x1, y1⟩ := x
  go_enter Try.func3, Try.ntmps3
  go_wp2_with fail
  refine (toItem_any i x0 y0 x1 y1 _).mono ?_
  rintro e w1 ⟨rfl, hb⟩
  have B := (new_below w _).trans (hb.mono (show w.heap.size ≤ _ by simp))
  have k : ∀ o, w1.cell? ⟨w.heap.size, o, none⟩ = _ := fun o => hb.cell (p := ⟨w.heap.size, o, none⟩) (by simp)
  have s := hb.size
  simp at s
  clear hb
  go_wp2_with fail
  refine (sItemOk_any i x0 y0 x1 y1 _).mono ?_
  rintro e w2 ⟨rfl, hb⟩
  replace B := B.trans (hb.mono (by omega))
  have k2 : ∀ o, w2.cell? ⟨w.heap.size, o, none⟩ = _ := fun o => (hb.cell (p := ⟨w.heap.size, o, none⟩) s).trans (k o)
  have s2 := hb.size
  clear hb k
  go_wp2_with fail
  refine (toItem_any i x0 y0 x1 y1 _).mono ?_
  rintro e w3 ⟨rfl, hb⟩
  have s3 := hb.size
  replace B := B.trans (hb.mono (by omega))
  clear hb k2
  go_wp2_with fail
  refine (iItemOk_any i x0 y0 x1 y1 _).mono ?_
  rintro e w4 ⟨rfl, hb⟩
  replace B := B.trans (hb.mono (by omega))
  clear hb
  go_wp2
  go_ret
  exact ⟨rfl, B⟩
/-- Two items lie in two blocks; a callee that makes memory alone leaves them there. -/
theorem keep2I {w W w1 : World} {b0 b1 : Nat} {a0 a1 a2 a3 a4 c0 c1 c2 c3 c4 : Value} (hS : (Below w.heap.size w W ∧ b0 < W.heap.size ∧ b1 < W.heap.size) ∧ (W.cell? ⟨b0, 0, none⟩ = some a0 ∧ W.cell? ⟨b0, 1, none⟩ = some a1 ∧ W.cell? ⟨b0, 2, none⟩ = some a2 ∧ W.cell? ⟨b0, 3, none⟩ = some a3 ∧ W.cell? ⟨b0, 4, none⟩ = some a4) ∧ (W.cell? ⟨b1, 0, none⟩ = some c0 ∧ W.cell? ⟨b1, 1, none⟩ = some c1 ∧ W.cell? ⟨b1, 2, none⟩ = some c2 ∧ W.cell? ⟨b1, 3, none⟩ = some c3 ∧ W.cell? ⟨b1, 4, none⟩ = some c4)) (hb : Below W.heap.size W w1) : (Below w.heap.size w w1 ∧ b0 < w1.heap.size ∧ b1 < w1.heap.size) ∧ (w1.cell? ⟨b0, 0, none⟩ = some a0 ∧ w1.cell? ⟨b0, 1, none⟩ = some a1 ∧ w1.cell? ⟨b0, 2, none⟩ = some a2 ∧ w1.cell? ⟨b0, 3, none⟩ = some a3 ∧ w1.cell? ⟨b0, 4, none⟩ = some a4) ∧ (w1.cell? ⟨b1, 0, none⟩ = some c0 ∧ w1.cell? ⟨b1, 1, none⟩ = some c1 ∧ w1.cell? ⟨b1, 2, none⟩ = some c2 ∧ w1.cell? ⟨b1, 3, none⟩ = some c3 ∧ w1.cell? ⟨b1, 4, none⟩ = some c4) := by
  obtain ⟨⟨hB, h0, h1⟩, r0, r1⟩ := hS
  have hs := hb.size
  have hw := hB.size
  have k0 : ∀ o, w1.cell? ⟨b0, o, none⟩ = W.cell? ⟨b0, o, none⟩ := fun o => hb.cell (p := ⟨b0, o, none⟩) h0
  have k1 : ∀ o, w1.cell? ⟨b1, o, none⟩ = W.cell? ⟨b1, o, none⟩ := fun o => hb.cell (p := ⟨b1, o, none⟩) h1
  simp only [k0, k1]
  exact ⟨⟨hB.trans (hb.mono (by omega)), by omega, by omega⟩, r0, r1⟩

set_option maxHeartbeats 1600000 in
theorem exAhead_walk (x y : It) (w : World) : Calls Try.prog 4 #[.agg #[.int .i64 x.id, .int .i64 x.x0, .int .i64 x.y0, .int .i64 x.x1, .int .i64 x.y1], .agg #[.int .i64 y.id, .int .i64 y.x0, .int .i64 y.y0, .int .i64 y.x1, .int .i64 y.y1]] w fun e w' => e = .returned (.bool true) ∧ Below w.heap.size w w' := by
  obtain ⟨i, x0, y0, x1, y1⟩ := x
  obtain ⟨j, u0, v0, u1, v1⟩ := y
  go_enter Try.func4, Try.ntmps4
  go_wp2_with fail
  go_region_held3 (fun w' => (Below w.heap.size w w' ∧ w.heap.size < w'.heap.size ∧ w.heap.size + 1 < w'.heap.size) ∧ (w'.cell? ⟨w.heap.size, 0, none⟩ = some (.int .i64 i) ∧ w'.cell? ⟨w.heap.size, 1, none⟩ = some (.int .i64 x0) ∧ w'.cell? ⟨w.heap.size, 2, none⟩ = some (.int .i64 y0) ∧ w'.cell? ⟨w.heap.size, 3, none⟩ = some (.int .i64 x1) ∧ w'.cell? ⟨w.heap.size, 4, none⟩ = some (.int .i64 y1)) ∧ (w'.cell? ⟨w.heap.size + 1, 0, none⟩ = some (.int .i64 j) ∧ w'.cell? ⟨w.heap.size + 1, 1, none⟩ = some (.int .i64 u0) ∧ w'.cell? ⟨w.heap.size + 1, 2, none⟩ = some (.int .i64 v0) ∧ w'.cell? ⟨w.heap.size + 1, 3, none⟩ = some (.int .i64 u1) ∧ w'.cell? ⟨w.heap.size + 1, 4, none⟩ = some (.int .i64 v1)))
    (first | exact keep2I (by assumption) hj | (refine ⟨⟨((new_below w _).trans ((new_below _ _).mono (show w.heap.size ≤ _ by simp))).drew, by simp; omega, by simp⟩, ?_⟩; simp; done))
    (first | ((with_reducible refine (toItem_any _ _ _ _ _ _).mono ?_); rintro e w1 ⟨rfl, hj⟩) | ((with_reducible refine (sAhead_any _ _ _ _ _ _ _ _ _ _ _).mono ?_); rintro e w1 ⟨rfl, hj⟩))
  rename_i hS
  have hS0 := hS
  clear hS
  go_wp2_with fail
  go_region_held3 (fun w' => (Below w.heap.size w w' ∧ w.heap.size < w'.heap.size ∧ w.heap.size + 1 < w'.heap.size) ∧ (w'.cell? ⟨w.heap.size, 0, none⟩ = some (.int .i64 i) ∧ w'.cell? ⟨w.heap.size, 1, none⟩ = some (.int .i64 x0) ∧ w'.cell? ⟨w.heap.size, 2, none⟩ = some (.int .i64 y0) ∧ w'.cell? ⟨w.heap.size, 3, none⟩ = some (.int .i64 x1) ∧ w'.cell? ⟨w.heap.size, 4, none⟩ = some (.int .i64 y1)) ∧ (w'.cell? ⟨w.heap.size + 1, 0, none⟩ = some (.int .i64 j) ∧ w'.cell? ⟨w.heap.size + 1, 1, none⟩ = some (.int .i64 u0) ∧ w'.cell? ⟨w.heap.size + 1, 2, none⟩ = some (.int .i64 v0) ∧ w'.cell? ⟨w.heap.size + 1, 3, none⟩ = some (.int .i64 u1) ∧ w'.cell? ⟨w.heap.size + 1, 4, none⟩ = some (.int .i64 v1)))
    (first | exact keep2I hS0 (drew_below _) | exact keep2I (by assumption) hj)
    (first | ((with_reducible refine (toItem_any _ _ _ _ _ _).mono ?_); rintro e w1 ⟨rfl, hj⟩) | ((with_reducible refine (iAhead_any _ _ _ _ _ _ _ _ _ _ _).mono ?_); rintro e w1 ⟨rfl, hj⟩))
  rename_i hS
  have B := hS.1.1
  clear hS hS0
  go_wp2
  go_ret
  exact ⟨rfl, B⟩
end Go.Proofs.Ytgjbngfcllanmaa
