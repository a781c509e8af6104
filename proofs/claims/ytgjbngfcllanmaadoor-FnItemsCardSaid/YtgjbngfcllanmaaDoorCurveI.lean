/- The program's functions of the Hilbert curve. -/
import Derived.Test.YtgjbngfcllanmaaDoorCurve2
namespace Go.Proofs.YtgjbngfcllanmaaDoor
open Go.RowKit

set_option maxHeartbeats 400000 in
theorem onGrid_any (x : Int) (w : World) : Calls Tryd.prog 71 #[.int .i64 x] w fun e w' => e = .returned (.bool (inB x 0 255)) ∧ w = w' := by
  rcases (by omega : x < 0 ∨ (0 ≤ x ∧ x < 256) ∨ (0 ≤ x ∧ ¬ x < 256)) with h | ⟨h, h2⟩ | ⟨h, h2⟩
  · have hr : Hid (inB x 0 255 = false) := decide_eq_false (by omega)
    go_enter Tryd.func71, Tryd.ntmps71
    go_wp2
    go_ret
    exact ⟨ret_bool hr.out.symm, rfl⟩
  · have hr : Hid (inB x 0 255 = true) := decide_eq_true (by omega)
    go_enter Tryd.func71, Tryd.ntmps71
    go_wp2
    go_ret
    exact ⟨ret_bool hr.out.symm, rfl⟩
  · have hr : Hid (inB x 0 255 = false) := decide_eq_false (by omega)
    go_enter Tryd.func71, Tryd.ntmps71
    go_wp2
    go_ret
    exact ⟨ret_bool hr.out.symm, rfl⟩

set_option maxHeartbeats 400000 in
theorem turned_y (x y rx s : Int) (w : World) : Calls Tryd.prog 72 #[.int .i64 x, .int .i64 y, .int .i64 rx, .int .i64 1, .int .i64 s] w fun e w' => e = .returned (.tuple #[.int .i64 x, .int .i64 y]) ∧ w = w' := by
  go_enter Tryd.func72, Tryd.ntmps72
  go_wp2
  go_ret2
  exact ⟨rfl, rfl⟩
set_option maxHeartbeats 400000 in
theorem turned_0 (x y s : Int) (w : World) : Calls Tryd.prog 72 #[.int .i64 x, .int .i64 y, .int .i64 0, .int .i64 0, .int .i64 s] w fun e w' => e = .returned (.tuple #[.int .i64 y, .int .i64 x]) ∧ w = w' := by
  go_enter Tryd.func72, Tryd.ntmps72
  go_wp2
  go_ret2
  exact ⟨rfl, rfl⟩
set_option maxHeartbeats 400000 in
theorem turned_1 (x y s : Int) (w : World) (hx : 0 ≤ x ∧ x ≤ 255) (hy : 0 ≤ y ∧ y ≤ 255) (hs : 1 ≤ s ∧ s ≤ 256) : Calls Tryd.prog 72 #[.int .i64 x, .int .i64 y, .int .i64 1, .int .i64 0, .int .i64 s] w fun e w' => e = .returned (.tuple #[.int .i64 (s - 1 - y), .int .i64 (s - 1 - x)]) ∧ w = w' := by
  obtain ⟨x0, x1⟩ := hx
  obtain ⟨y0, y1⟩ := hy
  obtain ⟨s0, s1⟩ := hs
  go_enter Tryd.func72, Tryd.ntmps72
  go_wp2
  go_ret2
  exact ⟨rfl, rfl⟩

theorem shr_pw (m i : Nat) (h : m + (i + 1) = 8) : (256 : Int) / 2 ^ (m + 1) = pw i := by
  obtain rfl : m = 7 - i := by omega
  rcases (by omega : i = 0 ∨ i = 1 ∨ i = 2 ∨ i = 3 ∨ i = 4 ∨ i = 5 ∨ i = 6 ∨ i = 7) with rfl | rfl | rfl | rfl | rfl | rfl | rfl | rfl <;> decide

set_option maxHeartbeats 1600000 in
theorem iAlong_in (x y : Int) (w : World) (hx : 0 ≤ x ∧ x ≤ 255) (hy : 0 ≤ y ∧ y ≤ 255) : Calls Tryd.prog 64 #[.int .i64 x, .int .i64 y] w fun e w' => e = .returned (.int .i64 (pos 8 x y)) ∧ Below w.heap.size w w' := by
  obtain ⟨hx0, hx1⟩ := hx
  obtain ⟨hy0, hy1⟩ := hy
  have b1 : inB x 0 255 = true := decide_eq_true ⟨hx0, hx1⟩
  have b2 : inB y 0 255 = true := decide_eq_true ⟨hy0, hy1⟩
  have X30 := x30
  have X31 := x31
  have X00 := x00
  have X01 := x01
  go_enter Tryd.func64, Tryd.ntmps64
  go_wp2_with fail
  refine (onGrid_any _ _).mono ?_
  rintro e w1 ⟨rfl, rfl⟩
  go_wp2_with fail
  refine (onGrid_any _ _).mono ?_
  rintro e w1 ⟨rfl, rfl⟩
  go_wp2_with fail
  go_loopw [0, 1, 5, 18] (fun a b d c wr => ∃ (m j : Nat) (u v D : Int), m + j = 8 ∧ a = .int .i64 u ∧ b = .int .i64 v ∧ d = .int .i64 D ∧ c = .int .i64 m ∧ (0 ≤ u ∧ u ≤ 255) ∧ (0 ≤ v ∧ v ≤ 255) ∧ 0 ≤ D ∧ D + pos j u v = pos 8 x y ∧ Below w.heap.size w wr) (fun _ _ _ c _ => (8 - intOf c).toNat)
  case atStart => exact ⟨0, 8, x, y, 0, rfl, rfl, rfl, rfl, rfl, ⟨hx0, hx1⟩, ⟨hy0, hy1⟩, Int.le_refl _, by omega, Below.refl _ _⟩
  case round =>
    obtain ⟨m, j, u, v, D, hj, rfl, rfl, rfl, rfl, ⟨u0, u1⟩, ⟨v0, v1⟩, D0, hD, B⟩ := hrel
    have p8 := pos_in 8 x y
    have p8' : pos 8 x y < 65536 := p8.2
    cases j with
    | zero =>
      have hDe := Lib.hid (show D = pos 8 x y by have : D + 0 = pos 8 x y := hD; omega)
      clear hD p8
      go_wp2
      go_ret
      exact ⟨ret_i64 hDe.out, B⟩
    | succ i =>
      have hl : lev (i + 1) = pw i := rfl
      have s0 := pw_pos i
      have s1 := pw_le i (by omega)
      have q1 := sq_le i (by omega)
      rw [sq_pw] at q1
      have q0 := sq_pos i
      rw [sq_pw] at q0
      have hp : pos (i + 1) u v = pw i * pw i * quad (u / pw i % 2) (v / pw i % 2) + pos i (turnX (u / pw i % 2) (v / pw i % 2) u v) (turnY (u / pw i % 2) (v / pw i % 2) u v) := by rw [← sq_pw]; rfl
      have pin := pos_in i (turnX (u / pw i % 2) (v / pw i % 2) u v) (turnY (u / pw i % 2) (v / pw i % 2) u v)
      rw [hp] at hD
      have HD := Lib.hid hD
      have D1 : D ≤ 65535 := by
        have := quad_lt u v (pw i)
        have := Int.mul_nonneg (show 0 ≤ pw i * pw i by omega) this.1
        omega
      clear hp hD hl p8
      obtain ⟨du0, du1⟩ := quo_le u (pw i) u0 s0
      obtain ⟨dv0, dv1⟩ := quo_le v (pw i) v0 s0
      have hsh := Lib.hid (shr_pw m i hj)
      go_wp2_with fail
      rw [hsh.out]
      have NZ : ¬ pw i = 0 := by omega
      rcases bit01 u (pw i) with hu | hu <;> rcases bit01 v (pw i) with hv | hv
      · rw [hu, hv] at HD pin
        go_quiet (fail)
        go_wp2_with fail
        refine (turned_0 _ _ _ _).mono ?_
        rintro e w4 ⟨rfl, rfl⟩
        go_wp2
        go_roundw
        case rel =>
          refine ⟨m + 1, i, _, _, _, by omega, rfl, rfl, rfl, by go_num, ?_, ?_, ?_, ?_, B.trans ((drewN_below _ _).mono B.size)⟩
          · omega
          · omega
          · omega
          · have := HD.out
            simp [quad, turnX, turnY] at this
            omega
        case measure =>
          simp [intOf]
          omega
      · rw [hu, hv] at HD pin
        go_quiet (fail)
        go_wp2_with fail
        refine (turned_y _ _ _ _ _).mono ?_
        rintro e w4 ⟨rfl, rfl⟩
        go_wp2
        go_roundw
        case rel =>
          refine ⟨m + 1, i, _, _, _, by omega, rfl, rfl, rfl, by go_num, ?_, ?_, ?_, ?_, B.trans ((drewN_below _ _).mono B.size)⟩
          · omega
          · omega
          · omega
          · have := HD.out
            simp [quad, turnX, turnY] at this
            omega
        case measure =>
          simp [intOf]
          omega
      · rw [hu, hv] at HD pin
        go_quiet (fail)
        go_wp2_with fail
        refine (turned_1 _ _ _ _ ⟨u0, u1⟩ ⟨v0, v1⟩ ⟨by omega, by omega⟩).mono ?_
        rintro e w4 ⟨rfl, rfl⟩
        go_wp2
        go_roundw
        case rel =>
          refine ⟨m + 1, i, _, _, _, by omega, rfl, rfl, rfl, by go_num, ?_, ?_, ?_, ?_, B.trans ((drewN_below _ _).mono B.size)⟩
          · omega
          · omega
          · omega
          · have := HD.out
            simp [quad, turnX, turnY] at this
            omega
        case measure =>
          simp [intOf]
          omega
      · rw [hu, hv] at HD pin
        go_quiet (fail)
        go_wp2_with fail
        refine (turned_y _ _ _ _ _).mono ?_
        rintro e w4 ⟨rfl, rfl⟩
        go_wp2
        go_roundw
        case rel =>
          refine ⟨m + 1, i, _, _, _, by omega, rfl, rfl, rfl, by go_num, ?_, ?_, ?_, ?_, B.trans ((drewN_below _ _).mono B.size)⟩
          · omega
          · omega
          · omega
          · have := HD.out
            simp [quad, turnX, turnY] at this
            omega
        case measure =>
          simp [intOf]
          omega

theorem iAlong_any (x y : Int) (w : World) : Calls Tryd.prog 64 #[.int .i64 x, .int .i64 y] w fun e w' => e = .returned (.int .i64 (alongV x y)) ∧ Below w.heap.size w w' := by
  cases hx : inB x 0 255 with
  | false =>
    have hr : Hid (alongV x y = -1) := if_neg (fun h => by rw [hx] at h; cases h.1)
    go_enter Tryd.func64, Tryd.ntmps64
    go_wp2_with fail
    refine (onGrid_any _ _).mono ?_
    rintro e w1 ⟨rfl, rfl⟩
    go_wp2
    go_ret
    exact ⟨ret_i64 hr.out.symm, Below.refl _ _⟩
  | true =>
  cases hy : inB y 0 255 with
  | false =>
    have hr : Hid (alongV x y = -1) := if_neg (fun h => by rw [hy] at h; cases h.2)
    go_enter Tryd.func64, Tryd.ntmps64
    go_wp2_with fail
    refine (onGrid_any _ _).mono ?_
    rintro e w1 ⟨rfl, rfl⟩
    go_wp2_with fail
    refine (onGrid_any _ _).mono ?_
    rintro e w1 ⟨rfl, rfl⟩
    go_wp2
    go_ret
    exact ⟨ret_i64 hr.out.symm, Below.refl _ _⟩
  | true =>
    refine (iAlong_in x y w (of_decide_eq_true hx) (of_decide_eq_true hy)).mono fun e w' ⟨he, hw⟩ => ⟨?_, hw⟩
    rw [he]
    exact ret_i64 (if_pos ⟨hx, hy⟩).symm

theorem x32 : bits .xor .i64 3 2 = 1 := by decide
theorem x33 : bits .xor .i64 3 3 = 0 := by decide
theorem mod4 (r : Int) : r % 4 = 0 ∨ r % 4 = 1 ∨ r % 4 = 2 ∨ r % 4 = 3 := by omega
theorem shl_pw (i : Nat) (h : i < 8) : (1 : Int) * 2 ^ i = pw i := by
  rcases (by omega : i = 0 ∨ i = 1 ∨ i = 2 ∨ i = 3 ∨ i = 4 ∨ i = 5 ∨ i = 6 ∨ i = 7) with rfl | rfl | rfl | rfl | rfl | rfl | rfl | rfl <;> decide

set_option maxHeartbeats 400000 in
theorem iMiddle_any (x0 y0 x1 y1 : Int) (w : World) : Calls Tryd.prog 65 #[.agg #[.int .i64 x0, .int .i64 y0, .int .i64 x1, .int .i64 y1]] w fun e w' =>
    e = .returned (.tuple #[.int .i64 (midV x0 x1), .int .i64 (midV y0 y1)]) ∧ Below w.heap.size w w' := by
  go_enter Tryd.func65, Tryd.ntmps65
  go_wp2
  go_quiet (fail)
  go_wp2
  go_ret2
  exact ⟨rfl, (new_below w _).trans ((drewN_below _ _).mono (show w.heap.size ≤ _ by simp))⟩

set_option maxHeartbeats 400000 in
theorem iKeyOf_any (x0 y0 x1 y1 : Int) (w : World) : Calls Tryd.prog 53 #[.agg #[.int .i64 x0, .int .i64 y0, .int .i64 x1, .int .i64 y1]] w fun e w' =>
    e = .returned (.int .i64 (keyV x0 y0 x1 y1)) ∧ Below w.heap.size w w' := by
  go_enter Tryd.func53, Tryd.ntmps53
  go_wp2_with fail
  refine (iMiddle_any _ _ _ _ _).mono ?_
  rintro e w1 ⟨rfl, hb⟩
  go_wp2_with fail
  refine (iAlong_any _ _ _).mono ?_
  rintro e w2 ⟨rfl, hb2⟩
  go_wp2
  go_ret
  have hs := hb.size
  simp at hs
  exact ⟨rfl, ((new_below w _).trans (hb.mono (show w.heap.size ≤ _ by simp))).trans (hb2.mono (by omega))⟩

end Go.Proofs.YtgjbngfcllanmaaDoor
