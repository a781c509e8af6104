/- The model's functions over the curve: the middle of a rectangle, its key, how far two positions lie apart. -/
import Derived.Test.YtfednafegfihpaaCurve
import Derived.Test.YtfednafegfihpaaKeep
import Derived.Test.YtfednafegfihpaaQuiet
namespace Go.Proofs.Ytfednafegfihpaa
open Go.RowKit

def midV (a b : Int) : Int := wrap64 ((wrap64 (a + b)).tdiv 2)
theorem drewN_below (W : World) (n : Nat) : Below W.heap.size W (W.drewN n) := ⟨rfl, rfl, rfl, Nat.le_refl _, fun _ _ => rfl⟩
def keyV (x0 y0 x1 y1 : Int) : Int := alongV (midV x0 x1) (midV y0 y1)
def apartV (a b : Int) : Int := gapI (pointV a).1 (pointV b).1 + gapI (pointV a).2 (pointV b).2

set_option maxHeartbeats 400000 in
theorem sMiddle_any (x0 y0 x1 y1 : Int) (w : World) : Calls Try.prog 24 #[.agg #[.int .i64 x0, .int .i64 y0, .int .i64 x1, .int .i64 y1]] w fun e w' =>
    e = .returned (.tuple #[.int .i64 (midV x0 x1), .int .i64 (midV y0 y1)]) ∧ Below w.heap.size w w' := by
  go_enter Try.func24, Try.ntmps24
  go_wp2
  go_quiet (fail)
  go_wp2
  go_ret2
  exact ⟨rfl, (new_below w _).trans ((drewN_below _ _).mono (show w.heap.size ≤ _ by simp))⟩

set_option maxHeartbeats 400000 in
theorem sKeyOf_any (x0 y0 x1 y1 : Int) (w : World) : Calls Try.prog 23 #[.agg #[.int .i64 x0, .int .i64 y0, .int .i64 x1, .int .i64 y1]] w fun e w' =>
    e = .returned (.int .i64 (keyV x0 y0 x1 y1)) ∧ Below w.heap.size w w' := by
  go_enter Try.func23, Try.ntmps23
  go_wp2_with fail
  refine (sMiddle_any _ _ _ _ _).mono ?_
  rintro e w1 ⟨rfl, hb⟩
  go_wp2_with fail
  refine (sAlong_any _ _ _).mono ?_
  rintro e w2 ⟨rfl, rfl⟩
  go_wp2
  go_ret
  exact ⟨rfl, (new_below w _).trans (hb.mono (show w.heap.size ≤ _ by simp))⟩

theorem pointV_in (d : Int) : (0 ≤ (pointV d).1 ∧ (pointV d).1 ≤ 255) ∧ 0 ≤ (pointV d).2 ∧ (pointV d).2 ≤ 255 := by
  unfold pointV
  split
  · have := pnt_in 8 d
    have e : pw 8 = 256 := rfl
    omega
  · exact ⟨⟨by decide, by decide⟩, by decide, by decide⟩

set_option maxHeartbeats 400000 in
theorem sGap_any (a b : Int) (w : World) (ha : 0 ≤ a ∧ a ≤ 255) (hb : 0 ≤ b ∧ b ≤ 255) : Calls Try.prog 36 #[.int .i64 a, .int .i64 b] w fun e w' => e = .returned (.int .i64 (gapI a b)) ∧ w = w' := by
  obtain ⟨a0, a1⟩ := ha
  obtain ⟨b0, b1⟩ := hb
  by_cases h : a < b
  · have hr : Hid (gapI a b = b - a) := if_pos h
    go_enter Try.func36, Try.ntmps36
    go_wp2
    go_ret
    exact ⟨ret_i64 hr.out.symm, rfl⟩
  · have hr : Hid (gapI a b = a - b) := if_neg h
    go_enter Try.func36, Try.ntmps36
    go_wp2
    go_ret
    exact ⟨ret_i64 hr.out.symm, rfl⟩

set_option maxHeartbeats 400000 in
theorem sApart_any (a b : Int) (w : World) : Calls Try.prog 21 #[.int .i64 a, .int .i64 b] w fun e w' => e = .returned (.int .i64 (apartV a b)) ∧ w = w' := by
  obtain ⟨⟨p0, p1⟩, p2, p3⟩ := pointV_in a
  obtain ⟨⟨q0, q1⟩, q2, q3⟩ := pointV_in b
  have g1 : 0 ≤ gapI (pointV a).1 (pointV b).1 ∧ gapI (pointV a).1 (pointV b).1 ≤ 255 := by unfold gapI; split <;> omega
  have g2 : 0 ≤ gapI (pointV a).2 (pointV b).2 ∧ gapI (pointV a).2 (pointV b).2 ≤ 255 := by unfold gapI; split <;> omega
  obtain ⟨g10, g11⟩ := g1
  obtain ⟨g20, g21⟩ := g2
  go_enter Try.func21, Try.ntmps21
  go_wp2_with fail
  refine (sPointAt_any _ _).mono ?_
  rintro e w1 ⟨rfl, rfl⟩
  go_wp2_with fail
  refine (sPointAt_any _ _).mono ?_
  rintro e w1 ⟨rfl, rfl⟩
  go_wp2_with fail
  refine (sGap_any _ _ _ ⟨p0, p1⟩ ⟨q0, q1⟩).mono ?_
  rintro e w1 ⟨rfl, rfl⟩
  go_wp2_with fail
  refine (sGap_any _ _ _ ⟨p2, p3⟩ ⟨q2, q3⟩).mono ?_
  rintro e w1 ⟨rfl, rfl⟩
  go_wp2
  go_ret
  exact ⟨rfl, rfl⟩
end Go.Proofs.Ytfednafegfihpaa
