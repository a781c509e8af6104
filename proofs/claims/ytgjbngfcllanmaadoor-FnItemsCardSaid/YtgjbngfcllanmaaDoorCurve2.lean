/- The model's functions over the curve: the middle of a rectangle, its key, how far two positions lie apart. -/
import Derived.Test.YtgjbngfcllanmaaDoorCurve
import Derived.Test.YtgjbngfcllanmaaDoorKeep
import Derived.Test.YtgjbngfcllanmaaDoorQuiet
namespace Go.Proofs.YtgjbngfcllanmaaDoor
open Go.RowKit

def midV (a b : Int) : Int := wrap64 ((wrap64 (a + b)).tdiv 2)
theorem drewN_below (W : World) (n : Nat) : Below W.heap.size W (W.drewN n) := ⟨rfl, rfl, rfl, Nat.le_refl _, fun _ _ => rfl⟩
def keyV (x0 y0 x1 y1 : Int) : Int := alongV (midV x0 x1) (midV y0 y1)
def apartV (a b : Int) : Int := gapI (pointV a).1 (pointV b).1 + gapI (pointV a).2 (pointV b).2

set_option maxHeartbeats 400000 in
theorem sMiddle_any (x0 y0 x1 y1 : Int) (w : World) : Calls Tryd.prog 59 #[.agg #[.int .i64 x0, .int .i64 y0, .int .i64 x1, .int .i64 y1]] w fun e w' =>
    e = .returned (.tuple #[.int .i64 (midV x0 x1), .int .i64 (midV y0 y1)]) ∧ Below w.heap.size w w' := by
  go_enter Tryd.func59, Tryd.ntmps59
  go_wp2
  go_quiet (fail)
  go_wp2
  go_ret2
  exact ⟨rfl, (new_below w _).trans ((drewN_below _ _).mono (show w.heap.size ≤ _ by simp))⟩

set_option maxHeartbeats 400000 in
theorem sKeyOf_any (x0 y0 x1 y1 : Int) (w : World) : Calls Tryd.prog 44 #[.agg #[.int .i64 x0, .int .i64 y0, .int .i64 x1, .int .i64 y1]] w fun e w' =>
    e = .returned (.int .i64 (keyV x0 y0 x1 y1)) ∧ Below w.heap.size w w' := by
  go_enter Tryd.func44, Tryd.ntmps44
  go_wp2_with fail
  refine (sMiddle_any _ _ _ _ _).mono ?_
  rintro e w1 ⟨rfl, hb⟩
  go_wp2_with fail
  refine (sAlong_any _ _ _).mono ?_
  rintro e w2 ⟨rfl, rfl⟩
  go_wp2
  go_ret
  exact ⟨rfl, (new_below w _).trans (hb.mono (show w.heap.size ≤ _ by simp))⟩

theorem pointV_in (d : Int) : (0 ≤ (pointV d).1 ∧ (pointV d).1 ≤ 255) ∧ 0 ≤ (pointV d).2 ∧ (pointV d).2 ≤ 255 := by
  unfold pointV
  split
  · have := pnt_in 8 d
    have e : pw 8 = 256 := rfl
    omega
  · exact ⟨⟨by decide, by decide⟩, by decide, by decide⟩

end Go.Proofs.YtgjbngfcllanmaaDoor
