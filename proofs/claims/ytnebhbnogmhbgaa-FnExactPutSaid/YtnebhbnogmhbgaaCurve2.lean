/- The model's functions over the curve: the middle of a rectangle, its key, how far two positions lie apart. -/
import Derived.Test.YtnebhbnogmhbgaaCurve
import Derived.Test.YtnebhbnogmhbgaaKeep
import Derived.Test.YtnebhbnogmhbgaaQuiet
namespace Go.Proofs.Ytnebhbnogmhbgaa
open Go.RowKit

def midV (a b : Int) : Int := wrap64 ((wrap64 (a + b)).tdiv 2)
theorem drewN_below (W : World) (n : Nat) : Below W.heap.size W (W.drewN n) := ⟨rfl, rfl, rfl, Nat.le_refl _, fun _ _ => rfl⟩
def keyV (x0 y0 x1 y1 : Int) : Int := alongV (midV x0 x1) (midV y0 y1)
def apartV (a b : Int) : Int := gapI (pointV a).1 (pointV b).1 + gapI (pointV a).2 (pointV b).2

theorem pointV_in (d : Int) : (0 ≤ (pointV d).1 ∧ (pointV d).1 ≤ 255) ∧ 0 ≤ (pointV d).2 ∧ (pointV d).2 ≤ 255 := by
  unfold pointV
  split
  · have := pnt_in 8 d
    have e : pw 8 = 256 := rfl
    omega
  · exact ⟨⟨by decide, by decide⟩, by decide, by decide⟩

end Go.Proofs.Ytnebhbnogmhbgaa
