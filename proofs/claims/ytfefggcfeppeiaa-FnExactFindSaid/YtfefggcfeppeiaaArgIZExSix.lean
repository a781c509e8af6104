/- What a law's arguments are: items by value and slices of them, as the rows hand them in. -/
import Derived.Test.YtfefggcfeppeiaaArgZExSix
import Derived.Test.YtfefggcfeppeiaaQExSixd
namespace Go.Proofs.Ytfefggcfeppeiaa
open Go.RowKit Go.Joins Go.ChangeShapes Go.WideShapes Go.Deep

section
variable {H : Type} {enc : TypeId × Value → H} {w : World} {base b0 : Nat} {r : Reach} {v : Value} {d : DataW H} {p : List MemPlace} {sp : Nat → Bool} {hd : Bool} {n : Nat} {cs : List Value} {y : DataW H × List MemPlace}

def WfI (x : It) : Prop := (Lit.int .i64 x.id).wf = true ∧ (Lit.int .i64 x.x0).wf = true ∧ (Lit.int .i64 x.y0).wf = true ∧ (Lit.int .i64 x.x1).wf = true ∧ (Lit.int .i64 x.y1).wf = true

end
end Go.Proofs.Ytfefggcfeppeiaa
