/- The model's BoundOf: the join of all rectangles of a node's entries. -/
import Derived.Test.YtfgmjegemlkkkaaJoinAll
import Derived.Test.YtfgmjegemlkkkaaBoxS
import Derived.Test.YtfgmjegemlkkkaaLeafOf
namespace Go.Proofs.Ytfgmjegemlkkkaa
open Go.RowKit

def boxOf (x : It) : Bx := ⟨x.x0, x.y0, x.x1, x.y1⟩
theorem ownB_nil (w : World) (base g : Nat) (hg : w.heap.size = g) (hb : base ≤ g) : OwnS bxLay 33 (w.alloc (.cells #[] 33)) base (.slice (some ⟨g, 0, none⟩) 0 0) [] := own_nil w 33 4 base g hg hb
theorem ownB_more {w : World} {e : TypeId} {base : Nat} {v : Value} {bs : List Bx} {y : Bx} {k : Nat} (hx : bs[k]? = some y) (hl : (bs.take k).length = k) (h : w.ownsRow base e 4 v (k + 1) ((bs.take k).flatMap bxLay.cells ++ bxLay.cells y)) : OwnS bxLay e w base v (bs.take (k + 1)) := by
  show w.ownsRow base e 4 v _ _
  rw [List.take_add_one, hx, List.length_append, List.flatMap_append, hl]
  simpa using h
theorem boxes_at {xs : List It} {k : Nat} {x : It} (h : xs[k]? = some x) : (xs.map boxOf)[k]? = some (boxOf x) := by rw [List.getElem?_map, h]; rfl

end Go.Proofs.Ytfgmjegemlkkkaa
