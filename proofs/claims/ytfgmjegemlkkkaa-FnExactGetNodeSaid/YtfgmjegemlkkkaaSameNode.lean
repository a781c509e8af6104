/- Whether two nodes are the same. -/
import Derived.Test.YtfgmjegemlkkkaaSameItems
import Derived.Test.YtfgmjegemlkkkaaNode
import Derived.BigQuiet
namespace Go.Proofs.Ytfgmjegemlkkkaa
open Go.RowKit

theorem neEntry_run (a b : It) (w : World) :
    (binOp .neq 35 (.agg #[.int .i64 a.id, .int .i64 a.x0, .int .i64 a.y0, .int .i64 a.x1, .int .i64 a.y1]) (.agg #[.int .i64 b.id, .int .i64 b.x0, .int .i64 b.y0, .int .i64 b.x1, .int .i64 b.y1])).run Try.prog w = .ok (.bool (!itEq a b)) w := by
  obtain ⟨i, x0, y0, x1, y1⟩ := a
  obtain ⟨j, u0, v0, u1, v1⟩ := b
  unfold itEq boxEq
  by_cases h : i = j
  · by_cases h0 : x0 = u0
    · by_cases h1 : y0 = v0
      · by_cases h2 : x1 = u1
        · by_cases h3 : y1 = v1
          all_goals go_simp
        · go_simp
      · go_simp
    · go_simp
  · go_simp


end Go.Proofs.Ytfgmjegemlkkkaa
