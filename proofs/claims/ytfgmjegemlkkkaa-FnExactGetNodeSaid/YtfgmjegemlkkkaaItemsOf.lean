/- The model's ItemsOf: the entries of a leaf as items; of an inner node none. -/
import Derived.Test.YtfgmjegemlkkkaaLeafOf
namespace Go.Proofs.Ytfgmjegemlkkkaa
open Go.RowKit
attribute [local go_sem ↓] Go.wp_at_zero Go.wp_at_succ

end Go.Proofs.Ytfgmjegemlkkkaa
