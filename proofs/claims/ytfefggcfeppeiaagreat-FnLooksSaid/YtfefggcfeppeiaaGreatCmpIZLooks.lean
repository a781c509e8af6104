/- The program's comparisons of items. -/
import Derived.Test.YtfefggcfeppeiaaGreatCurveIZLooks
import Derived.Test.YtfefggcfeppeiaaGreatQLooksf
namespace Go.Proofs.YtfefggcfeppeiaaGreat
open Go.RowKit

def cmpV (a b : Int) : Int := if a < b then -1 else if b < a then 1 else 0
def orV (p q : Int) : Int := if p = 0 then q else p

end Go.Proofs.YtfefggcfeppeiaaGreat
