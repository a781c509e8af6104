/- The program's comparisons of items. -/
import Derived.Test.YtfefggcfeppeiaaCurveIZPages
import Derived.Test.YtfefggcfeppeiaaQPagesd
namespace Go.Proofs.Ytfefggcfeppeiaa
open Go.RowKit

def cmpV (a b : Int) : Int := if a < b then -1 else if b < a then 1 else 0
def orV (p q : Int) : Int := if p = 0 then q else p

end Go.Proofs.Ytfefggcfeppeiaa
