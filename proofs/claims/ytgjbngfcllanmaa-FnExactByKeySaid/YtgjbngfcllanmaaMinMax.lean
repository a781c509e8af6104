/- The smaller and the larger of two integers: the program's and the model's functions. -/
import Derived.Test.YtgjbngfcllanmaaBase
namespace Go.Proofs.Ytgjbngfcllanmaa
open Go.RowKit

def lst (a b : Int) : Int := if b < a then b else a
def mst (a b : Int) : Int := if b > a then b else a
theorem lst_min (a b : Int) : lst a b = min a b := by unfold lst; omega
theorem mst_max (a b : Int) : mst a b = max a b := by unfold mst; omega

end Go.Proofs.Ytgjbngfcllanmaa
