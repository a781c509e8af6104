/- What the program's functions on nodes are to answer (to be proved of the landed code). -/
import Derived.Test.YtfefggcfeppeiaaGreatQLooksf
namespace Go.Proofs.YtfefggcfeppeiaaGreat
open Go.RowKit

def CNodeOk (f : FuncId) : Prop := ∀ (b : Bool) (a : Option Addr) (n cap : Nat) (xs : List It) (w : World), RdS itLay w a n cap xs →
  Calls Tryz.prog f #[.agg #[.bool b, .slice a n cap]] w fun e w' => e = .returned (.bool (nodeOkV b xs)) ∧ Below w.heap.size w w'
def CSameNode (f : FuncId) : Prop := ∀ (c d : Bool) (a a' : Option Addr) (n n' cap cap' : Nat) (xs ys : List It) (w : World), RdS itLay w a n cap xs → RdS itLay w a' n' cap' ys →
  Calls Tryz.prog f #[.agg #[.bool c, .slice a n cap], .agg #[.bool d, .slice a' n' cap']] w fun e w' => e = .returned (.bool ((c == d) && sameV xs ys)) ∧ Below w.heap.size w w'
def CBoundOf (f : FuncId) : Prop := ∀ (c : Bool) (a : Option Addr) (n cap : Nat) (xs : List It) (w : World), RdS itLay w a n cap xs → n ≤ 1099511627776 →
  Calls Tryz.prog f #[.agg #[.bool c, .slice a n cap]] w (RetBox (joinAll (xs.map boxOf)) w)
def CEntryAt (f : FuncId) : Prop := ∀ (a : Option Addr) (n cap : Nat) (xs : List It) (id : Int) (w : World), RdS itLay w a n cap xs →
  Calls Tryz.prog f #[.slice a n cap, .int .i64 id] w fun e w' => e = .returned (.int .i64 (atV id xs 0)) ∧ Below w.heap.size w w'
def CItemsOf (f : FuncId) : Prop := ∀ (b : Bool) (a : Option Addr) (n cap : Nat) (xs : List It) (w : World), RdS itLay w a n cap xs → n ≤ 1099511627776 →
  Calls Tryz.prog f #[.agg #[.bool b, .slice a n cap]] w (NewItems (if b then xs else []) w)
def CLeafOf (f : FuncId) : Prop := ∀ (a : Option Addr) (n cap : Nat) (xs : List It) (w : World), RdS itLay w a n cap xs → n ≤ 1099511627776 →
  Calls Tryz.prog f #[.slice a n cap] w (NewNode true xs w)
theorem sItemsOf_any : CItemsOf 40 := fun b a n cap xs w h hn => by
  cases b with
  | true => exact sItemsOf_leaf a n cap xs w h hn
  | false => exact sItemsOf_inner a n cap w
end Go.Proofs.YtfefggcfeppeiaaGreat
