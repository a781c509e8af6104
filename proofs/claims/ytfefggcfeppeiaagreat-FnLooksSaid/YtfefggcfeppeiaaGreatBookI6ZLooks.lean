/- The program's SameBook: the library's EqualFunc over pages; pageOk. -/
import Derived.Test.YtfefggcfeppeiaaGreatBookI1ZLooks
import Derived.Test.YtfefggcfeppeiaaGreatQLooksf
import Derived.Test.YtfefggcfeppeiaaGreatNodeI1ZLooks
import Derived.Test.YtfefggcfeppeiaaGreatNodeI4ZLooks
namespace Go.Proofs.YtfefggcfeppeiaaGreat
open Go.RowKit

theorem sameV_nil (xs : List It) : sameV xs [] = xs.isEmpty := by
  cases xs <;> simp [sameV]

set_option maxRecDepth 100000 in
set_option maxHeartbeats 800000 in
theorem iPageOk_any (u c : Bool) (a : Option Addr) (n cap : Nat) (xs : List It) (w : World) (h : RdS itLay w a n cap xs) (r : Bool) (hr : pgOk ⟨u, c, xs⟩ = r) :
    Calls Tryz.prog 49 #[.agg #[.bool u, .bool c, .slice a n cap]] w fun e w' => e = .returned (.bool r) ∧ Below w.heap.size w w' := by
  have B0 := new_below w (.cells #[.bool u, .bool c, .slice a n cap] 70)
  have h2 := Lib.hid (h.below B0)
  clear h
  cases u with
  | true =>
    have hv : Hid (nodeOkV c xs = r) := hr
    have C := Lib.hid (iNodeOk_any c a n cap xs _ h2.out)
    clear hr
    go_enter Tryz.func49, Tryz.ntmps49
    go_wp2_with fail
    refine C.out.mono ?_
    rintro e w1 ⟨rfl, hb⟩
    rw [hv.out]
    go_wp2
    go_ret
    exact ⟨rfl, B0.trans (hb.mono B0.size)⟩
  | false =>
    have hv : Hid (((c == false) && sameV xs []) = r) := by
      show _ = _
      rw [← hr, sameV_nil]
      cases c <;> rfl
    have C := Lib.hid (iSameNode_any c false a none n 0 cap 0 xs [] _ h2.out (rdS_nil _))
    clear hr
    go_enter Tryz.func49, Tryz.ntmps49
    go_wp2_with fail
    refine C.out.mono ?_
    rintro e w1 ⟨rfl, hb⟩
    rw [hv.out]
    go_wp2
    go_ret
    exact ⟨rfl, B0.trans (hb.mono B0.size)⟩
end Go.Proofs.YtfefggcfeppeiaaGreat
