/- The program's sorts. -/
import Derived.Test.YtgjbngfcllanmaaDoorStabJ
import Derived.Test.YtgjbngfcllanmaaDoorItemI
namespace Go.Proofs.YtgjbngfcllanmaaDoor
open Go.RowKit

theorem ids_cmp : CmpI 34 (fun x y => cmpV x.id y.id) := fun x y W => compareIds_any x.id x.x0 x.y0 x.x1 x.y1 y.id y.x0 y.y0 y.x1 y.y1 W
theorem ids_lt (x y : It) : ltId x y = decide ((fun x y : It => cmpV x.id y.id) x y < 0) := by
  unfold ltId
  rw [decide_eq_decide]
  exact (cmpV_neg x.id y.id).symm
theorem curve_cmp : CmpI 33 (fun x y => orV (cmpV (keyV x.x0 x.y0 x.x1 x.y1) (keyV y.x0 y.y0 y.x1 y.y1)) (cmpV x.id y.id)) := fun x y W => compareOnCurve_any x.id x.x0 x.y0 x.x1 x.y1 y.id y.x0 y.y0 y.x1 y.y1 W
theorem curve_lt (x y : It) : ltKey x y = decide ((fun x y : It => orV (cmpV (keyV x.x0 x.y0 x.x1 x.y1) (keyV y.x0 y.y0 y.x1 y.y1)) (cmpV x.id y.id)) x y < 0) := orV_ahead _ _ _ _

set_option maxHeartbeats 800000 in
theorem iById_any (a : Option Addr) (n cap : Nat) (xs : List It) (w : World) (h : RdS itLay w a n cap xs) (hn : n ≤ 1099511627776) :
    Calls Tryd.prog 9 #[.slice a n cap] w (NewItems (sortB ltId xs) w) := by
  have C := Lib.hid (sorted_any a n cap 34 _ ltId (enters_of Tryd.func34 (by kernel_rfl) rfl) ids_cmp ids_lt strict_id xs w h hn)
  clear h
  go_enter Tryd.func9, Tryd.ntmps9
  go_wp2_with fail
  refine C.out.mono ?_
  rintro e w1 ⟨v, rfl, ho, hb⟩
  go_wp2
  go_ret
  exact ⟨v, rfl, ho, hb⟩
set_option maxHeartbeats 800000 in
theorem iByKey_any (a : Option Addr) (n cap : Nat) (xs : List It) (w : World) (h : RdS itLay w a n cap xs) (hn : n ≤ 1099511627776) :
    Calls Tryd.prog 7 #[.slice a n cap] w (NewItems (sortB ltKey xs) w) := by
  have C := Lib.hid (sorted_any a n cap 33 _ ltKey (enters_of Tryd.func33 (by kernel_rfl) rfl) curve_cmp curve_lt strict_key xs w h hn)
  clear h
  go_enter Tryd.func7, Tryd.ntmps7
  go_wp2_with fail
  refine C.out.mono ?_
  rintro e w1 ⟨v, rfl, ho, hb⟩
  go_wp2
  go_ret
  exact ⟨v, rfl, ho, hb⟩
end Go.Proofs.YtgjbngfcllanmaaDoor
