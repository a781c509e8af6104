/- The exact law of ItemText. -/
import Derived.Test.YtgjbngfcllanmaaDoorItemTextI
namespace Go.Proofs.YtgjbngfcllanmaaDoor
open Go.RowKit

set_option maxHeartbeats 400000 in
set_option maxRecDepth 100000 in
theorem exItemText_walk (x : It) (w : World) (hv : Lib.TabIs Tryd.prog w "internal/strconv.uint64pow10" .u64 Lib.pow10Tab) : Calls Tryd.prog 4 #[.agg #[.int .i64 x.id, .int .i64 x.x0, .int .i64 x.y0, .int .i64 x.x1, .int .i64 x.y1]] w fun e w' => e = .returned (.bool true) ∧ Below w.heap.size w w' := by
  obtain ⟨i, x0, y0, x1, y1⟩ := x
  have HV := Lib.hid hv
  clear hv
  go_enter Tryd.func4, Tryd.ntmps4
  go_wp2_with fail
  refine (toItem_any i x0 y0 x1 y1 _).mono ?_
  rintro e w1 ⟨rfl, hb⟩
  have B := (new_below w _).trans (hb.mono (show w.heap.size ≤ _ by simp))
  have k : ∀ o, w1.cell? ⟨w.heap.size, o, none⟩ = _ := fun o => hb.cell (p := ⟨w.heap.size, o, none⟩) (by simp)
  have s := hb.size
  simp at s
  clear hb
  go_wp2_with fail
  refine (sItemText_any i x0 y0 x1 y1 _).mono ?_
  rintro e w2 ⟨rfl, hb⟩
  replace B := B.trans (hb.mono (by omega))
  have k2 : ∀ o, w2.cell? ⟨w.heap.size, o, none⟩ = _ := fun o => (hb.cell (p := ⟨w.heap.size, o, none⟩) s).trans (k o)
  have s2 := hb.size
  clear hb k
  go_wp2_with fail
  refine (toItem_any i x0 y0 x1 y1 _).mono ?_
  rintro e w3 ⟨rfl, hb⟩
  have s3 := hb.size
  replace B := B.trans (hb.mono (by omega))
  clear hb k2
  go_wp2_with fail
  refine (iItemText_any i x0 y0 x1 y1 _ (var_kept HV.out B)).mono ?_
  rintro e w4 ⟨rfl, hb⟩
  replace B := B.trans (hb.mono (by omega))
  clear hb
  go_wp2
  go_ret
  exact ⟨rfl, B⟩
end Go.Proofs.YtgjbngfcllanmaaDoor
