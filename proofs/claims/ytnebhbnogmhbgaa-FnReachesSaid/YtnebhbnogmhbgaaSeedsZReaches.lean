/- The model's Waste and Seeds. -/
import Derived.Test.YtnebhbnogmhbgaaChooseZReaches
import Derived.Test.YtnebhbnogmhbgaaQReachesd
namespace Go.Proofs.Ytnebhbnogmhbgaa
open Go.RowKit
attribute [local go_sem ↓] Go.wp_at_zero Go.wp_at_succ

def areaO (b : Bx) : Int := areaB b.x0 b.y0 b.x1 b.y1
def growO (a r : Bx) : Int := areaO (joinB a r) - areaO a
def wasteO (a b : Bx) : Int := areaO (joinB a b) - areaO a - areaO b
theorem areaO_bd (b : Bx) : 0 ≤ areaO b ∧ areaO b ≤ 65536 := areaB_bd _ _ _ _
theorem growO_bd (a r : Bx) : -65536 ≤ growO a r ∧ growO a r ≤ 65536 := by
  have h1 := areaO_bd a
  have h2 := areaO_bd (joinB a r)
  unfold growO
  omega

theorem sAreaO (b : Bx) (w : World) : Calls Try.prog 134 #[.agg #[.int .i64 b.x0, .int .i64 b.y0, .int .i64 b.x1, .int .i64 b.y1]] w fun e w' => e = .returned (.int .i64 (areaO b)) ∧ Below w.heap.size w w' := sArea_any _ _ _ _ w
theorem sGrowthO (a r : Bx) (w : World) : Calls Try.prog 133 #[.agg #[.int .i64 a.x0, .int .i64 a.y0, .int .i64 a.x1, .int .i64 a.y1], .agg #[.int .i64 r.x0, .int .i64 r.y0, .int .i64 r.x1, .int .i64 r.y1]] w fun e w' => e = .returned (.int .i64 (growO a r)) ∧ Below w.heap.size w w' := sGrowth_any _ _ _ _ _ _ _ _ w

set_option maxRecDepth 100000 in
set_option maxHeartbeats 800000 in
theorem sWaste_any (a b : Bx) (w : World) : Calls Try.prog 143 #[.agg #[.int .i64 a.x0, .int .i64 a.y0, .int .i64 a.x1, .int .i64 a.y1], .agg #[.int .i64 b.x0, .int .i64 b.y0, .int .i64 b.x1, .int .i64 b.y1]] w fun e w' => e = .returned (.int .i64 (wasteO a b)) ∧ Below w.heap.size w w' := by
  obtain ⟨W0, hW0⟩ : ∃ W0, W0 = (w.alloc (.cells #[.int .i64 a.x0, .int .i64 a.y0, .int .i64 a.x1, .int .i64 a.y1] 89)).alloc (.cells #[.int .i64 b.x0, .int .i64 b.y0, .int .i64 b.x1, .int .i64 b.y1] 89) := ⟨_, rfl⟩
  have b0 : Below w.heap.size w W0 := by subst hW0; exact ((Below.refl _ _).alloc (Nat.le_refl _) _).alloc (by simp) _
  have KA : Loc W0 w.heap.size #[.int .i64 a.x0, .int .i64 a.y0, .int .i64 a.x1, .int .i64 a.y1] := by subst hW0; exact (Loc.new w _ _).alloc _
  have KB : Loc W0 (w.heap.size + 1) #[.int .i64 b.x0, .int .i64 b.y0, .int .i64 b.x1, .int .i64 b.y1] := by
    subst hW0
    have := Loc.new (w.alloc (.cells #[.int .i64 a.x0, .int .i64 a.y0, .int .i64 a.x1, .int .i64 a.y1] 89)) #[.int .i64 b.x0, .int .i64 b.y0, .int .i64 b.x1, .int .i64 b.y1] 89
    rw [show (w.alloc (.cells #[.int .i64 a.x0, .int .i64 a.y0, .int .i64 a.x1, .int .i64 a.y1] 89)).heap.size = w.heap.size + 1 by simp] at this
    exact this
  have a0 := cellq (KA.2.1 0)
  have a1 := cellq (KA.2.1 1)
  have a2 := cellq (KA.2.1 2)
  have a3 := cellq (KA.2.1 3)
  have c0 := cellq (KB.2.1 0)
  have c1 := cellq (KB.2.1 1)
  have c2 := cellq (KB.2.1 2)
  have c3 := cellq (KB.2.1 3)
  obtain ⟨j, hj⟩ : ∃ j, joinB a b = j := ⟨_, rfl⟩
  obtain ⟨g, hg⟩ : ∃ g, areaO j = g := ⟨_, rfl⟩
  obtain ⟨ga, hga⟩ : ∃ g, areaO a = g := ⟨_, rfl⟩
  obtain ⟨gb, hgb⟩ : ∃ g, areaO b = g := ⟨_, rfl⟩
  have d0 := areaO_bd j
  have d1 := areaO_bd a
  have d2 := areaO_bd b
  rw [hg] at d0
  rw [hga] at d1
  rw [hgb] at d2
  have hv : Hid (wasteO a b = g - ga - gb) := Lib.hid (by unfold wasteO; rw [hj, hg, hga, hgb])
  have hw1 : wrap64 (g - ga) = g - ga := by rw [← IntWalk.i64_left, IntKind.wrap_i64]; omega
  have hw2 : wrap64 (g - ga - gb) = g - ga - gb := by rw [← IntWalk.i64_left, IntKind.wrap_i64]; omega
  have CJ := Lib.hid (fun (W : World) d os => callr (w := W) (d := d) (os := os) (show Calls Try.prog 136 #[.agg #[.int .i64 a.x0, .int .i64 a.y0, .int .i64 a.x1, .int .i64 a.y1], .agg #[.int .i64 b.x0, .int .i64 b.y0, .int .i64 b.x1, .int .i64 b.y1]] _ (fun e w' => e = .returned (.agg #[.int .i64 j.x0, .int .i64 j.y0, .int .i64 j.x1, .int .i64 j.y1]) ∧ Below _ _ w') from hj ▸ sJoin_any a.x0 a.y0 a.x1 a.y1 b.x0 b.y0 b.x1 b.y1 _))
  have C0 := Lib.hid (fun (W : World) d os => callr (w := W) (d := d) (os := os) (hg ▸ sAreaO j _))
  have C1 := Lib.hid (fun (W : World) d os => callr (w := W) (d := d) (os := os) (hga ▸ sAreaO a _))
  have C2 := Lib.hid (fun (W : World) d os => callr (w := W) (d := d) (os := os) (hgb ▸ sAreaO b _))
  clear hj hg hga hgb
  go_enter Try.func143, Try.ntmps143
  go_wp2_with fail
  rw [← hW0]
  clear hW0
  refine wp_region_quiet_below (by kernel_rfl) (by kernel_rfl) ?_
  repeat (go_big_quiet_step (first | (with_reducible exact CJ.out _ _ _) | (with_reducible exact C0.out _ _ _) | (with_reducible exact C1.out _ _ _) | (with_reducible exact C2.out _ _ _)))
  refine wpQuiet_nil (quiet_end fun w2 b2 => ?_)
  go_wp2
  go_ret
  exact ⟨ret_i64' hv.out.symm, b0.trans (b2.mono b0.size)⟩
end Go.Proofs.Ytnebhbnogmhbgaa
