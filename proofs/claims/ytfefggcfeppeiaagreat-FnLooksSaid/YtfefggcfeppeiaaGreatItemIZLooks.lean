/- The program's ItemOk and Ahead. -/
import Derived.Test.YtfefggcfeppeiaaGreatCmpIZLooks
namespace Go.Proofs.YtfefggcfeppeiaaGreat
open Go.RowKit

set_option maxRecDepth 100000 in
set_option maxHeartbeats 400000 in
theorem iItemOk_any (i x0 y0 x1 y1 : Int) (w : World) : Calls Tryz.prog 93 #[.agg #[.int .i64 i, .int .i64 x0, .int .i64 y0, .int .i64 x1, .int .i64 y1]] w fun e w' =>
    e = .returned (.bool (itOk i x0 y0 x1 y1)) ∧ Below w.heap.size w w' := by
  rcases (by omega : ¬ 1 ≤ i ∨ (1 ≤ i ∧ ¬ i ≤ 999) ∨ (1 ≤ i ∧ i ≤ 999)) with h | ⟨h, h2⟩ | ⟨h, h2⟩
  · have hr : Hid (itOk i x0 y0 x1 y1 = false) := by show itOk _ _ _ _ _ = _; unfold itOk inB; rw [decide_eq_false (by omega)]; rfl
    have hb : decide (i ≥ 1) = false := decide_eq_false (by omega)
    go_enter Tryz.func93, Tryz.ntmps93
    go_wp2
    go_ret
    exact ⟨ret_bool hr.out.symm, (Below.refl _ _).alloc (Nat.le_refl _) _⟩
  · have hr : Hid (itOk i x0 y0 x1 y1 = false) := by show itOk _ _ _ _ _ = _; unfold itOk inB; rw [decide_eq_false (by omega)]; rfl
    go_enter Tryz.func93, Tryz.ntmps93
    go_wp2
    go_ret
    exact ⟨ret_bool hr.out.symm, (Below.refl _ _).alloc (Nat.le_refl _) _⟩
  · have hr : Hid (itOk i x0 y0 x1 y1 = okB x0 y0 x1 y1) := by show itOk _ _ _ _ _ = _; unfold itOk inB; rw [decide_eq_true (by omega)]; rfl
    go_enter Tryz.func93, Tryz.ntmps93
    go_wp2_with fail
    refine (iBoxOk_any x0 y0 x1 y1 _).mono ?_
    rintro e w2 ⟨rfl, hj⟩
    go_wp2
    go_ret
    exact ⟨ret_bool hr.out.symm, ((Below.refl _ _).alloc (Nat.le_refl _) _).trans (hj.mono (by simp))⟩

theorem cmpV_neg (a b : Int) : cmpV a b < 0 ↔ a < b := by
  unfold cmpV
  split
  · omega
  · split <;> omega
theorem cmpV_zero (a b : Int) : cmpV a b = 0 ↔ a = b := by
  unfold cmpV
  split
  · omega
  · split <;> omega
theorem orV_ahead (p i q j : Int) : aheadV p i q j = decide (orV (cmpV p q) (cmpV i j) < 0) := by
  have h1 := cmpV_neg p q
  have h2 := cmpV_neg i j
  have h3 := cmpV_zero p q
  unfold orV aheadV
  split
  · rename_i h
    have e := h3.1 h
    subst e
    simp [h2]
  · rename_i h
    have e : p ≠ q := fun e => h (h3.2 e)
    simp [h1, e]

end Go.Proofs.YtfefggcfeppeiaaGreat
