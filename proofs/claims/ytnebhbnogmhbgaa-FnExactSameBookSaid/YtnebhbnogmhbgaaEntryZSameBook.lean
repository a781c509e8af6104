/- The laws' own helpers on entries. -/
import Derived.Test.YtnebhbnogmhbgaaItemZSameBook
namespace Go.Proofs.Ytnebhbnogmhbgaa
open Go.RowKit

set_option maxRecDepth 100000 in
set_option maxHeartbeats 400000 in
/-- laws.toItem: the same item in the program's own type. -/
theorem toEntry_any (id x0 y0 x1 y1 : Int) (w : World) : Calls Try.prog 103 #[.agg #[.int .i64 id, .int .i64 x0, .int .i64 y0, .int .i64 x1, .int .i64 y1]] w fun e w' =>
    e = .returned (.agg #[.int .i64 id, .int .i64 x0, .int .i64 y0, .int .i64 x1, .int .i64 y1]) ∧ Below w.heap.size w w' := by
  go_enter Try.func103, Try.ntmps103
  go_wp2_with fail
  refine (toBox_any x0 y0 x1 y1 _).mono ?_
  rintro e w1 ⟨rfl, hb⟩
  have K := below_keep hb (by simp) _ _ (blk_new2 w _ _ _ _)
  have J := below_keep hb (by simp) _ _ (blk_alloc _ (by simp) _ _ (blk_new1 w _ _ _))
  have s1 := hb.size
  simp at s1
  have B := ((((Below.refl _ _).alloc (Nat.le_refl _) _).alloc (by simp) _).alloc (by simp; omega) _).trans (hb.mono (show w.heap.size ≤ _ by simp; omega))
  clear hb
  obtain ⟨k0, f0⟩ := K
  obtain ⟨j0, g0⟩ := J
  have hl : w.heap.size + 1 + 1 < w1.heap.size := by omega
  have hl' : w.heap.size + 1 < w1.heap.size := by omega
  go_wp2
  refine bodyPost_ret (v := .agg #[.int .i64 id, .int .i64 x0, .int .i64 y0, .int .i64 x1, .int .i64 y1]) (by simp [results, Try.results103, go_sem, j0]) rfl ⟨rfl, ?_⟩
  exact (((((((((B).setCell (p := ⟨w.heap.size + 1 + 1, 1, none⟩) (show w.heap.size ≤ w.heap.size + 1 + 1 by omega) _).setCell (p := ⟨w.heap.size + 1 + 1, 2, none⟩) (show w.heap.size ≤ w.heap.size + 1 + 1 by omega) _).setCell (p := ⟨w.heap.size + 1 + 1, 3, none⟩) (show w.heap.size ≤ w.heap.size + 1 + 1 by omega) _).setCell (p := ⟨w.heap.size + 1 + 1, 4, none⟩) (show w.heap.size ≤ w.heap.size + 1 + 1 by omega) _).setCell (p := ⟨w.heap.size + 1, 0, none⟩) (show w.heap.size ≤ w.heap.size + 1 by omega) _).setCell (p := ⟨w.heap.size + 1, 1, none⟩) (show w.heap.size ≤ w.heap.size + 1 by omega) _).setCell (p := ⟨w.heap.size + 1, 2, none⟩) (show w.heap.size ≤ w.heap.size + 1 by omega) _).setCell (p := ⟨w.heap.size + 1, 3, none⟩) (show w.heap.size ≤ w.heap.size + 1 by omega) _).setCell (p := ⟨w.heap.size + 1, 4, none⟩) (show w.heap.size ≤ w.heap.size + 1 by omega) _

set_option maxRecDepth 100000 in
set_option maxHeartbeats 400000 in
/-- laws.eqItem: field by field. -/
theorem eqEntry_any (a b : It) (w : World) : Calls Try.prog 102 #[.agg #[.int .i64 a.id, .int .i64 a.x0, .int .i64 a.y0, .int .i64 a.x1, .int .i64 a.y1], .agg #[.int .i64 b.id, .int .i64 b.x0, .int .i64 b.y0, .int .i64 b.x1, .int .i64 b.y1]] w fun e w' =>
    e = .returned (.bool (itEq a b)) ∧ Below w.heap.size w w' := by
  obtain ⟨i, x0, y0, x1, y1⟩ := a
  obtain ⟨j, u0, v0, u1, v1⟩ := b
  by_cases h : i = j
  · subst h
    cases hb : boxEq x0 y0 x1 y1 u0 v0 u1 v1 with
    | true =>
      have hr : Hid (itEq ⟨i, x0, y0, x1, y1⟩ ⟨i, u0, v0, u1, v1⟩ = true) := by show itEq _ _ = _; unfold itEq; simp [hb]
      go_enter Try.func102, Try.ntmps102
      go_wp2_with fail
      refine (eqBox_any x0 y0 x1 y1 u0 v0 u1 v1 _).mono ?_
      rw [hb]
      rintro e w1 ⟨rfl, hj⟩
      go_wp2
      go_ret
      exact ⟨ret_bool hr.out.symm, (((Below.refl _ _).alloc (Nat.le_refl _) _).alloc (by simp) _).trans (hj.mono (by simp; omega))⟩
    | false =>
      have hr : Hid (itEq ⟨i, x0, y0, x1, y1⟩ ⟨i, u0, v0, u1, v1⟩ = false) := by show itEq _ _ = _; unfold itEq; simp [hb]
      go_enter Try.func102, Try.ntmps102
      go_wp2_with fail
      refine (eqBox_any x0 y0 x1 y1 u0 v0 u1 v1 _).mono ?_
      rw [hb]
      rintro e w1 ⟨rfl, hj⟩
      go_wp2
      go_ret
      exact ⟨ret_bool hr.out.symm, (((Below.refl _ _).alloc (Nat.le_refl _) _).alloc (by simp) _).trans (hj.mono (by simp; omega))⟩
  · have hr : Hid (itEq ⟨i, x0, y0, x1, y1⟩ ⟨j, u0, v0, u1, v1⟩ = false) := by show itEq _ _ = _; unfold itEq; simp [h]
    have h1 : (i != j) = true := by simpa using h
    clear h
    go_enter Try.func102, Try.ntmps102
    go_wp2
    go_ret
    exact ⟨ret_bool hr.out.symm, ((Below.refl _ _).alloc (Nat.le_refl _) _).alloc (by simp) _⟩
end Go.Proofs.Ytnebhbnogmhbgaa
