/- The join of all rectangles contains each of them: the mathematics. -/
import Derived.Test.YtckdkijhkgicnaaJoinAll
namespace Go.Proofs.Ytckdkijhkgicnaa
open Go.RowKit

theorem joinB_comm (a b : Bx) : joinB a b = joinB b a := by simp only [joinB, lst_min, mst_max, Bx.mk.injEq]; omega
theorem joinB_assoc (a b c : Bx) : joinB (joinB a b) c = joinB a (joinB b c) := by simp only [joinB, lst_min, mst_max, Bx.mk.injEq]; omega
theorem foldl_joinB (x : Bx) (l : List Bx) (y : Bx) : l.foldl joinB (joinB x y) = joinB x (l.foldl joinB y) := by
  induction l generalizing y with
  | nil => rfl
  | cons z l ih => rw [List.foldl_cons, List.foldl_cons, joinB_assoc, ih]
theorem joinAll_cons (x : Bx) (l : List Bx) (h : l ≠ []) : joinAll (x :: l) = joinB x (joinAll l) := by
  cases l with
  | nil => exact absurd rfl h
  | cons y l => show (y :: l).foldl joinB x = joinB x (l.foldl joinB y); rw [List.foldl_cons, foldl_joinB]
theorem joinAll_reverse (l : List Bx) : joinAll l.reverse = joinAll l := by
  induction l with
  | nil => rfl
  | cons x l ih =>
    rw [List.reverse_cons]
    by_cases h : l = []
    · subst h; rfl
    · rw [joinAll_snoc _ _ (by simpa using h), ih, joinAll_cons x l h, joinB_comm]
/-- b lies in a. -/
def Has (a b : Bx) : Prop := a.x0 ≤ b.x0 ∧ a.y0 ≤ b.y0 ∧ b.x1 ≤ a.x1 ∧ b.y1 ≤ a.y1
theorem has_joinB (a b : Bx) : Has (joinB a b) a ∧ Has (joinB a b) b := by simp only [Has, joinB, lst_min, mst_max]; omega
theorem has_trans {a b c : Bx} (h : Has a b) (k : Has b c) : Has a c := by unfold Has at *; omega
theorem joinAll_has (l : List Bx) (x : Bx) (hx : x ∈ l) : Has (joinAll l) x := by
  induction l with
  | nil => cases hx
  | cons y l ih =>
    by_cases h : l = []
    · subst h
      obtain rfl : x = y := by simpa using hx
      show Has x x
      unfold Has; omega
    · rw [joinAll_cons y l h]
      rcases List.mem_cons.1 hx with rfl | hx
      · exact (has_joinB _ _).1
      · exact has_trans (has_joinB _ _).2 (ih hx)
end Go.Proofs.Ytckdkijhkgicnaa
