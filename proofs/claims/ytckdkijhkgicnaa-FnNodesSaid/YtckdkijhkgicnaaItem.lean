/- Items: the laws' own helpers, and the functions over one item or two. -/
import Derived.Test.YtckdkijhkgicnaaRow
import Derived.Test.YtckdkijhkgicnaaBox2
import Derived.Test.YtckdkijhkgicnaaKeep
import Derived.Test.YtckdkijhkgicnaaCurve2
import Derived.Deep.RegionWith
namespace Go.Proofs.Ytckdkijhkgicnaa
open Go.RowKit

/-- An item. -/
structure It where
  id : Int
  x0 : Int
  y0 : Int
  x1 : Int
  y1 : Int

def itLay : Lay It := ⟨5, fun b => [.int .i64 b.id, .int .i64 b.x0, .int .i64 b.y0, .int .i64 b.x1, .int .i64 b.y1], fun _ => rfl, by decide, fun x u hu => by simp at hu; rcases hu with rfl | rfl | rfl | rfl | rfl <;> rfl⟩

/-- An item's five cells in a slice. -/
theorem rdIt_at {w : World} {a : Option Addr} {n cap i : Nat} {xs : List It} (h : RdS itLay w a n cap xs) (hi : i < n) :
    ∃ b off x, a = some ⟨b, off, none⟩ ∧ b < w.heap.size ∧ xs[i]? = some x ∧ w.cell? ⟨b, off + i * 5, none⟩ = some (.int .i64 x.id) ∧ w.cell? ⟨b, off + i * 5 + 1, none⟩ = some (.int .i64 x.x0) ∧ w.cell? ⟨b, off + i * 5 + 2, none⟩ = some (.int .i64 x.y0) ∧
      w.cell? ⟨b, off + i * 5 + 3, none⟩ = some (.int .i64 x.x1) ∧ w.cell? ⟨b, off + i * 5 + 4, none⟩ = some (.int .i64 x.y1) := by
  obtain ⟨b, off, e, hlt, x, hx, hc⟩ := h.at_ hi
  exact ⟨b, off, x, e, hlt, hx, hc 0 _ rfl, hc 1 _ rfl, hc 2 _ rfl, hc 3 _ rfl, hc 4 _ rfl⟩

theorem blk_new2 (W : World) (O O' : Obj) (cs : Array Value) (t : TypeId) : (∀ o, (((W.alloc O).alloc O').alloc (.cells cs t)).cell? ⟨W.heap.size + 1 + 1, o, none⟩ = cs[o]?) ∧ (∀ o, (((W.alloc O).alloc O').alloc (.cells cs t)).frozen? ⟨W.heap.size + 1 + 1, o, none⟩ = false) := by
  have h := blk_new ((W.alloc O).alloc O') cs t
  rw [show ((W.alloc O).alloc O').heap.size = W.heap.size + 1 + 1 by simp] at h
  exact h

set_option maxHeartbeats 400000 in
/-- laws.toItem: the same item in the program's own type. -/
theorem toItem_any (id x0 y0 x1 y1 : Int) (w : World) : Calls Try.prog 68 #[.agg #[.int .i64 id, .int .i64 x0, .int .i64 y0, .int .i64 x1, .int .i64 y1]] w fun e w' =>
    e = .returned (.agg #[.int .i64 id, .int .i64 x0, .int .i64 y0, .int .i64 x1, .int .i64 y1]) ∧ Below w.heap.size w w' := by
  go_enter Try.func68, Try.ntmps68
  go_wp2_with fail
  refine (toBox_any x0 y0 x1 y1 _).mono ?_
  rintro e w1 ⟨rfl, hb⟩
  have K := below_keep hb (by simp) _ _ (blk_new2 w _ _ _ _)
  have J := below_keep hb (by simp) _ _ (blk_alloc _ (by simp) _ _ (blk_new1 w _ _ _))
  have s1 := hb.size
  simp at s1
  have B := ((((Below.refl _ _).alloc (Nat.le_refl _) _).alloc (by simp) _).alloc (by simp; omega) _).trans (hb.mono (show w.heap.size ≤ _ by simp; omega))
  clear hb
  obtain ⟨k0, f0⟩ := K
  obtain ⟨j0, g0⟩ := J
  have hl : w.heap.size + 1 + 1 < w1.heap.size := by omega
  have hl' : w.heap.size + 1 < w1.heap.size := by omega
  go_wp2
  refine bodyPost_ret (v := .agg #[.int .i64 id, .int .i64 x0, .int .i64 y0, .int .i64 x1, .int .i64 y1]) (by simp [results, Try.results68, go_sem, j0]) rfl ⟨rfl, ?_⟩
  exact (((((((((B).setCell (p := ⟨w.heap.size + 1 + 1, 1, none⟩) (show w.heap.size ≤ w.heap.size + 1 + 1 by omega) _).setCell (p := ⟨w.heap.size + 1 + 1, 2, none⟩) (show w.heap.size ≤ w.heap.size + 1 + 1 by omega) _).setCell (p := ⟨w.heap.size + 1 + 1, 3, none⟩) (show w.heap.size ≤ w.heap.size + 1 + 1 by omega) _).setCell (p := ⟨w.heap.size + 1 + 1, 4, none⟩) (show w.heap.size ≤ w.heap.size + 1 + 1 by omega) _).setCell (p := ⟨w.heap.size + 1, 0, none⟩) (show w.heap.size ≤ w.heap.size + 1 by omega) _).setCell (p := ⟨w.heap.size + 1, 1, none⟩) (show w.heap.size ≤ w.heap.size + 1 by omega) _).setCell (p := ⟨w.heap.size + 1, 2, none⟩) (show w.heap.size ≤ w.heap.size + 1 by omega) _).setCell (p := ⟨w.heap.size + 1, 3, none⟩) (show w.heap.size ≤ w.heap.size + 1 by omega) _).setCell (p := ⟨w.heap.size + 1, 4, none⟩) (show w.heap.size ≤ w.heap.size + 1 by omega) _

/-- Equality of items, field by field. -/
def itEq (a b : It) : Bool := a.id == b.id && boxEq a.x0 a.y0 a.x1 a.y1 b.x0 b.y0 b.x1 b.y1
theorem itEq_self (a : It) : itEq a a = true := by unfold itEq; rw [boxEq_self]; simp
theorem itEq_iff (a b : It) : itEq a b = true ↔ a = b := by
  unfold itEq
  rw [Bool.and_eq_true, boxEq_iff]
  cases a; cases b; simp

set_option maxHeartbeats 400000 in
/-- laws.eqItem: field by field. -/
theorem eqItem_any (a b : It) (w : World) : Calls Try.prog 66 #[.agg #[.int .i64 a.id, .int .i64 a.x0, .int .i64 a.y0, .int .i64 a.x1, .int .i64 a.y1], .agg #[.int .i64 b.id, .int .i64 b.x0, .int .i64 b.y0, .int .i64 b.x1, .int .i64 b.y1]] w fun e w' =>
    e = .returned (.bool (itEq a b)) ∧ Below w.heap.size w w' := by
  obtain ⟨i, x0, y0, x1, y1⟩ := a
  obtain ⟨j, u0, v0, u1, v1⟩ := b
  by_cases h : i = j
  · subst h
    cases hb : boxEq x0 y0 x1 y1 u0 v0 u1 v1 with
    | true =>
      have hr : Hid (itEq ⟨i, x0, y0, x1, y1⟩ ⟨i, u0, v0, u1, v1⟩ = true) := by show itEq _ _ = _; unfold itEq; simp [hb]
      go_enter Try.func66, Try.ntmps66
      go_wp2_with fail
      refine (eqBox_any x0 y0 x1 y1 u0 v0 u1 v1 _).mono ?_
      rw [hb]
      rintro e w1 ⟨rfl, hj⟩
      go_wp2
      go_ret
      exact ⟨ret_bool hr.out.symm, (((Below.refl _ _).alloc (Nat.le_refl _) _).alloc (by simp) _).trans (hj.mono (by simp; omega))⟩
    | false =>
      have hr : Hid (itEq ⟨i, x0, y0, x1, y1⟩ ⟨i, u0, v0, u1, v1⟩ = false) := by show itEq _ _ = _; unfold itEq; simp [hb]
      go_enter Try.func66, Try.ntmps66
      go_wp2_with fail
      refine (eqBox_any x0 y0 x1 y1 u0 v0 u1 v1 _).mono ?_
      rw [hb]
      rintro e w1 ⟨rfl, hj⟩
      go_wp2
      go_ret
      exact ⟨ret_bool hr.out.symm, (((Below.refl _ _).alloc (Nat.le_refl _) _).alloc (by simp) _).trans (hj.mono (by simp; omega))⟩
  · have hr : Hid (itEq ⟨i, x0, y0, x1, y1⟩ ⟨j, u0, v0, u1, v1⟩ = false) := by show itEq _ _ = _; unfold itEq; simp [h]
    have h1 : (i != j) = true := by simpa using h
    clear h
    go_enter Try.func66, Try.ntmps66
    go_wp2
    go_ret
    exact ⟨ret_bool hr.out.symm, ((Below.refl _ _).alloc (Nat.le_refl _) _).alloc (by simp) _⟩

/-- Which items are valid. -/
def itOk (i x0 y0 x1 y1 : Int) : Bool := inB i 1 999 && okB x0 y0 x1 y1

/-- The order of the curve, of equal keys the order of Id. -/
def aheadV (k i m j : Int) : Bool := decide (k < m) || (decide (k = m) && decide (i < j))

end Go.Proofs.Ytckdkijhkgicnaa
