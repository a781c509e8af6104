/- Items: the laws' own helpers, and the functions over one item or two. -/
import Derived.Test.YtnebhbnogmhbgaaRow
import Derived.Test.YtnebhbnogmhbgaaBox2
import Derived.Test.YtnebhbnogmhbgaaKeep
import Derived.Test.YtnebhbnogmhbgaaCurve2
import Derived.Deep.RegionWith
namespace Go.Proofs.Ytnebhbnogmhbgaa
open Go.RowKit

/-- An item. -/
structure It where
  id : Int
  x0 : Int
  y0 : Int
  x1 : Int
  y1 : Int

def itLay : Lay It := ⟨5, fun b => [.int .i64 b.id, .int .i64 b.x0, .int .i64 b.y0, .int .i64 b.x1, .int .i64 b.y1], fun _ => rfl, by decide, fun x u hu => by simp at hu; rcases hu with rfl | rfl | rfl | rfl | rfl <;> rfl⟩

/-- An item's five cells in a slice. -/
theorem rdIt_at {w : World} {a : Option Addr} {n cap i : Nat} {xs : List It} (h : RdS itLay w a n cap xs) (hi : i < n) :
    ∃ b off x, a = some ⟨b, off, none⟩ ∧ b < w.heap.size ∧ xs[i]? = some x ∧ w.cell? ⟨b, off + i * 5, none⟩ = some (.int .i64 x.id) ∧ w.cell? ⟨b, off + i * 5 + 1, none⟩ = some (.int .i64 x.x0) ∧ w.cell? ⟨b, off + i * 5 + 2, none⟩ = some (.int .i64 x.y0) ∧
      w.cell? ⟨b, off + i * 5 + 3, none⟩ = some (.int .i64 x.x1) ∧ w.cell? ⟨b, off + i * 5 + 4, none⟩ = some (.int .i64 x.y1) := by
  obtain ⟨b, off, e, hlt, x, hx, hc⟩ := h.at_ hi
  exact ⟨b, off, x, e, hlt, hx, hc 0 _ rfl, hc 1 _ rfl, hc 2 _ rfl, hc 3 _ rfl, hc 4 _ rfl⟩

theorem blk_new2 (W : World) (O O' : Obj) (cs : Array Value) (t : TypeId) : (∀ o, (((W.alloc O).alloc O').alloc (.cells cs t)).cell? ⟨W.heap.size + 1 + 1, o, none⟩ = cs[o]?) ∧ (∀ o, (((W.alloc O).alloc O').alloc (.cells cs t)).frozen? ⟨W.heap.size + 1 + 1, o, none⟩ = false) := by
  have h := blk_new ((W.alloc O).alloc O') cs t
  rw [show ((W.alloc O).alloc O').heap.size = W.heap.size + 1 + 1 by simp] at h
  exact h

/-- Equality of items, field by field. -/
def itEq (a b : It) : Bool := a.id == b.id && boxEq a.x0 a.y0 a.x1 a.y1 b.x0 b.y0 b.x1 b.y1
theorem itEq_self (a : It) : itEq a a = true := by unfold itEq; rw [boxEq_self]; simp
theorem itEq_iff (a b : It) : itEq a b = true ↔ a = b := by
  unfold itEq
  rw [Bool.and_eq_true, boxEq_iff]
  cases a; cases b; simp

/-- Which items are valid. -/
def itOk (i x0 y0 x1 y1 : Int) : Bool := inB i 1 999 && okB x0 y0 x1 y1

set_option maxRecDepth 100000 in
set_option maxHeartbeats 400000 in
theorem sItemOk_any (i x0 y0 x1 y1 : Int) (w : World) : Calls Try.prog 113 #[.agg #[.int .i64 i, .int .i64 x0, .int .i64 y0, .int .i64 x1, .int .i64 y1]] w fun e w' =>
    e = .returned (.bool (itOk i x0 y0 x1 y1)) ∧ Below w.heap.size w w' := by
  cases h : inB i 1 999 with
  | true =>
    have hr : Hid (itOk i x0 y0 x1 y1 = okB x0 y0 x1 y1) := by show itOk _ _ _ _ _ = _; unfold itOk; rw [h]; rfl
    go_enter Try.func113, Try.ntmps113
    go_wp2_with fail
    refine (l1In_any i 1 999 _).mono ?_
    rw [h]
    rintro e w1 ⟨rfl, rfl⟩
    go_wp2_with fail
    refine (sBoxOk_any x0 y0 x1 y1 _).mono ?_
    rintro e w2 ⟨rfl, hj⟩
    go_wp2
    go_ret
    exact ⟨ret_bool hr.out.symm, ((Below.refl _ _).alloc (Nat.le_refl _) _).trans (hj.mono (by simp))⟩
  | false =>
    have hr : Hid (itOk i x0 y0 x1 y1 = false) := by show itOk _ _ _ _ _ = _; unfold itOk; rw [h]; rfl
    go_enter Try.func113, Try.ntmps113
    go_wp2_with fail
    refine (l1In_any i 1 999 _).mono ?_
    rw [h]
    rintro e w1 ⟨rfl, rfl⟩
    go_wp2
    go_ret
    exact ⟨ret_bool hr.out.symm, (Below.refl _ _).alloc (Nat.le_refl _) _⟩

/-- The order of the curve, of equal keys the order of Id. -/
def aheadV (k i m j : Int) : Bool := decide (k < m) || (decide (k = m) && decide (i < j))

end Go.Proofs.Ytnebhbnogmhbgaa
