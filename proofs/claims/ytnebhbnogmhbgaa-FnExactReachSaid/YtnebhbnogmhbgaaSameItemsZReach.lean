/- Whether two slices hold the same items. -/
import Derived.Test.YtnebhbnogmhbgaaItemAtZReach
namespace Go.Proofs.Ytnebhbnogmhbgaa
open Go.RowKit

theorem neItem_run (a b : It) (w : World) :
    (binOp .neq 127 (.agg #[.int .i64 a.id, .int .i64 a.x0, .int .i64 a.y0, .int .i64 a.x1, .int .i64 a.y1]) (.agg #[.int .i64 b.id, .int .i64 b.x0, .int .i64 b.y0, .int .i64 b.x1, .int .i64 b.y1])).run Try.prog w = .ok (.bool (!itEq a b)) w := by
  obtain ⟨i, x0, y0, x1, y1⟩ := a
  obtain ⟨j, u0, v0, u1, v1⟩ := b
  unfold itEq boxEq
  by_cases h : i = j
  · by_cases h0 : x0 = u0
    · by_cases h1 : y0 = v0
      · by_cases h2 : x1 = u1
        · by_cases h3 : y1 = v1
          all_goals go_simp
        · go_simp
      · go_simp
    · go_simp
  · go_simp

def sameV (xs ys : List It) : Bool := xs.length == ys.length && (xs.zip ys).all fun p => itEq p.1 p.2
theorem sameV_len {xs ys : List It} (h : xs.length ≠ ys.length) : sameV xs ys = false := by unfold sameV; simp [h]
theorem sameV_iff (xs ys : List It) : sameV xs ys = true ↔ xs = ys := by
  unfold sameV
  induction xs generalizing ys with
  | nil => cases ys <;> simp
  | cons x l ih =>
    cases ys with
    | nil => simp
    | cons y m =>
      have := ih m
      simp only [List.length_cons, List.zip_cons_cons, List.all_cons, Bool.and_eq_true, beq_iff_eq, Nat.add_right_cancel_iff, List.cons.injEq, itEq_iff] at this ⊢
      rw [← this]
      constructor
      · rintro ⟨a, b, c⟩; exact ⟨b, a, c⟩
      · rintro ⟨b, a, c⟩; exact ⟨a, b, c⟩
theorem sameV_no {xs ys : List It} {k : Nat} {x y : It} (hx : xs[k]? = some x) (hy : ys[k]? = some y) (h : itEq x y = false) : sameV xs ys = false := by
  rw [Bool.eq_false_iff]
  intro h'
  have := (sameV_iff xs ys).1 h'
  subst this
  rw [hx] at hy
  obtain rfl : x = y := by simpa using hy
  rw [itEq_self] at h
  cases h
theorem sameV_end {xs ys : List It} (hl : xs.length = ys.length) (h : ∀ (k : Nat) (x y : It), k < xs.length → xs[k]? = some x → ys[k]? = some y → itEq x y = true) : sameV xs ys = true := by
  rw [sameV_iff]
  apply List.ext_getElem? 
  intro k
  by_cases hk : k < xs.length
  · have h1 : xs[k]? = some xs[k] := List.getElem?_eq_getElem hk
    have h2 : ys[k]? = some (ys[k]'(by omega)) := List.getElem?_eq_getElem _
    have := (itEq_iff _ _).1 (h k _ _ hk h1 h2)
    rw [h1, h2, this]
  · rw [List.getElem?_eq_none (by omega), List.getElem?_eq_none (by omega)]

end Go.Proofs.Ytnebhbnogmhbgaa
