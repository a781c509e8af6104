/- Owned slices of structs that lie apart. -/
import Derived.Test.YtnebhbnogmhbgaaRow
namespace Go.Proofs.Ytnebhbnogmhbgaa
open Go.RowKit
section
variable {α β : Type} {L : Lay α} {M : Lay β} {w w' : World} {e e' : TypeId} {base base' : Nat} {v v' : Value} {xs : List α} {ys : List β}
theorem OwnS.keptApart (h : OwnS L e w base v xs) (hg : w.grownBy w' v'.ownBlock) (ha : Apart v v') : OwnS L e w' base v xs := by
  refine OwnS.kept h hg ?_
  cases hv : v.ownBlock with
  | none => exact .inl rfl
  | some g => exact .inr fun e => ha g hv e.symm
theorem ownS_apart (h : OwnS L e w base v xs) (h' : OwnS M e' w' base' v' ys) (hb : w.heap.size ≤ base') : Apart v v' := by
  intro g hv hv'
  have h1 := World.ownsRow.lt h g hv
  have h2 := World.ownsRow.lt h' g hv'
  omega
theorem OwnS.lt (h : OwnS L e w base v xs) : ∀ g, v.ownBlock = some g → base ≤ g ∧ g < w.heap.size := World.ownsRow.lt h
theorem rdS_owns {a : Option Addr} {n cap : Nat} (h : OwnS L e w base (.slice a n cap) xs) : RdS L w a xs.length cap xs := by
  obtain ⟨a', c', hv, hr⟩ := h.rd
  simp only [Value.slice.injEq] at hv
  obtain ⟨rfl, -, rfl⟩ := hv
  exact hr
theorem rdS_owns' {a : Option Addr} {n cap : Nat} (h : w.ownsRow base e L.sz (.slice a n cap) n (xs.flatMap L.cells)) (hl : xs.length = n) : RdS L w a n cap xs := by
  subst hl
  exact rdS_owns (e := e) (base := base) h
end
end Go.Proofs.Ytnebhbnogmhbgaa
