/- Locals' blocks. -/
import Derived.Test.YtnebhbnogmhbgaaLeafOf
import Derived.Test.YtnebhbnogmhbgaaApart
namespace Go.Proofs.Ytnebhbnogmhbgaa
open Go.RowKit

/-- A local's block: there, with these cells, not frozen. -/
def Loc (W : World) (q : Nat) (cs : Array Value) : Prop := q < W.heap.size ∧ (∀ o, W.cell? ⟨q, o, none⟩ = cs[o]?) ∧ (∀ o, W.frozen? ⟨q, o, none⟩ = false)
theorem Loc.new (W : World) (cs : Array Value) (t : TypeId) : Loc (W.alloc (.cells cs t)) W.heap.size cs := ⟨by simp, (blk_new W cs t).1, (blk_new W cs t).2⟩
theorem Loc.of {W W' : World} {q : Nat} {cs : Array Value} (h : Loc W q cs) (hs : W.heap.size ≤ W'.heap.size) (hb : W'.heap[q]? = W.heap[q]?) : Loc W' q cs :=
  ⟨Nat.lt_of_lt_of_le h.1 hs, fun o => (cell_of_heap hb o).trans (h.2.1 o), fun o => (frozen_of_heap hb o).trans (h.2.2 o)⟩
theorem Loc.below {W W' : World} {q : Nat} {cs : Array Value} (h : Loc W q cs) (hb : Below W.heap.size W W') : Loc W' q cs := h.of hb.size (hb.block q h.1)
theorem Loc.alloc {W : World} {q : Nat} {cs : Array Value} (h : Loc W q cs) (O : Obj) : Loc (W.alloc O) q cs := h.below (new_below W O)
theorem Loc.grown {W W' : World} {q : Nat} {cs : Array Value} {row : Option Nat} (h : Loc W q cs) (hg : W.grownBy W' row) (hne : ∀ k, row = some k → k ≠ q) : Loc W' q cs :=
  h.of hg.size (hg.block q h.1 (fun e => hne q e.symm rfl))
theorem Loc.far {W W' : World} {q g : Nat} {cs : Array Value} (h : Loc W q cs) (hg : W.grownBy W' (some g)) (hlt : g < q) : Loc W' q cs := h.grown hg (fun k hk => by cases hk; omega)
/-- A cell of a local is written. -/
theorem Loc.set {W : World} {q : Nat} {cs : Array Value} (h : Loc W q cs) (j : Nat) (u : Value) (hj : j < cs.size) : Loc (W.setCell ⟨q, j, none⟩ u) q (cs.setIfInBounds j u) := by
  refine ⟨by simpa using h.1, fun o => ?_, fun o => (World.frozen?_setCell _ _ _ _).trans (h.2.2 o)⟩
  by_cases e : o = j
  · subst e
    rw [World.cell?_setCell_same' _ _ _ (by rw [h.2.1 o]; simp [hj])]
    simp [hj]
  · rw [World.cell?_setCell_other _ _ _ _ (by intro h; simp only [Addr.mk.injEq] at h; exact e h.2.1.symm), h.2.1 o]
    simp [Ne.symm e]
theorem Loc.other {W : World} {q p : Nat} {cs : Array Value} (h : Loc W q cs) (j : Nat) (u : Value) (hp : p ≠ q) : Loc (W.setCell ⟨p, j, none⟩ u) q cs := h.of (by simp) (Below.heap_setCell _ _ _ _ (fun e => hp e.symm))
theorem Loc.drew {W : World} {q : Nat} {cs : Array Value} (h : Loc W q cs) : Loc W.drew q cs := h.of (Nat.le_refl _) rfl
theorem ownS_set2 {w : World} {e : TypeId} {base g : Nat} {v : Value} {xs : List It} (h : OwnS itLay e w base v xs) (hg : g < base) (j : Nat) (u : Value) : OwnS itLay e (w.setCell ⟨g, j, none⟩ u) base v xs :=
  ownS_set h (fun hj => by have := (World.ownsRow.lt h g hj).1; omega) j u
end Go.Proofs.Ytnebhbnogmhbgaa
