/- A row of entries that a call owns: its cells, a store of one entry (XStabA's RowI for entries). -/
import Derived.Test.YtfefggcfeppeiaaQPagesd
import Derived.BigQuiet
import Derived.BigRegion
namespace Go.Proofs.Ytfefggcfeppeiaa
open Go.RowKit

/-- A row of entries that the call owns: n of them from block g on. -/
def RowE (g n cap base : Nat) (xs : List It) (w : World) : Prop := OwnS itLay 92 w base (.slice (some ⟨g, 0, none⟩) n cap) xs ∧ xs.length = n

theorem RowE.below {g n cap base : Nat} {xs : List It} {w w' : World} (h : RowE g n cap base xs w) (hB : Below w.heap.size w w') : RowE g n cap base xs w' := ⟨h.1.below hB, h.2⟩
theorem RowE.drew {g n cap base : Nat} {xs : List It} {w : World} (h : RowE g n cap base xs w) : RowE g n cap base xs w.drew := h.below ((Below.refl _ _).drew)
theorem RowE.lt {g n cap base : Nat} {xs : List It} {w : World} (h : RowE g n cap base xs w) : base ≤ g ∧ g < w.heap.size := World.ownsRow.lt h.1 g rfl
theorem RowE.get {g n cap base i : Nat} {xs : List It} {w : World} (h : RowE g n cap base xs w) (hi : i < n) {x : It} (hx : xs.getD i zeroIt = x) :
    w.cell? ⟨g, i * 5, none⟩ = some (.int .i64 x.id) ∧ w.cell? ⟨g, i * 5 + 1, none⟩ = some (.int .i64 x.x0) ∧ w.cell? ⟨g, i * 5 + 2, none⟩ = some (.int .i64 x.y0) ∧ w.cell? ⟨g, i * 5 + 3, none⟩ = some (.int .i64 x.x1) ∧ w.cell? ⟨g, i * 5 + 4, none⟩ = some (.int .i64 x.y1) := by
  obtain ⟨ho, rfl⟩ := h
  obtain ⟨a, c, hv, hr⟩ := ho.rd
  obtain ⟨b, off, y, e1, _, hy, d0, d1, d2, d3, d4⟩ := rdIt_at hr hi
  simp only [Value.slice.injEq] at hv
  obtain ⟨rfl, -, rfl⟩ := hv
  obtain ⟨rfl, rfl⟩ : g = b ∧ 0 = off := by simpa using e1
  simp only [Nat.zero_add] at d0 d1 d2 d3 d4
  obtain rfl : y = x := by rw [← hx, List.getD_eq_getElem?_getD, hy]; rfl
  exact ⟨d0, d1, d2, d3, d4⟩
theorem RowE.some {g n cap base i : Nat} {xs : List It} {w : World} (h : RowE g n cap base xs w) (hi : i < n) :
    ∃ x : It, w.cell? ⟨g, i * 5, none⟩ = some (.int .i64 x.id) ∧ w.cell? ⟨g, i * 5 + 1, none⟩ = some (.int .i64 x.x0) ∧ w.cell? ⟨g, i * 5 + 2, none⟩ = some (.int .i64 x.y0) ∧ w.cell? ⟨g, i * 5 + 3, none⟩ = some (.int .i64 x.x1) ∧ w.cell? ⟨g, i * 5 + 4, none⟩ = some (.int .i64 x.y1) := ⟨_, h.get hi rfl⟩
theorem RowE.froz {g n cap base : Nat} {xs : List It} {w : World} (h : RowE g n cap base xs w) (j : Nat) : w.frozen? ⟨g, j, none⟩ = false := by
  obtain ⟨ho, rfl⟩ := h
  exact World.ownsRow.frozenAt ho j
/-- An item is written over another. -/
theorem RowE.set {g n cap base : Nat} {xs : List It} {w : World} (h : RowE g n cap base xs w) (i : Nat) (hi : i < n) (x : It) :
    RowE g n cap base (xs.set i x) (((((w.setCell ⟨g, i * 5, none⟩ (.int .i64 x.id)).setCell ⟨g, i * 5 + 1, none⟩ (.int .i64 x.x0)).setCell ⟨g, i * 5 + 2, none⟩ (.int .i64 x.y0)).setCell ⟨g, i * 5 + 3, none⟩ (.int .i64 x.x1)).setCell ⟨g, i * 5 + 4, none⟩ (.int .i64 x.y1)) := by
  obtain ⟨ho, rfl⟩ := h
  refine ⟨?_, by simp⟩
  unfold OwnS at ho ⊢
  rw [List.length_set, ← flat_setI xs i x hi]
  exact (((((ho.stored (i * 5) _).1.stored (i * 5 + 1) _).1.stored (i * 5 + 2) _).1.stored (i * 5 + 3) _).1.stored (i * 5 + 4) _).1

end Go.Proofs.Ytfefggcfeppeiaa
