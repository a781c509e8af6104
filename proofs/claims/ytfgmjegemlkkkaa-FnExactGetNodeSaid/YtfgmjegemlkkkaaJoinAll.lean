/- The join of all rectangles of a slice: the program's and the model's functions. -/
import Derived.Test.YtfgmjegemlkkkaaRow
import Derived.Test.YtfgmjegemlkkkaaBox
import Derived.Deep.RegionWith
namespace Go.Proofs.Ytfgmjegemlkkkaa
open Go.RowKit

def joinB (a b : Bx) : Bx := ⟨lst a.x0 b.x0, lst a.y0 b.y0, mst a.x1 b.x1, mst a.y1 b.y1⟩
def joinAll : List Bx → Bx
  | [] => ⟨0, 0, 0, 0⟩
  | b :: l => l.foldl joinB b
theorem joinAll_snoc (l : List Bx) (x : Bx) (h : l ≠ []) : joinAll (l ++ [x]) = joinB (joinAll l) x := by
  cases l with
  | nil => exact absurd rfl h
  | cons b l => simp [joinAll, List.foldl_append]
theorem joinAll_take (xs : List Bx) (k : Nat) (x : Bx) (hk : 1 ≤ k) (hx : xs[k]? = some x) : joinAll (xs.take (k + 1)) = joinB (joinAll (xs.take k)) x := by
  obtain ⟨hlt, rfl⟩ := List.getElem?_eq_some_iff.1 hx
  rw [List.take_succ_eq_append_getElem hlt]
  exact joinAll_snoc _ _ (by intro h; have := congrArg List.length h; simp only [List.length_take, List.length_nil] at this; omega)
theorem joinAll_one (xs : List Bx) (x : Bx) (hx : xs[0]? = some x) : joinAll (xs.take 1) = x := by
  cases xs with
  | nil => simp at hx
  | cons b l => simp at hx; subst hx; rfl

/-- A rectangle is handed back. -/
def RetBox (b : Bx) (w : World) (e : Ending) (w' : World) : Prop := e = .returned (.agg #[.int .i64 b.x0, .int .i64 b.y0, .int .i64 b.x1, .int .i64 b.y1]) ∧ Below w.heap.size w w'

/-- In the middle of the loop: the result's block is untouched; the variable's block holds b. -/
def Mid (w wr : World) (b : Bx) : Prop :=
  (Below w.heap.size w wr ∧ w.heap.size + 2 ≤ wr.heap.size) ∧
  ((∀ o, wr.cell? ⟨w.heap.size, o, none⟩ = #[Value.int .i64 0, .int .i64 0, .int .i64 0, .int .i64 0][o]?) ∧ (∀ o, wr.frozen? ⟨w.heap.size, o, none⟩ = false)) ∧
  ((∀ o, wr.cell? ⟨w.heap.size + 1, o, none⟩ = #[Value.int .i64 b.x0, .int .i64 b.y0, .int .i64 b.x1, .int .i64 b.y1][o]?) ∧ (∀ o, wr.frozen? ⟨w.heap.size + 1, o, none⟩ = false))
theorem mid_start (w : World) (b : Bx) (t : TypeId) : Mid w ((w.alloc (.cells #[.int .i64 0, .int .i64 0, .int .i64 0, .int .i64 0] t)).alloc (.cells #[.int .i64 b.x0, .int .i64 b.y0, .int .i64 b.x1, .int .i64 b.y1] t)) b :=
  ⟨⟨((new_below w _).trans ((new_below _ _).mono (show w.heap.size ≤ _ by simp))), by simp⟩, blk_alloc _ (by simp) _ _ (blk_new w _ t), blk_new1 w _ _ t⟩
/-- A block of four cells is written whole. -/
theorem blk_write {W : World} {b : Nat} {x y z u : Value} {x' y' z' u' : Value} (hk : (∀ o, W.cell? ⟨b, o, none⟩ = #[x, y, z, u][o]?) ∧ (∀ o, W.frozen? ⟨b, o, none⟩ = false)) :
    (∀ o, ((((W.setCell ⟨b, 0, none⟩ x').setCell ⟨b, 1, none⟩ y').setCell ⟨b, 2, none⟩ z').setCell ⟨b, 3, none⟩ u').cell? ⟨b, o, none⟩ = #[x', y', z', u'][o]?) ∧
    (∀ o, ((((W.setCell ⟨b, 0, none⟩ x').setCell ⟨b, 1, none⟩ y').setCell ⟨b, 2, none⟩ z').setCell ⟨b, 3, none⟩ u').frozen? ⟨b, o, none⟩ = false) := by
  refine ⟨fun o => ?_, fun o => ?_⟩
  · have h0 := hk.1 0; have h1 := hk.1 1; have h2 := hk.1 2; have h3 := hk.1 3; have ho := hk.1 o
    match o, ho with
    | 0, _ => simp [go_sem, h0]
    | 1, _ => simp [go_sem, h1]
    | 2, _ => simp [go_sem, h2]
    | 3, _ => simp [go_sem, h3]
    | o + 4, ho =>
      rw [World.cell?_setCell_other _ _ _ _ (by simp), World.cell?_setCell_other _ _ _ _ (by simp), World.cell?_setCell_other _ _ _ _ (by simp), World.cell?_setCell_other _ _ _ _ (by simp), ho]
      simp
  · have := hk.2 o
    simp [go_sem, this]
theorem blk_far {W : World} {b p j : Nat} {u : Value} (h : b ≠ p) (f : Nat → Option Value) (m : Nat → Bool) (hk : (∀ o, W.cell? ⟨b, o, none⟩ = f o) ∧ (∀ o, W.frozen? ⟨b, o, none⟩ = m o)) :
    (∀ o, (W.setCell ⟨p, j, none⟩ u).cell? ⟨b, o, none⟩ = f o) ∧ (∀ o, (W.setCell ⟨p, j, none⟩ u).frozen? ⟨b, o, none⟩ = m o) :=
  ⟨fun o => (World.cell?_setCell_far _ _ _ _ (fun e => h e.symm)).trans (hk.1 o), fun o => by have := hk.2 o; simpa [go_sem] using this⟩
/-- A round: a callee that makes memory alone, then the variable is written. -/
theorem mid_step {w W wr : World} {b b' : Bx} (h : Mid w W b) (hj : Below W.heap.size W wr) :
    Mid w ((((wr.setCell ⟨w.heap.size + 1, 0, none⟩ (.int .i64 b'.x0)).setCell ⟨w.heap.size + 1, 1, none⟩ (.int .i64 b'.y0)).setCell ⟨w.heap.size + 1, 2, none⟩ (.int .i64 b'.x1)).setCell ⟨w.heap.size + 1, 3, none⟩ (.int .i64 b'.y1)) b' := by
  obtain ⟨⟨hB, hz⟩, h0, h1⟩ := h
  have hs := hj.size
  have k0 := below_keep hj (show w.heap.size < _ by omega) _ _ h0
  have k1 := below_keep hj (show w.heap.size + 1 < _ by omega) _ _ h1
  refine ⟨⟨((((hB.trans (hj.mono (by omega))).setCell (p := ⟨w.heap.size + 1, 0, none⟩) (Nat.le_succ _) _).setCell (p := ⟨w.heap.size + 1, 1, none⟩) (Nat.le_succ _) _).setCell (p := ⟨w.heap.size + 1, 2, none⟩) (Nat.le_succ _) _).setCell (p := ⟨w.heap.size + 1, 3, none⟩) (Nat.le_succ _) _, by simp; omega⟩, ?_, blk_write k1⟩
  exact blk_far (by omega) _ _ (blk_far (by omega) _ _ (blk_far (by omega) _ _ (blk_far (by omega) _ _ k0)))
theorem mid_alloc {w W : World} {b : Bx} (h : Mid w W b) (O : Obj) : Mid w (W.alloc O) b :=
  ⟨⟨h.1.1.trans ((new_below W O).mono h.1.1.size), by have := h.1.2; simp; omega⟩, blk_alloc O (by have := h.1.2; omega) _ _ h.2.1, blk_alloc O (by have := h.1.2; omega) _ _ h.2.2⟩
theorem mid_drew {w W : World} {b : Bx} (h : Mid w W b) : Mid w W.drew b := ⟨⟨h.1.1.drew, h.1.2⟩, h.2⟩

end Go.Proofs.Ytfgmjegemlkkkaa
