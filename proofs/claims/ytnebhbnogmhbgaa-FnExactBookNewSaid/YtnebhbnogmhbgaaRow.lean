/- Slices whose elements take several cells: what is read, what is owned. -/
import Derived.Test.YtnebhbnogmhbgaaBase
namespace Go.Proofs.Ytnebhbnogmhbgaa
open Go.RowKit

/-- How an element lies in memory: its cells, sz of them. -/
structure Lay (α : Type) where
  sz : Nat
  cells : α → List Value
  len : ∀ x, (cells x).length = sz
  pos : 0 < sz
  one : ∀ x, ∀ u ∈ cells x, u.oneCell' = true

theorem flat_len {α : Type} (L : Lay α) (xs : List α) : (xs.flatMap L.cells).length = xs.length * L.sz := by
  induction xs with
  | nil => simp
  | cons x l ih => simp [L.len, ih, Nat.succ_mul, Nat.add_comm]
theorem flat_at {α : Type} (L : Lay α) (xs : List α) (i j : Nat) (hj : j < L.sz) : (xs.flatMap L.cells)[i * L.sz + j]? = (xs[i]?).bind fun x => (L.cells x)[j]? := by
  induction xs generalizing i with
  | nil => simp
  | cons x l ih =>
    rw [List.flatMap_cons]
    cases i with
    | zero => rw [Nat.zero_mul, Nat.zero_add, List.getElem?_append_left (by rw [L.len]; exact hj)]; rfl
    | succ i =>
      rw [List.getElem?_append_right (by rw [L.len, Nat.succ_mul]; omega), L.len, show (i + 1) * L.sz + j - L.sz = i * L.sz + j by rw [Nat.succ_mul]; omega, ih]
      rfl
theorem flat_one {α : Type} (L : Lay α) (xs : List α) : ∀ u ∈ xs.flatMap L.cells, u.oneCell' = true := by
  intro u hu
  obtain ⟨x, _, h⟩ := List.mem_flatMap.1 hu
  exact L.one x u h

/-- A slice value that reads as the elements xs. -/
def RdS {α : Type} (L : Lay α) (w : World) (a : Option Addr) (n cap : Nat) (xs : List α) : Prop :=
  (xs.length = n ∧ n ≤ cap ∧ cap ≤ maxLen ∧ (a = none → n = 0 ∧ cap = 0)) ∧ (0 < n → ∃ b off, a = some ⟨b, off, none⟩ ∧ ∀ i x, xs[i]? = some x → ∀ j u, (L.cells x)[j]? = some u → w.cell? ⟨b, off + (i * L.sz + j), none⟩ = some u)

def OwnS {α : Type} (L : Lay α) (e : TypeId) (w : World) (base : Nat) (v : Value) (xs : List α) : Prop := w.ownsRow base e L.sz v xs.length (xs.flatMap L.cells)

section
variable {α : Type} {L : Lay α} {w w' : World} {a : Option Addr} {n cap : Nat} {xs : List α}
theorem RdS.below (h : RdS L w a n cap xs) (hB : Below w.heap.size w w') : RdS L w' a n cap xs := by
  refine ⟨h.1, fun hn => ?_⟩
  obtain ⟨b, off, e, hc⟩ := h.2 hn
  refine ⟨b, off, e, fun i x hi j u hj => ?_⟩
  have := hc i x hi j u hj
  have hlt : b < w.heap.size := World.block_lt_of_cell? w ⟨b, off + (i * L.sz + j), none⟩ this
  rw [hB.cell (p := ⟨b, off + (i * L.sz + j), none⟩) hlt]
  exact this
theorem RdS.lt (h : RdS L w a n cap xs) {b off : Nat} (hn : 0 < n) (ha : a = some ⟨b, off, none⟩) : b < w.heap.size := by
  obtain ⟨b', off', e, hc⟩ := h.2 hn
  rw [ha] at e
  obtain ⟨rfl, rfl⟩ : b = b' ∧ off = off' := by simpa using e
  have hx : xs[0]? = some (xs[0]'(by have := h.1.1; omega)) := List.getElem?_eq_getElem _
  have hu : (L.cells (xs[0]'(by have := h.1.1; omega)))[0]? = some ((L.cells (xs[0]'(by have := h.1.1; omega)))[0]'(by rw [L.len]; exact L.pos)) := List.getElem?_eq_getElem _
  exact World.block_lt_of_cell? w ⟨b, off + (0 * L.sz + 0), none⟩ (hc 0 _ hx 0 _ hu)
theorem rdS_nil (w : World) : RdS L w none 0 0 [] := ⟨⟨rfl, Nat.le_refl _, by simp [maxLen], fun _ => ⟨rfl, rfl⟩⟩, fun h => by omega⟩
/-- An element's cells. -/
theorem RdS.at_ (h : RdS L w a n cap xs) {i : Nat} (hi : i < n) : ∃ b off, a = some ⟨b, off, none⟩ ∧ b < w.heap.size ∧ ∃ x, xs[i]? = some x ∧ ∀ j u, (L.cells x)[j]? = some u → w.cell? ⟨b, off + (i * L.sz + j), none⟩ = some u := by
  obtain ⟨b, off, e, hc⟩ := h.2 (by omega)
  have hx : xs[i]? = some (xs[i]'(by have := h.1.1; omega)) := List.getElem?_eq_getElem _
  exact ⟨b, off, e, h.lt (by omega) e, _, hx, fun j u hj => hc i _ hx j u hj⟩
end

section
variable {α : Type} {L : Lay α} {w w' : World} {e : TypeId} {base : Nat} {v : Value} {xs : List α}
theorem OwnS.rd (h : OwnS L e w base v xs) : ∃ a cap, v = .slice a xs.length cap ∧ RdS L w a xs.length cap xs := by
  have hown := h
  rcases h.2 with ⟨rfl, hn⟩ | ⟨g, cap, cur, rfl, hb, hh, r⟩
  · exact ⟨none, 0, by rw [hn], ⟨rfl, by omega, by simp [maxLen], fun _ => ⟨hn, rfl⟩⟩, fun h => by omega⟩
  · refine ⟨_, cap, rfl, ⟨rfl, r.1, r.2.1, fun h => by cases h⟩, fun _ => ⟨g, 0, rfl, fun i x hi j u hj => ?_⟩⟩
    have hij : i < xs.length := (List.getElem?_eq_some_iff.1 hi).1
    have hjs : j < L.sz := by have := (List.getElem?_eq_some_iff.1 hj).1; rw [L.len] at this; exact this
    have hlt : i * L.sz + j < xs.length * L.sz := by
      have : (i + 1) * L.sz ≤ xs.length * L.sz := Nat.mul_le_mul_right _ hij
      rw [Nat.succ_mul] at this; omega
    rw [Nat.zero_add, World.ownsRow.cellAt hown _ hlt, flat_at L xs i j hjs, hi]
    exact hj
theorem OwnS.kept {row : Option Nat} (h : OwnS L e w base v xs) (hg : w.grownBy w' row) (hne : v.ownBlock = none ∨ v.ownBlock ≠ row) : OwnS L e w' base v xs := World.ownsRow.kept h hg hne
theorem OwnS.below (h : OwnS L e w base v xs) (hB : Below w.heap.size w w') : OwnS L e w' base v xs := OwnS.kept h (Below.toGrown hB none) (by cases v.ownBlock <;> simp)
theorem OwnS.mono {base' : Nat} (h : OwnS L e w base' v xs) (hb : base ≤ base') : OwnS L e w base v xs := by
  refine ⟨h.1, ?_⟩
  rcases h.2 with h2 | ⟨g, cap, cur, hv, hg, r⟩
  · exact .inl h2
  · exact .inr ⟨g, cap, cur, hv, by omega, r⟩
end

/-- A rectangle. -/
structure Bx where
  x0 : Int
  y0 : Int
  x1 : Int
  y1 : Int

def bxLay : Lay Bx := ⟨4, fun b => [.int .i64 b.x0, .int .i64 b.y0, .int .i64 b.x1, .int .i64 b.y1], fun _ => rfl, by decide, fun x u hu => by simp at hu; rcases hu with rfl | rfl | rfl | rfl <;> rfl⟩

/-- A rectangle's four cells in a slice. -/
theorem rdBx_at {w : World} {a : Option Addr} {n cap i : Nat} {xs : List Bx} (h : RdS bxLay w a n cap xs) (hi : i < n) :
    ∃ b off x, a = some ⟨b, off, none⟩ ∧ b < w.heap.size ∧ xs[i]? = some x ∧ w.cell? ⟨b, off + i * 4, none⟩ = some (.int .i64 x.x0) ∧ w.cell? ⟨b, off + i * 4 + 1, none⟩ = some (.int .i64 x.y0) ∧
      w.cell? ⟨b, off + i * 4 + 2, none⟩ = some (.int .i64 x.x1) ∧ w.cell? ⟨b, off + i * 4 + 3, none⟩ = some (.int .i64 x.y1) := by
  obtain ⟨b, off, e, hlt, x, hx, hc⟩ := h.at_ hi
  exact ⟨b, off, x, e, hlt, hx, hc 0 _ rfl, hc 1 _ rfl, hc 2 _ rfl, hc 3 _ rfl⟩

end Go.Proofs.Ytnebhbnogmhbgaa
