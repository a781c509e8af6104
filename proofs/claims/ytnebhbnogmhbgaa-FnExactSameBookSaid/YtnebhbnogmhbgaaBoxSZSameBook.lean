/- The laws' own helpers on slices of rectangles: how many, a copy, equality. -/
import Derived.Test.YtnebhbnogmhbgaaQSameBooka
import Derived.Deep.RegionWith
namespace Go.Proofs.Ytnebhbnogmhbgaa
open Go.RowKit

theorem Try.infoBox : (Try.prog.info? 89).map (fun i => (i.zero, i.size, i.bytes)) = some (some (.agg #[.int .i64 0, .int .i64 0, .int .i64 0, .int .i64 0]), 4, 32) := by kernel_rfl

def zeroBx : Bx := ⟨0, 0, 0, 0⟩
/-- The first k of xs, then zeros, n in all. -/
def copiedB (xs : List Bx) (n k : Nat) : List Bx := gen n fun j => if j < k then xs.getD j zeroBx else zeroBx
theorem copiedB_set (xs : List Bx) (n k : Nat) (x : Bx) (hx : xs[k]? = some x) : copiedB xs n (k + 1) = (copiedB xs n k).set k x := by
  unfold copiedB
  rw [gen_set]
  refine gen_congr n _ _ fun j _ => ?_
  by_cases h : j = k
  · subst h; simp [List.getD, hx]
  · rw [if_neg h]
    by_cases h' : j < k
    · rw [if_pos h', if_pos (by omega)]
    · rw [if_neg h', if_neg (by omega)]
theorem copiedB_start (xs : List Bx) (n : Nat) : copiedB xs n 0 = List.replicate n zeroBx := by
  unfold copiedB gen
  simp [List.map_const']
theorem copiedB_end (xs : List Bx) (n : Nat) (h : xs.length = n) : copiedB xs n n = xs := by
  rw [← gen_list xs zeroBx n h]
  unfold copiedB
  refine gen_congr n _ _ fun j hj => ?_
  rw [if_pos hj, gen_list xs zeroBx n h]
theorem copiedB_len (xs : List Bx) (n k : Nat) : (copiedB xs n k).length = n := gen_length _ _

/-- One element is written: its four cells, one by one. -/
theorem flat_setB (xs : List Bx) (k : Nat) (x : Bx) (hk : k < xs.length) :
    ((((xs.flatMap bxLay.cells).set (k * 4) (.int .i64 x.x0)).set (k * 4 + 1) (.int .i64 x.y0)).set (k * 4 + 2) (.int .i64 x.x1)).set (k * 4 + 3) (.int .i64 x.y1) = (xs.set k x).flatMap bxLay.cells := by
  induction xs generalizing k with
  | nil => simp at hk
  | cons y l ih =>
    cases k with
    | zero => simp [bxLay, List.flatMap_cons]
    | succ k =>
      have := ih k (by simpa using hk)
      simp only [List.flatMap_cons, List.set_cons_succ]
      rw [← this]
      have e : ∀ (j : Nat) (u : Value) (t : List Value), (bxLay.cells y ++ t).set ((k + 1) * 4 + j) u = bxLay.cells y ++ t.set (k * 4 + j) u := by
        intro j u t
        rw [List.set_append_right _ _ (by show 4 ≤ _; omega)]
        show bxLay.cells y ++ t.set ((k + 1) * 4 + j - 4) u = _
        rw [show (k + 1) * 4 + j - 4 = k * 4 + j by omega]
      have e0 := e 0
      simp only [Nat.add_zero] at e0
      rw [e0, e 1, e 2, e 3]

theorem madeB (n : Nat) : (madeCells #[Value.int .i64 0, .int .i64 0, .int .i64 0, .int .i64 0] (n * 4)).toList = (List.replicate n zeroBx).flatMap bxLay.cells := by
  apply List.ext_getElem?
  intro j
  have hr := Nat.div_add_mod j 4
  have hlt := Nat.mod_lt j (show 0 < 4 by omega)
  have hf := flat_at bxLay (List.replicate n zeroBx) (j / 4) (j % 4) hlt
  rw [show j / 4 * bxLay.sz + j % 4 = j by show j / 4 * 4 + j % 4 = j; omega] at hf
  rw [hf]
  by_cases hj : j < n * 4
  · have h4 : j / 4 < n := by omega
    rw [List.getElem?_replicate, if_pos h4]
    simp only [Option.bind_some]
    rcases (by omega : j % 4 = 0 ∨ j % 4 = 1 ∨ j % 4 = 2 ∨ j % 4 = 3) with h | h | h | h <;> simp [madeCells, hj, h, bxLay, zeroBx]
  · have h4 : ¬ j / 4 < n := by omega
    rw [List.getElem?_replicate, if_neg h4]
    simp [madeCells, hj]

/-- An owned rectangle's four cells. -/
theorem ownBx_at {w : World} {base : Nat} {e : TypeId} {g n cap i : Nat} {xs : List Bx} (h : w.ownsRow base e bxLay.sz (.slice (some ⟨g, 0, none⟩) n cap) n (xs.flatMap bxLay.cells)) (hl : xs.length = n) (hi : i < n) :
    ∃ x : Bx, w.cell? ⟨g, i * 4, none⟩ = some (.int .i64 x.x0) ∧ w.cell? ⟨g, i * 4 + 1, none⟩ = some (.int .i64 x.y0) ∧ w.cell? ⟨g, i * 4 + 2, none⟩ = some (.int .i64 x.x1) ∧ w.cell? ⟨g, i * 4 + 3, none⟩ = some (.int .i64 x.y1) := by
  subst hl
  obtain ⟨a, c, hv, hr⟩ := OwnS.rd (L := bxLay) (e := e) (xs := xs) h
  obtain ⟨b, off, x, e1, _, _, d0, d1, d2, d3⟩ := rdBx_at hr hi
  simp only [Value.slice.injEq] at hv
  obtain ⟨rfl, -, rfl⟩ := hv
  obtain ⟨rfl, rfl⟩ : g = b ∧ 0 = off := by simpa using e1
  simp only [Nat.zero_add] at d0 d1 d2 d3
  exact ⟨x, d0, d1, d2, d3⟩

/-- A slice of rectangles in new memory. -/
def NewBoxes (xs : List Bx) (w : World) (e : Ending) (w' : World) : Prop := ∃ v, e = .returned v ∧ OwnS bxLay 89 w' w.heap.size v xs ∧ Below w.heap.size w w'

theorem boxEq_false {a b : Bx} (h : a ≠ b) : boxEq a.x0 a.y0 a.x1 a.y1 b.x0 b.y0 b.x1 b.y1 = false := by
  rw [Bool.eq_false_iff]
  intro h'
  obtain ⟨h0, h1, h2, h3⟩ := (boxEq_iff _ _ _ _ _ _ _ _).1 h'
  exact h (by cases a; cases b; simp_all)

end Go.Proofs.Ytnebhbnogmhbgaa
