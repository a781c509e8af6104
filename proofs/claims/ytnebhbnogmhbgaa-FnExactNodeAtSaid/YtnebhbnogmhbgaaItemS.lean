/- The laws' own helpers on slices of items: how many, a copy, equality. -/
import Derived.Test.YtnebhbnogmhbgaaRow
import Derived.Test.YtnebhbnogmhbgaaItem
import Derived.Deep.RegionWith
namespace Go.Proofs.Ytnebhbnogmhbgaa
open Go.RowKit

theorem Try.infoItem : (Try.prog.info? 127).map (fun i => (i.zero, i.size, i.bytes)) = some (some (.agg #[.int .i64 0, .int .i64 0, .int .i64 0, .int .i64 0, .int .i64 0]), 5, 40) := by kernel_rfl

def zeroIt : It := ⟨0, 0, 0, 0, 0⟩
/-- The first k of xs, then zeros, n in all. -/
def copiedI (xs : List It) (n k : Nat) : List It := gen n fun j => if j < k then xs.getD j zeroIt else zeroIt
theorem copiedI_set (xs : List It) (n k : Nat) (x : It) (hx : xs[k]? = some x) : copiedI xs n (k + 1) = (copiedI xs n k).set k x := by
  unfold copiedI
  rw [gen_set]
  refine gen_congr n _ _ fun j _ => ?_
  by_cases h : j = k
  · subst h; simp [List.getD, hx]
  · rw [if_neg h]
    by_cases h' : j < k
    · rw [if_pos h', if_pos (by omega)]
    · rw [if_neg h', if_neg (by omega)]
theorem copiedI_start (xs : List It) (n : Nat) : copiedI xs n 0 = List.replicate n zeroIt := by
  unfold copiedI gen
  simp [List.map_const']
theorem copiedI_end (xs : List It) (n : Nat) (h : xs.length = n) : copiedI xs n n = xs := by
  rw [← gen_list xs zeroIt n h]
  unfold copiedI
  refine gen_congr n _ _ fun j hj => ?_
  rw [if_pos hj, gen_list xs zeroIt n h]
theorem copiedI_len (xs : List It) (n k : Nat) : (copiedI xs n k).length = n := gen_length _ _

/-- One element is written: its four cells, one by one. -/
theorem flat_setI (xs : List It) (k : Nat) (x : It) (hk : k < xs.length) :
    (((((xs.flatMap itLay.cells).set (k * 5) (.int .i64 x.id)).set (k * 5 + 1) (.int .i64 x.x0)).set (k * 5 + 2) (.int .i64 x.y0)).set (k * 5 + 3) (.int .i64 x.x1)).set (k * 5 + 4) (.int .i64 x.y1) = (xs.set k x).flatMap itLay.cells := by
  induction xs generalizing k with
  | nil => simp at hk
  | cons y l ih =>
    cases k with
    | zero => simp [itLay, List.flatMap_cons]
    | succ k =>
      have := ih k (by simpa using hk)
      simp only [List.flatMap_cons, List.set_cons_succ]
      rw [← this]
      have e : ∀ (j : Nat) (u : Value) (t : List Value), (itLay.cells y ++ t).set ((k + 1) * 5 + j) u = itLay.cells y ++ t.set (k * 5 + j) u := by
        intro j u t
        rw [List.set_append_right _ _ (by show 5 ≤ _; omega)]
        show itLay.cells y ++ t.set ((k + 1) * 5 + j - 5) u = _
        rw [show (k + 1) * 5 + j - 5 = k * 5 + j by omega]
      have e0 := e 0
      simp only [Nat.add_zero] at e0
      rw [e0, e 1, e 2, e 3, e 4]

theorem madeI (n : Nat) : (madeCells #[Value.int .i64 0, .int .i64 0, .int .i64 0, .int .i64 0, .int .i64 0] (n * 5)).toList = (List.replicate n zeroIt).flatMap itLay.cells := by
  apply List.ext_getElem?
  intro j
  have hr := Nat.div_add_mod j 5
  have hlt := Nat.mod_lt j (show 0 < 5 by omega)
  have hf := flat_at itLay (List.replicate n zeroIt) (j / 5) (j % 5) hlt
  rw [show j / 5 * itLay.sz + j % 5 = j by show j / 5 * 5 + j % 5 = j; omega] at hf
  rw [hf]
  by_cases hj : j < n * 5
  · have h4 : j / 5 < n := by omega
    rw [List.getElem?_replicate, if_pos h4]
    simp only [Option.bind_some]
    rcases (by omega : j % 5 = 0 ∨ j % 5 = 1 ∨ j % 5 = 2 ∨ j % 5 = 3 ∨ j % 5 = 4) with h | h | h | h | h <;> simp [madeCells, hj, h, itLay, zeroIt]
  · have h4 : ¬ j / 5 < n := by omega
    rw [List.getElem?_replicate, if_neg h4]
    simp [madeCells, hj]

/-- An owned rectangle's four cells. -/
theorem ownIt_at {w : World} {base : Nat} {e : TypeId} {g n cap i : Nat} {xs : List It} (h : w.ownsRow base e itLay.sz (.slice (some ⟨g, 0, none⟩) n cap) n (xs.flatMap itLay.cells)) (hl : xs.length = n) (hi : i < n) :
    ∃ x : It, w.cell? ⟨g, i * 5, none⟩ = some (.int .i64 x.id) ∧ w.cell? ⟨g, i * 5 + 1, none⟩ = some (.int .i64 x.x0) ∧ w.cell? ⟨g, i * 5 + 2, none⟩ = some (.int .i64 x.y0) ∧ w.cell? ⟨g, i * 5 + 3, none⟩ = some (.int .i64 x.x1) ∧ w.cell? ⟨g, i * 5 + 4, none⟩ = some (.int .i64 x.y1) := by
  subst hl
  obtain ⟨a, c, hv, hr⟩ := OwnS.rd (L := itLay) (e := e) (xs := xs) h
  obtain ⟨b, off, x, e1, _, _, d0, d1, d2, d3, d4⟩ := rdIt_at hr hi
  simp only [Value.slice.injEq] at hv
  obtain ⟨rfl, -, rfl⟩ := hv
  obtain ⟨rfl, rfl⟩ : g = b ∧ 0 = off := by simpa using e1
  simp only [Nat.zero_add] at d0 d1 d2 d3 d4
  exact ⟨x, d0, d1, d2, d3, d4⟩

/-- A slice of rectangles in new memory. -/
def NewItems (xs : List It) (w : World) (e : Ending) (w' : World) : Prop := ∃ v, e = .returned v ∧ OwnS itLay 127 w' w.heap.size v xs ∧ Below w.heap.size w w'

end Go.Proofs.Ytnebhbnogmhbgaa
