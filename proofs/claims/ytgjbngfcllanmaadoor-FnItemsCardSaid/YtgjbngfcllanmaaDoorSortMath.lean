/- What sorting does to lists of items: the same items, in order; a sorted list stays; validity of a list does not hang on its order. -/
import Derived.Test.YtgjbngfcllanmaaDoorSort
import Derived.Test.YtgjbngfcllanmaaDoorItemsOk
namespace Go.Proofs.YtgjbngfcllanmaaDoor
open Go.RowKit

theorem getD_lt (ys : List It) (j : Nat) (h : j < ys.length) : ys.getD j zeroIt = ys[j] := by simp [List.getD, h]
/-- An order by a key, strict: never both ways; what lies between. -/
structure Strict (lt : It → It → Bool) : Prop where
  asym : ∀ a b, lt a b = true → lt b a = false
  between : ∀ a b c, lt a c = true → lt a b = true ∨ lt b c = true
def Sorted (lt : It → It → Bool) (ys : List It) : Prop := ys.Pairwise fun a b => lt b a = false

theorem strict_id : Strict ltId := by
  refine ⟨fun a b h => ?_, fun a b c h => ?_⟩
  · have h' : a.id < b.id := of_decide_eq_true h
    exact decide_eq_false (by omega)
  · have h' : a.id < c.id := of_decide_eq_true h
    by_cases hb : a.id < b.id
    · exact .inl (decide_eq_true hb)
    · exact .inr (decide_eq_true (by omega))
theorem aheadV_iff (k i m j : Int) : aheadV k i m j = true ↔ k < m ∨ (k = m ∧ i < j) := by unfold aheadV; simp
theorem aheadV_asym (k i m j : Int) (h : aheadV k i m j = true) : aheadV m j k i = false := by
  rw [← Bool.not_eq_true, aheadV_iff]
  rw [aheadV_iff] at h
  omega
theorem strict_key : Strict ltKey := by
  refine ⟨fun a b h => aheadV_asym _ _ _ _ h, fun a b c h => ?_⟩
  unfold ltKey at *
  rw [aheadV_iff] at *
  rw [aheadV_iff]
  omega

theorem cutAt_all (lt : It → It → Bool) (x : It) (ys : List It) : ∀ k j, cutAt lt x ys k ≤ j → j < k → lt x (ys.getD j zeroIt) = true
  | 0, j, _, h => by omega
  | k + 1, j, h, hj => by
    unfold cutAt at h
    split at h
    · rename_i hl
      rcases (by omega : j = k ∨ j < k) with rfl | hj2
      · exact hl
      · exact cutAt_all lt x ys k j h hj2
    · omega
theorem cutAt_last (lt : It → It → Bool) (x : It) (ys : List It) : ∀ k j, cutAt lt x ys k = j + 1 → lt x (ys.getD j zeroIt) = false
  | 0, j, h => by cases h
  | k + 1, j, h => by
    unfold cutAt at h
    split at h
    · exact cutAt_last lt x ys k j h
    · rename_i hl
      obtain rfl : k = j := by omega
      simpa using hl

theorem insB_perm (lt : It → It → Bool) (x : It) (ys : List It) : (insB lt x ys).Perm (x :: ys) := by
  unfold insB
  refine List.perm_middle.trans ?_
  rw [List.take_append_drop]
theorem sortB_perm (lt : It → It → Bool) (xs : List It) : (sortB lt xs).Perm xs := by
  have h : ∀ (xs ys : List It), (xs.foldl (fun ys x => insB lt x ys) ys).Perm (ys ++ xs) := by
    intro xs
    induction xs with
    | nil => intro ys; simp
    | cons x l ih =>
      intro ys
      rw [List.foldl_cons]
      refine (ih _).trans (((insB_perm lt x ys).append_right l).trans ?_)
      exact List.perm_middle.symm
  simpa [sortB] using h xs []

theorem insB_sorted {lt : It → It → Bool} (hs : Strict lt) (x : It) (ys : List It) (h : Sorted lt ys) : Sorted lt (insB lt x ys) := by
  have hc := cutAt_le lt x ys ys.length
  have ha := cutAt_all lt x ys ys.length
  have hb := cutAt_last lt x ys ys.length
  unfold insB
  generalize cutAt lt x ys ys.length = k at *
  unfold Sorted at *
  rw [List.pairwise_append]
  refine ⟨h.sublist (List.take_sublist k ys), ?_, ?_⟩
  · rw [List.pairwise_cons]
    refine ⟨fun y hy => ?_, h.sublist (List.drop_sublist k ys)⟩
    obtain ⟨j, hj, rfl⟩ := List.mem_iff_getElem.1 hy
    rw [List.getElem_drop]
    rw [List.length_drop] at hj
    have := ha (k + j) (by omega) (by omega)
    rw [getD_lt _ _ (by omega : k + j < ys.length)] at this
    exact hs.asym _ _ this
  · intro a ha' b hb'
    obtain ⟨i, hi, rfl⟩ := List.mem_iff_getElem.1 ha'
    rw [List.getElem_take]
    rw [List.length_take] at hi
    have hall := List.pairwise_iff_getElem.1 h
    rcases List.mem_cons.1 hb' with rfl | hb'
    · obtain ⟨k', rfl⟩ : ∃ k', k = k' + 1 := ⟨k - 1, by omega⟩
      have hl := hb k' rfl
      rw [getD_lt _ _ (by omega : k' < ys.length)] at hl
      cases hxa : lt b ys[i] with
      | false => rfl
      | true =>
        rcases (by omega : i = k' ∨ i < k') with rfl | hik
        · rw [hxa] at hl; cases hl
        · rcases hs.between _ (ys[k']'(by omega)) _ hxa with h1 | h1
          · rw [h1] at hl; cases hl
          · rw [hall i k' (by omega) (by omega) hik] at h1; cases h1
    · obtain ⟨j, hj, rfl⟩ := List.mem_iff_getElem.1 hb'
      rw [List.getElem_drop]
      rw [List.length_drop] at hj
      exact hall i (k + j) (by omega) (by omega) (by omega)
theorem sortB_sorted {lt : It → It → Bool} (hs : Strict lt) (xs : List It) : Sorted lt (sortB lt xs) := by
  have h : ∀ (xs ys : List It), Sorted lt ys → Sorted lt (xs.foldl (fun ys x => insB lt x ys) ys) := by
    intro xs
    induction xs with
    | nil => intro ys h; exact h
    | cons x l ih => intro ys h; rw [List.foldl_cons]; exact ih _ (insB_sorted hs x ys h)
  exact h xs [] List.Pairwise.nil
theorem sorted_next {lt : It → It → Bool} {ys : List It} (h : Sorted lt ys) {k : Nat} {x y : It} (hx : ys[k]? = some x) (hy : ys[k + 1]? = some y) : lt y x = false := by
  obtain ⟨h1, rfl⟩ := List.getElem?_eq_some_iff.1 hx
  obtain ⟨h2, rfl⟩ := List.getElem?_eq_some_iff.1 hy
  exact List.pairwise_iff_getElem.1 h k (k + 1) h1 h2 (by omega)

theorem cutAt_end {lt : It → It → Bool} {x : It} {ys : List It} (h : ∀ y ∈ ys, lt x y = false) : cutAt lt x ys ys.length = ys.length := by
  cases hn : ys.length with
  | zero => rfl
  | succ n =>
    refine cutAt_no rfl ?_
    rw [getD_lt _ _ (by omega : n < ys.length)]
    exact h _ (List.getElem_mem _)
/-- A sorted list stays as it is. -/
theorem sortB_again {lt : It → It → Bool} (ys : List It) (h : Sorted lt ys) : sortB lt ys = ys := by
  have go : ∀ (l p : List It), Sorted lt (p ++ l) → l.foldl (fun ys x => insB lt x ys) p = p ++ l := by
    intro l
    induction l with
    | nil => intro p _; simp
    | cons x l ih =>
      intro p hp
      rw [List.foldl_cons]
      have hx : ∀ y ∈ p, lt x y = false := fun y hy => (List.pairwise_append.1 hp).2.2 y hy x (by simp)
      have hi : insB lt x p = p ++ [x] := by
        unfold insB
        rw [cutAt_end hx]
        simp
      rw [hi, ih (p ++ [x]) (by simpa using hp)]
      simp
  exact go ys [] h

/-! ### validity of a list -/
theorem atV_nonneg (id : Int) : ∀ (l : List It) (k : Int), 0 ≤ k → (atV id l k = -1 ∧ ∀ x ∈ l, x.id ≠ id) ∨ (k ≤ atV id l k ∧ ∃ x ∈ l, x.id = id)
  | [], k, _ => .inl ⟨rfl, fun x hx => by cases hx⟩
  | x :: l, k, hk => by
    by_cases h : x.id = id
    · right
      exact ⟨by rw [atV, if_pos h]; exact Int.le_refl _, x, by simp, h⟩
    · rw [atV, if_neg h]
      rcases atV_nonneg id l (k + 1) (by omega) with ⟨h1, h2⟩ | ⟨h1, y, h2, h3⟩
      · exact .inl ⟨h1, fun y hy => by rcases List.mem_cons.1 hy with rfl | hy; exact h; exact h2 y hy⟩
      · exact .inr ⟨by omega, y, by simp [h2], h3⟩
/-- Valid: each item is, and no Id stands twice. -/
theorem okAll_split (pre l : List It) (h0 : ∀ x ∈ pre, ∀ y ∈ pre, True) : okAll (pre ++ l) l pre.length = true ↔ (∀ x ∈ l, itOk x.id x.x0 x.y0 x.x1 x.y1 = true) ∧ (l.Pairwise fun a b => a.id ≠ b.id) ∧ ∀ x ∈ l, ∀ y ∈ pre, y.id ≠ x.id := by
  induction l generalizing pre with
  | nil => simp [okAll]
  | cons x l ih =>
    have hat : ∀ (pre : List It) (k : Int), 0 ≤ k → (atV x.id (pre ++ x :: l) k = k + pre.length ↔ ∀ y ∈ pre, y.id ≠ x.id) := by
      intro pre
      induction pre with
      | nil => intro k _; simp [atV]
      | cons z pre ihp =>
        intro k hk
        by_cases h : z.id = x.id
        · simp only [List.cons_append, atV, if_pos h, List.length_cons]
          constructor
          · intro hh; omega
          · intro hh; exact absurd h (hh z (by simp))
        · simp only [List.cons_append, atV, if_neg h, List.length_cons]
          have := ihp (k + 1) (by omega)
          constructor
          · intro hh y hy
            rcases List.mem_cons.1 hy with rfl | hy
            · exact h
            · exact this.1 (by omega) y hy
          · intro hh
            have := this.2 (fun y hy => hh y (by simp [hy]))
            omega
    have h1 := hat pre 0 (by omega)
    have h2 := ih (pre ++ [x]) (fun _ _ _ _ => trivial)
    rw [List.append_assoc, List.singleton_append] at h2
    rw [okAll, Bool.and_eq_true, okAt, Bool.and_eq_true, beq_iff_eq]
    rw [show (pre.length : Int) + 1 = ((pre ++ [x]).length : Int) by simp, h2]
    rw [show (pre.length : Int) = 0 + pre.length by omega, h1]
    simp only [List.mem_cons, List.pairwise_cons, List.mem_append, List.not_mem_nil, or_false]
    constructor
    · rintro ⟨⟨a, b⟩, c, d, e⟩
      refine ⟨?_, ⟨fun y hy => ?_, d⟩, ?_⟩
      · rintro y (rfl | hy)
        · exact a
        · exact c y hy
      · exact e y hy x (.inr rfl)
      · rintro y (rfl | hy) z hz
        · exact b z hz
        · exact e y hy z (.inl hz)
    · rintro ⟨a, ⟨b, c⟩, d⟩
      refine ⟨⟨a x (.inl rfl), d x (.inl rfl)⟩, fun y hy => a y (.inr hy), c, ?_⟩
      rintro y hy z (hz | rfl)
      · exact d y (.inr hy) z hz
      · exact b y hy
theorem okAll_iff (xs : List It) : okAll xs xs 0 = true ↔ (∀ x ∈ xs, itOk x.id x.x0 x.y0 x.x1 x.y1 = true) ∧ xs.Pairwise fun a b => a.id ≠ b.id := by
  have := okAll_split [] xs (fun _ _ _ _ => trivial)
  simpa using this
theorem okAll_perm {xs ys : List It} (h : xs.Perm ys) : okAll xs xs 0 = okAll ys ys 0 := by
  rw [Bool.eq_iff_iff, okAll_iff, okAll_iff]
  rw [h.pairwise_iff (fun {a b} hab => fun e => hab e.symm)]
  constructor
  · exact fun ⟨a, b⟩ => ⟨fun x hx => a x (h.mem_iff.2 hx), b⟩
  · exact fun ⟨a, b⟩ => ⟨fun x hx => a x (h.mem_iff.1 hx), b⟩
end Go.Proofs.YtgjbngfcllanmaaDoor
