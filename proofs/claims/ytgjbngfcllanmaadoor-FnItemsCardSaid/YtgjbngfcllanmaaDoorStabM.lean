/- Stable sorting by merges: what the list laws are. -/
import Derived.Test.YtgjbngfcllanmaaDoorSortMath
import Derived.Test.YtgjbngfcllanmaaDoorStabA
namespace Go.Proofs.YtgjbngfcllanmaaDoor
open Go.RowKit

/-- Into a sorted list: behind all that aren't larger. -/
theorem insB_filter {lt : It → It → Bool} (hs : Strict lt) (x : It) (ys : List It) (h : Sorted lt ys) : insB lt x ys = ys.filter (fun y => !lt x y) ++ x :: ys.filter (fun y => lt x y) := by
  have hc := cutAt_le lt x ys ys.length
  have ha := cutAt_all lt x ys ys.length
  have hb := cutAt_last lt x ys ys.length
  unfold insB
  generalize cutAt lt x ys ys.length = k at *
  have hall := List.pairwise_iff_getElem.1 h
  have h1 : ∀ y ∈ ys.take k, lt x y = false := by
    intro y hy
    obtain ⟨i, hi, rfl⟩ := List.mem_iff_getElem.1 hy
    rw [List.getElem_take]
    rw [List.length_take] at hi
    obtain ⟨k', rfl⟩ : ∃ k', k = k' + 1 := ⟨k - 1, by omega⟩
    have hl := hb k' rfl
    rw [getD_lt _ _ (by omega : k' < ys.length)] at hl
    cases hxa : lt x ys[i] with
    | false => rfl
    | true =>
      rcases (by omega : i = k' ∨ i < k') with rfl | hik
      · rw [hxa] at hl; cases hl
      · rcases hs.between _ (ys[k']'(by omega)) _ hxa with h1 | h1
        · rw [h1] at hl; cases hl
        · rw [hall i k' (by omega) (by omega) hik] at h1; cases h1
  have h2 : ∀ y ∈ ys.drop k, lt x y = true := by
    intro y hy
    obtain ⟨j, hj, rfl⟩ := List.mem_iff_getElem.1 hy
    rw [List.getElem_drop]
    rw [List.length_drop] at hj
    have := ha (k + j) (by omega) (by omega)
    rwa [getD_lt _ _ (by omega : k + j < ys.length)] at this
  have e1 : ys.filter (fun y => !lt x y) = ys.take k := by
    conv => lhs; rw [← List.take_append_drop k ys]
    rw [List.filter_append, List.filter_eq_self.2 (fun y hy => by simp [h1 y hy]), List.filter_eq_nil_iff.2 (fun y hy => by simp [h2 y hy]), List.append_nil]
  have e2 : ys.filter (fun y => lt x y) = ys.drop k := by
    conv => lhs; rw [← List.take_append_drop k ys]
    rw [List.filter_append, List.filter_eq_nil_iff.2 (fun y hy => by simp [h1 y hy]), List.filter_eq_self.2 (fun y hy => by simp [h2 y hy]), List.nil_append]
  rw [e1, e2]

theorem insB_comm {lt : It → It → Bool} (hs : Strict lt) (x y : It) (s : List It) (h : Sorted lt s) (hyx : lt y x = true) : insB lt y (insB lt x s) = insB lt x (insB lt y s) := by
  have hxy := hs.asym _ _ hyx
  have t1 : ∀ z, lt x z = true → lt y z = true := fun z hz => by
    rcases hs.between y z x hyx with h1 | h1
    · exact h1
    · rw [hs.asym _ _ hz] at h1; cases h1
  have f1 : (fun a => !lt y a && !lt x a) = fun a => !lt y a := funext fun a => by
    have := t1 a; cases h1 : lt x a <;> cases h2 : lt y a <;> simp_all
  have f2 : (fun a => !lt y a && lt x a) = fun _ => false := funext fun a => by
    have := t1 a; cases h1 : lt x a <;> cases h2 : lt y a <;> simp_all
  have f3 : (fun a => lt y a && lt x a) = fun a => lt x a := funext fun a => by
    have := t1 a; cases h1 : lt x a <;> cases h2 : lt y a <;> simp_all
  have f4 : (fun a => !lt x a && !lt y a) = fun a => !lt y a := funext fun a => by
    have := t1 a; cases h1 : lt x a <;> cases h2 : lt y a <;> simp_all
  have f5 : (fun a => lt x a && !lt y a) = fun _ => false := funext fun a => by
    have := t1 a; cases h1 : lt x a <;> cases h2 : lt y a <;> simp_all
  have f6 : (fun a => lt x a && lt y a) = fun a => lt x a := funext fun a => by
    have := t1 a; cases h1 : lt x a <;> cases h2 : lt y a <;> simp_all
  have f7 : (fun a => !lt x a && lt y a) = fun a => lt y a && !lt x a := funext fun a => Bool.and_comm _ _
  rw [insB_filter hs y _ (insB_sorted hs x s h), insB_filter hs x _ (insB_sorted hs y s h), insB_filter hs x s h, insB_filter hs y s h]
  simp only [List.filter_append, List.filter_cons, hyx, hxy, List.filter_filter, f1, f2, f3, f4, f5, f6, f7]
  have ff : s.filter (fun _ => false) = [] := List.filter_eq_nil_iff.2 (by simp)
  simp [ff]

/-- Items put in, one after another. -/
def putB (lt : It → It → Bool) (s l : List It) : List It := l.foldl (fun ys x => insB lt x ys) s
theorem putB_cons (lt : It → It → Bool) (s l : List It) (x : It) : putB lt s (x :: l) = putB lt (insB lt x s) l := rfl
theorem putB_append (lt : It → It → Bool) (s l m : List It) : putB lt s (l ++ m) = putB lt (putB lt s l) m := List.foldl_append
theorem sortB_putB (lt : It → It → Bool) (l : List It) : sortB lt l = putB lt [] l := rfl
theorem putB_sorted {lt : It → It → Bool} (hs : Strict lt) : ∀ (l s : List It), Sorted lt s → Sorted lt (putB lt s l)
  | [], _, h => h
  | x :: l, s, h => putB_sorted hs l _ (insB_sorted hs x s h)
theorem putB_past {lt : It → It → Bool} (hs : Strict lt) (x : It) : ∀ (Y s : List It), Sorted lt s → (∀ y ∈ Y, lt y x = true) → putB lt (insB lt x s) Y = insB lt x (putB lt s Y)
  | [], _, _, _ => rfl
  | y :: Y, s, h, hY => by
    rw [putB_cons, putB_cons, insB_comm hs x y s h (hY y (by simp)), putB_past hs x Y _ (insB_sorted hs y s h) (fun z hz => hY z (by simp [hz]))]
theorem putB_swap {lt : It → It → Bool} (hs : Strict lt) (Y : List It) : ∀ (X s : List It), Sorted lt s → (∀ x ∈ X, ∀ y ∈ Y, lt y x = true) → putB lt s (X ++ Y) = putB lt s (Y ++ X)
  | [], _, _, _ => by simp
  | x :: X, s, h, hXY => by
    rw [List.cons_append, putB_cons, putB_swap hs Y X _ (insB_sorted hs x s h) (fun z hz => hXY z (by simp [hz])), putB_append, putB_past hs x Y s h (hXY x (by simp)), putB_append, putB_cons]

/-- Two neighbouring parts change places, all of the second being smaller: the sorted list is the same. -/
theorem sortB_swap {lt : It → It → Bool} (hs : Strict lt) (A X Y B : List It) (h : ∀ x ∈ X, ∀ y ∈ Y, lt y x = true) : sortB lt (A ++ X ++ Y ++ B) = sortB lt (A ++ Y ++ X ++ B) := by
  rw [sortB_putB, sortB_putB, putB_append, putB_append lt [] (A ++ Y ++ X) B, List.append_assoc, List.append_assoc, putB_append, putB_append lt [] A (Y ++ X), putB_swap hs Y X _ (putB_sorted hs A [] List.Pairwise.nil) h]

theorem sortB_ins {lt : It → It → Bool} (hs : Strict lt) (A s C : List It) (x : It) : sortB lt (A ++ insB lt x s ++ C) = sortB lt (A ++ s ++ [x] ++ C) := by
  have ha := cutAt_all lt x s s.length
  unfold insB
  generalize cutAt lt x s s.length = k at *
  have := sortB_swap hs (A ++ s.take k) (s.drop k) [x] C (fun y hy z hz => by
    obtain rfl : z = x := by simpa using hz
    obtain ⟨j, hj, rfl⟩ := List.mem_iff_getElem.1 hy
    rw [List.getElem_drop]
    rw [List.length_drop] at hj
    have := ha (k + j) (by omega) (by omega)
    rwa [getD_lt _ _ (by omega : k + j < s.length)] at this)
  rw [List.append_assoc A (s.take k), List.take_append_drop] at this
  rw [this]
  simp

theorem sortB_put {lt : It → It → Bool} (hs : Strict lt) (A C : List It) : ∀ (B s : List It), sortB lt (A ++ putB lt s B ++ C) = sortB lt (A ++ s ++ B ++ C)
  | [], s => by simp [putB]
  | x :: B, s => by
    rw [putB_cons, sortB_put hs A C B, List.append_assoc (A ++ insB lt x s), sortB_ins hs]
    simp
/-- A part is sorted ahead: the sorted list is the same. -/
theorem sortB_part {lt : It → It → Bool} (hs : Strict lt) (A B C : List It) : sortB lt (A ++ sortB lt B ++ C) = sortB lt (A ++ B ++ C) := by
  rw [sortB_putB lt B, sortB_put hs A C B []]
  simp

theorem cutAt_behind {lt : It → It → Bool} {x : It} {A B : List It} (h : ∀ a ∈ A, lt x a = false) : ∀ k, cutAt lt x (A ++ B) (A.length + k) = A.length + cutAt lt x B k
  | 0 => by
    cases hn : A.length with
    | zero => rfl
    | succ n =>
      refine cutAt_no rfl ?_
      rw [getD_lt _ _ (by simp; omega), List.getElem_append_left (by omega)]
      exact h _ (List.getElem_mem _)
  | k + 1 => by
    have e : (A ++ B).getD (A.length + k) zeroIt = B.getD k zeroIt := by
      simp [List.getD, List.getElem?_append_right]
    rw [← Nat.add_assoc]
    cases hl : lt x (B.getD k zeroIt) with
    | true => rw [cutAt_yes e hl, cutAt_yes rfl hl, cutAt_behind h k]
    | false => rw [cutAt_no e hl, cutAt_no rfl hl]; rfl
theorem insB_behind {lt : It → It → Bool} {x : It} {A B : List It} (h : ∀ a ∈ A, lt x a = false) : insB lt x (A ++ B) = A ++ insB lt x B := by
  unfold insB
  rw [List.length_append, cutAt_behind h]
  generalize cutAt lt x B B.length = j
  rw [List.take_append, List.drop_append, List.take_of_length_le (by omega : A.length ≤ A.length + j), List.drop_of_length_le (by omega : A.length ≤ A.length + j), Nat.add_sub_cancel_left]
  simp
theorem putB_behind {lt : It → It → Bool} {A : List It} : ∀ (l s : List It), (∀ x ∈ l, ∀ a ∈ A, lt x a = false) → putB lt (A ++ s) l = A ++ putB lt s l
  | [], _, _ => rfl
  | x :: l, s, h => by
    rw [putB_cons, putB_cons, insB_behind (h x (by simp)), putB_behind l _ (fun z hz => h z (by simp [hz]))]
/-- Two parts, nothing of the second being smaller: each is sorted alone. -/
theorem sortB_apart {lt : It → It → Bool} (L R : List It) (h : ∀ r ∈ R, ∀ l ∈ L, lt r l = false) : sortB lt (L ++ R) = sortB lt L ++ sortB lt R := by
  rw [sortB_putB, putB_append, ← sortB_putB, sortB_putB lt R]
  have := putB_behind (lt := lt) (A := sortB lt L) R [] (fun r hr l hl => h r hr l ((sortB_perm lt L).mem_iff.1 hl))
  rwa [List.append_nil] at this

theorem merge_left {lt : It → It → Bool} (hs : Strict lt) (x : It) (Y1 Y2 : List It) (h : Sorted lt (Y1 ++ Y2)) (h1 : ∀ y ∈ Y1, lt y x = true) (h2 : ∀ y ∈ Y2, lt y x = false) : sortB lt (x :: (Y1 ++ Y2)) = Y1 ++ x :: Y2 := by
  have := sortB_swap hs [] [x] Y1 Y2 (fun z hz y hy => by rw [List.mem_singleton.1 hz]; exact h1 y hy)
  rw [show x :: (Y1 ++ Y2) = [] ++ [x] ++ Y1 ++ Y2 by simp, this, show [] ++ Y1 ++ [x] ++ Y2 = Y1 ++ x :: Y2 by simp]
  refine sortB_again _ ?_
  unfold Sorted at h ⊢
  rw [List.pairwise_append] at h ⊢
  refine ⟨h.1, List.pairwise_cons.2 ⟨h2, h.2.1⟩, fun y hy z hz => ?_⟩
  rcases List.mem_cons.1 hz with rfl | hz
  · exact hs.asym _ _ (h1 y hy)
  · exact h.2.2 y hy z hz
theorem merge_right {lt : It → It → Bool} (hs : Strict lt) (y : It) (X1 X2 : List It) (h : Sorted lt (X1 ++ X2)) (h1 : ∀ x ∈ X1, lt y x = false) (h2 : ∀ x ∈ X2, lt y x = true) : sortB lt (X1 ++ X2 ++ [y]) = X1 ++ y :: X2 := by
  have := sortB_swap hs X1 X2 [y] [] (fun x hx z hz => by rw [List.mem_singleton.1 hz]; exact h2 x hx)
  rw [List.append_nil, List.append_nil] at this
  rw [this, show X1 ++ [y] ++ X2 = X1 ++ y :: X2 by simp]
  refine sortB_again _ ?_
  unfold Sorted at h ⊢
  rw [List.pairwise_append] at h ⊢
  refine ⟨h.1, List.pairwise_cons.2 ⟨fun x hx => hs.asym _ _ (h2 x hx), h.2.1⟩, fun x hx z hz => ?_⟩
  rcases List.mem_cons.1 hz with rfl | hz
  · exact h1 x hx
  · exact h.2.2 x hx z hz
theorem merge_mid {lt : It → It → Bool} (hs : Strict lt) (X1 X2 Y1 Y2 : List It) (hX : Sorted lt (X1 ++ X2)) (hY : Sorted lt (Y1 ++ Y2)) (h1 : ∀ x ∈ X2, ∀ y ∈ Y1, lt y x = true) (h2 : ∀ x ∈ X1, ∀ y ∈ Y2, lt y x = false) :
    sortB lt (X1 ++ X2 ++ (Y1 ++ Y2)) = sortB lt (X1 ++ Y1) ++ sortB lt (X2 ++ Y2) := by
  rw [← List.append_assoc, sortB_swap hs X1 X2 Y1 Y2 h1, List.append_assoc (X1 ++ Y1)]
  refine sortB_apart _ _ fun r hr l hl => ?_
  have pX := (List.pairwise_append.1 hX).2.2
  have pY := (List.pairwise_append.1 hY).2.2
  rcases List.mem_append.1 hr with hr | hr <;> rcases List.mem_append.1 hl with hl | hl
  · exact pX l hl r hr
  · exact hs.asym _ _ (h1 r hr l hl)
  · exact h2 l hl r hr
  · exact pY l hl r hr

/-- Out of the two items at the cut: all of them. -/
theorem cut_less {lt : It → It → Bool} (hs : Strict lt) {X1 X2 Y1 Y2 : List It} {x y : It} (hX : Sorted lt (X1 ++ x :: X2)) (hY : Sorted lt (Y1 ++ [y] ++ Y2)) (h : lt y x = true) : ∀ u ∈ x :: X2, ∀ v ∈ Y1 ++ [y], lt v u = true := by
  intro u hu v hv
  have hxu : lt u x = false ∨ u = x := by
    rcases List.mem_cons.1 hu with rfl | hu
    · exact .inr rfl
    · exact .inl ((List.pairwise_cons.1 (List.pairwise_append.1 hX).2.1).1 u hu)
  have hvy : lt y v = false ∨ v = y := by
    rcases List.mem_append.1 hv with hv | hv
    · exact .inl ((List.pairwise_append.1 (List.pairwise_append.1 hY).1).2.2 v hv y (by simp))
    · exact .inr (by simpa using hv)
  have h1 : lt v x = true := by
    rcases hvy with hvy | rfl
    · rcases hs.between y v x h with h1 | h1
      · rw [h1] at hvy; cases hvy
      · exact h1
    · exact h
  rcases hxu with hxu | rfl
  · rcases hs.between v u x h1 with h2 | h2
    · exact h2
    · rw [h2] at hxu; cases hxu
  · exact h1
theorem cut_not {lt : It → It → Bool} (hs : Strict lt) {X1 X2 Y1 Y2 : List It} {x y : It} (hX : Sorted lt (X1 ++ [x] ++ X2)) (hY : Sorted lt (Y1 ++ y :: Y2)) (h : lt y x = false) : ∀ u ∈ X1 ++ [x], ∀ v ∈ y :: Y2, lt v u = false := by
  intro u hu v hv
  cases hc : lt v u with
  | false => rfl
  | true =>
    have hvy : lt v y = false ∨ v = y := by
      rcases List.mem_cons.1 hv with rfl | hv
      · exact .inr rfl
      · exact .inl ((List.pairwise_cons.1 (List.pairwise_append.1 hY).2.1).1 v hv)
    have hxu : lt x u = false ∨ u = x := by
      rcases List.mem_append.1 hu with hu | hu
      · exact .inl ((List.pairwise_append.1 (List.pairwise_append.1 hX).1).2.2 u hu x (by simp))
      · exact .inr (by simpa using hu)
    have h1 : lt y u = true := by
      rcases hvy with hvy | rfl
      · rcases hs.between v y u hc with h1 | h1
        · rw [h1] at hvy; cases hvy
        · exact h1
      · exact hc
    rcases hxu with hxu | rfl
    · rcases hs.between y x u h1 with h2 | h2
      · rw [h2] at h; cases h
      · rw [h2] at hxu; cases hxu
    · rw [h1] at h; cases h

/-! ### exchanges, in parts -/
theorem swpI_far (A B C : List It) (x y : It) (i j : Nat) (hi : i = A.length) (hj : j = A.length + 1 + B.length) : swpI (A ++ x :: B ++ y :: C) i j = A ++ y :: B ++ x :: C := by
  subst hi hj
  have e1 : (A ++ x :: B ++ y :: C).getD A.length zeroIt = x := by simp [List.getD]
  have e2 : (A ++ x :: B ++ y :: C).getD (A.length + 1 + B.length) zeroIt = y := by
    rw [show A ++ x :: B ++ y :: C = (A ++ x :: B) ++ y :: C by simp, List.getD_eq_getElem?_getD, List.getElem?_append_right (by simp; omega)]
    simp [show A.length + 1 + B.length - (A.length + (B.length + 1)) = 0 by omega]
  unfold swpI
  rw [e1, e2]
  have e3 : (A ++ x :: B ++ y :: C).set A.length y = A ++ y :: B ++ y :: C := by simp
  rw [e3, show A ++ y :: B ++ y :: C = (A ++ y :: B) ++ y :: C by simp, List.set_append_right _ _ (by simp; omega)]
  simp [show A.length + 1 + B.length - (A.length + (B.length + 1)) = 0 by omega]
theorem swpI_next (A C : List It) (x y : It) (i j : Nat) (hi : i = A.length) (hj : j = A.length + 1) : swpI (A ++ x :: y :: C) i j = A ++ y :: x :: C := by
  have := swpI_far A [] C x y i j hi hj
  simpa using this
theorem swpI_comm (l : List It) (i j : Nat) (h : i ≠ j) : swpI l i j = swpI l j i := List.set_comm _ _ h
theorem swpI_prev (A C : List It) (x y : It) (i j : Nat) (hi : i = A.length + 1) (hj : j = A.length) : swpI (A ++ x :: y :: C) i j = A ++ y :: x :: C := by
  rw [swpI_comm _ _ _ (by omega), swpI_next A C x y j i hj hi]
theorem swpR_parts : ∀ (k : Nat) (P X M Y S : List It) (a b : Nat), a = P.length → b = P.length + X.length + M.length → X.length = k → Y.length = k → swpR (P ++ X ++ M ++ Y ++ S) a b k = P ++ Y ++ M ++ X ++ S
  | 0, P, X, M, Y, S, a, b, _, _, hx, hy => by
    obtain rfl := List.length_eq_zero_iff.1 hx
    obtain rfl := List.length_eq_zero_iff.1 hy
    rfl
  | k + 1, P, X, M, Y, S, a, b, ha, hb, hx, hy => by
    obtain ⟨X', x, rfl⟩ : ∃ X' x, X = X' ++ [x] := ⟨X.dropLast, X.getLast (by intro h; simp [h] at hx), (List.dropLast_concat_getLast _).symm⟩
    obtain ⟨Y', y, rfl⟩ : ∃ X' x, Y = X' ++ [x] := ⟨Y.dropLast, Y.getLast (by intro h; simp [h] at hy), (List.dropLast_concat_getLast _).symm⟩
    simp only [List.length_append, List.length_cons, List.length_nil] at hx hy hb
    have ih := swpR_parts k P X' (x :: M) Y' (y :: S) a b ha (by simp; omega) (by omega) (by omega)
    unfold swpR
    rw [show P ++ (X' ++ [x]) ++ M ++ (Y' ++ [y]) ++ S = P ++ X' ++ (x :: M) ++ Y' ++ (y :: S) by simp, ih]
    have := swpI_far (P ++ Y') (M ++ X') S x y (a + k) (b + k) (by simp; omega) (by simp; omega)
    rw [show P ++ Y' ++ x :: M ++ X' ++ y :: S = P ++ Y' ++ x :: (M ++ X') ++ y :: S by simp, this]
    simp
end Go.Proofs.YtgjbngfcllanmaaDoor
