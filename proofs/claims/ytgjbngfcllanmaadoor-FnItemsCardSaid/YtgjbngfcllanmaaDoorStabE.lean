/- The library's stable sort: what its searches find. -/
import Derived.Test.YtgjbngfcllanmaaDoorStabC
namespace Go.Proofs.YtgjbngfcllanmaaDoor
open Go.RowKit

theorem getD_cut (l : List It) (k : Nat) (h : k < l.length) : l = l.take k ++ l.getD k zeroIt :: l.drop (k + 1) := by
  rw [getD_lt _ _ h, ← List.drop_eq_getElem_cons h, List.take_append_drop]
theorem getD_take (l : List It) (k : Nat) (h : k < l.length) : l.take (k + 1) = l.take k ++ [l.getD k zeroIt] := by
  rw [getD_lt _ _ h, List.take_add_one, List.getElem?_eq_getElem h]; rfl
theorem getD_drop (l : List It) (k : Nat) (h : k < l.length) : l.drop k = l.getD k zeroIt :: l.drop (k + 1) := by
  rw [getD_lt _ _ h, ← List.drop_eq_getElem_cons h]

/-- The k-th of the second part; of the third. -/
theorem getD_snd (P X R : List It) (i k : Nat) (hi : i = P.length + k) (hk : k < X.length) : (P ++ X ++ R).getD i zeroIt = X.getD k zeroIt := by
  subst hi
  simp only [List.getD_eq_getElem?_getD]
  rw [List.append_assoc, List.getElem?_append_right (by omega), List.getElem?_append_left (by omega), Nat.add_sub_cancel_left]
theorem getD_thd (P X Y S : List It) (i k : Nat) (hi : i = P.length + X.length + k) (hk : k < Y.length) : (P ++ X ++ Y ++ S).getD i zeroIt = Y.getD k zeroIt :=
  getD_snd (P ++ X) Y S i k (by simp; omega) hk

theorem mid_cut {lt : It → It → Bool} (hs : Strict lt) (X Y : List It) (s t : Nat) (hX : Sorted lt X) (hY : Sorted lt Y) (hsl : s ≤ X.length) (htl : t ≤ Y.length)
    (h1 : 0 < t → s < X.length → lt (Y.getD (t - 1) zeroIt) (X.getD s zeroIt) = true) (h2 : 0 < s → t < Y.length → lt (Y.getD t zeroIt) (X.getD (s - 1) zeroIt) = false) :
    sortB lt (X ++ Y) = sortB lt (X.take s ++ Y.take t) ++ sortB lt (X.drop s ++ Y.drop t) := by
  have := merge_mid hs (X.take s) (X.drop s) (Y.take t) (Y.drop t) (by rwa [List.take_append_drop]) (by rwa [List.take_append_drop]) (by
    rcases Nat.eq_zero_or_pos t with rfl | ht
    · intro x hx y hy; simp at hy
    rcases (by omega : s = X.length ∨ s < X.length) with rfl | hs'
    · intro x hx; simp at hx
    obtain ⟨t, rfl⟩ : ∃ t', t = t' + 1 := ⟨t - 1, by omega⟩
    have h := h1 (by omega) hs'
    rw [Nat.add_sub_cancel] at h
    have := cut_less hs (X1 := X.take s) (X2 := X.drop (s + 1)) (Y1 := Y.take t) (Y2 := Y.drop (t + 1)) (by rwa [← getD_cut X s hs']) (by rwa [← getD_take Y t (by omega), List.take_append_drop]) h
    rwa [← getD_drop X s hs', ← getD_take Y t (by omega)] at this) (by
    rcases Nat.eq_zero_or_pos s with rfl | hs0
    · intro x hx; simp at hx
    rcases (by omega : t = Y.length ∨ t < Y.length) with rfl | ht'
    · intro x hx y hy; simp at hy
    obtain ⟨s, rfl⟩ : ∃ t', s = t' + 1 := ⟨s - 1, by omega⟩
    have h := h2 (by omega) ht'
    rw [Nat.add_sub_cancel] at h
    have := cut_not hs (X1 := X.take s) (X2 := X.drop (s + 1)) (Y1 := Y.take t) (Y2 := Y.drop (t + 1)) (by rwa [← getD_take X s (by omega), List.take_append_drop]) (by rwa [← getD_cut Y t ht']) h
    rwa [← getD_drop Y t ht', ← getD_take X s (by omega)] at this)
  rwa [List.take_append_drop, List.take_append_drop] at this
theorem sorted_one (lt : It → It → Bool) (x : It) : Sorted lt [x] := List.pairwise_singleton _ _
theorem left_cut {lt : It → It → Bool} (hs : Strict lt) (x : It) (Y : List It) (s : Nat) (hY : Sorted lt Y) (hsl : s ≤ Y.length)
    (h1 : s = 0 ∨ lt (Y.getD (s - 1) zeroIt) x = true) (h2 : s = Y.length ∨ lt (Y.getD s zeroIt) x = false) : sortB lt (x :: Y) = Y.take s ++ x :: Y.drop s := by
  have e : Y = Y.take s ++ Y.drop s := (List.take_append_drop s Y).symm
  conv => lhs; rw [e]
  refine merge_left hs x _ _ (by rwa [← e]) ?_ ?_
  · rcases h1 with rfl | h1
    · intro y hy; simp at hy
    rcases Nat.eq_zero_or_pos s with rfl | hs0
    · intro y hy; simp at hy
    obtain ⟨s, rfl⟩ : ∃ t', s = t' + 1 := ⟨s - 1, by omega⟩
    rw [Nat.add_sub_cancel] at h1
    have := cut_less hs (X1 := []) (X2 := []) (Y1 := Y.take s) (Y2 := Y.drop (s + 1)) (sorted_one lt x) (by rwa [← getD_take Y s (by omega), List.take_append_drop]) h1
    rw [← getD_take Y s (by omega)] at this
    exact this x (by simp)
  · rcases h2 with rfl | h2
    · intro y hy; simp at hy
    rcases (by omega : s = Y.length ∨ s < Y.length) with rfl | hs0
    · intro y hy; simp at hy
    have := cut_not hs (X1 := []) (X2 := []) (Y1 := Y.take s) (Y2 := Y.drop (s + 1)) (sorted_one lt x) (by rwa [← getD_cut Y s hs0]) h2
    rw [← getD_drop Y s hs0] at this
    exact this x (by simp)
theorem right_cut {lt : It → It → Bool} (hs : Strict lt) (y : It) (X : List It) (s : Nat) (hX : Sorted lt X) (hsl : s ≤ X.length)
    (h1 : s = 0 ∨ lt y (X.getD (s - 1) zeroIt) = false) (h2 : s = X.length ∨ lt y (X.getD s zeroIt) = true) : sortB lt (X ++ [y]) = X.take s ++ y :: X.drop s := by
  have e : X = X.take s ++ X.drop s := (List.take_append_drop s X).symm
  conv => lhs; rw [e]
  refine merge_right hs y _ _ (by rwa [← e]) ?_ ?_
  · rcases h1 with rfl | h1
    · intro x hx; simp at hx
    rcases Nat.eq_zero_or_pos s with rfl | hs0
    · intro x hx; simp at hx
    obtain ⟨s, rfl⟩ : ∃ t', s = t' + 1 := ⟨s - 1, by omega⟩
    rw [Nat.add_sub_cancel] at h1
    have := cut_not hs (X1 := X.take s) (X2 := X.drop (s + 1)) (Y1 := []) (Y2 := []) (by rwa [← getD_take X s (by omega), List.take_append_drop]) (sorted_one lt y) h1
    rw [← getD_take X s (by omega)] at this
    exact fun x hx => this x hx y (by simp)
  · rcases h2 with rfl | h2
    · intro x hx; simp at hx
    rcases (by omega : s = X.length ∨ s < X.length) with rfl | hs0
    · intro x hx; simp at hx
    have := cut_less hs (X1 := X.take s) (X2 := X.drop (s + 1)) (Y1 := []) (Y2 := []) (by rwa [← getD_cut X s hs0]) (sorted_one lt y) h2
    rw [← getD_drop X s hs0] at this
    exact fun x hx => this x hx y (by simp)
end Go.Proofs.YtgjbngfcllanmaaDoor
