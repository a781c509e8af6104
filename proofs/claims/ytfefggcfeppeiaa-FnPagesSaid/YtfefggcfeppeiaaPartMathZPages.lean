/- What parts a list is dealt out to: how long, and of what. -/
import Derived.Test.YtfefggcfeppeiaaPartedZPages
namespace Go.Proofs.Ytfefggcfeppeiaa
open Go.RowKit

theorem getI_all {P : It → Prop} (h0 : P zeroIt) {xs : List It} (h : ∀ x ∈ xs, P x) (i : Int) : P (getI xs i) := by
  unfold getI
  cases e : xs[i.toNat]? with
  | none => exact h0
  | some x => exact h x (List.mem_of_getElem? e)
theorem partL_all {P : It → Prop} (h0 : P zeroIt) : ∀ (f : Nat) (left a b : List It), (∀ x ∈ left, P x) → (∀ x ∈ a, P x) → (∀ x ∈ b, P x) → (∀ x ∈ (partL f left a b).1, P x) ∧ ∀ x ∈ (partL f left a b).2, P x
  | 0, left, a, b, _, ha, hb => ⟨ha, hb⟩
  | f + 1, left, a, b, hl, ha, hb => by
    have app : ∀ (u v : List It), (∀ x ∈ u, P x) → (∀ x ∈ v, P x) → ∀ x ∈ u ++ v, P x := fun u v hu hv x hx => (List.mem_append.1 hx).elim (hu x) (hv x)
    have one : ∀ (y : It), P y → ∀ x ∈ [y], P x := fun y hy x hx => by rw [List.mem_singleton.1 hx]; exact hy
    unfold partL
    split
    · exact ⟨ha, hb⟩
    split
    · exact ⟨app _ _ ha hl, hb⟩
    split
    · exact ⟨ha, app _ _ hb hl⟩
    have hl2 : ∀ k : Nat, ∀ x ∈ left.take k ++ left.drop (k + 1), P x := fun k => app _ _ (fun x hx => hl x (List.mem_of_mem_take hx)) (fun x hx => hl x (List.mem_of_mem_drop hx))
    split
    · exact partL_all h0 f _ _ _ (hl2 _) (app _ _ ha (one _ (getI_all h0 hl _))) hb
    · exact partL_all h0 f _ _ _ (hl2 _) ha (app _ _ hb (one _ (getI_all h0 hl _)))
theorem leftV_all {P : It → Prop} (h0 : P zeroIt) {xs : List It} (h : ∀ x ∈ xs, P x) (i k : Nat) : ∀ x ∈ leftV xs i k, P x := by
  intro x hx
  obtain ⟨j, _, rfl⟩ := List.mem_map.1 hx
  exact getI_all h0 h _
theorem partedV_all {P : It → Prop} (h0 : P zeroIt) {xs : List It} (h : ∀ x ∈ xs, P x) : (∀ x ∈ (partedV xs).1, P x) ∧ ∀ x ∈ (partedV xs).2, P x := by
  unfold partedV
  split
  · exact ⟨h, fun x hx => by cases hx⟩
  · have one : ∀ (y : It), P y → ∀ x ∈ [y], P x := fun y hy x hx => by rw [List.mem_singleton.1 hx]; exact hy
    exact partL_all h0 _ _ _ _ (leftV_all h0 h _ _) (one _ (getI_all h0 h _)) (one _ (getI_all h0 h _))
theorem partL_len : ∀ (f : Nat) (left a b : List It), (partL f left a b).1.length + (partL f left a b).2.length ≤ a.length + b.length + left.length
  | 0, left, a, b => by show a.length + b.length ≤ _; omega
  | f + 1, left, a, b => by
    unfold partL
    split
    · show a.length + b.length ≤ _; omega
    split
    · show (a ++ left).length + b.length ≤ _; rw [List.length_append]; omega
    split
    · show a.length + (b ++ left).length ≤ _; rw [List.length_append]; omega
    rename_i h0 _ _
    have hne : left ≠ [] := fun e => h0 (by rw [e]; rfl)
    obtain ⟨h1, h2⟩ := nextV_range left (boxesV a) (boxesV b) hne
    generalize nextV left (boxesV a) (boxesV b) = nx at h1 h2
    have hl : (left.take nx.toNat ++ left.drop (nx.toNat + 1)).length + 1 = left.length := by
      rw [List.length_append, List.length_take, List.length_drop]
      omega
    split
    · have := partL_len f (left.take nx.toNat ++ left.drop (nx.toNat + 1)) (a ++ [getI left nx]) b
      rw [List.length_append, List.length_singleton] at this
      omega
    · have := partL_len f (left.take nx.toNat ++ left.drop (nx.toNat + 1)) a (b ++ [getI left nx])
      rw [List.length_append, List.length_singleton] at this
      omega
theorem partedV_len (xs : List It) : (partedV xs).1.length + (partedV xs).2.length ≤ xs.length + 2 := by
  unfold partedV
  split
  · simp
  · have h := partL_len (leftV xs (seedsV xs).1 (seedsV xs).2).length (leftV xs (seedsV xs).1 (seedsV xs).2) [getI xs (seedsV xs).1] [getI xs (seedsV xs).2]
    have h2 : (leftV xs (seedsV xs).1 (seedsV xs).2).length ≤ xs.length := by
      unfold leftV
      rw [List.length_map]
      refine Nat.le_trans (List.length_filter_le _ _) ?_
      rw [List.length_range]
      exact Nat.le_refl _
    simp only [List.length_singleton] at h
    omega
end Go.Proofs.Ytfefggcfeppeiaa
