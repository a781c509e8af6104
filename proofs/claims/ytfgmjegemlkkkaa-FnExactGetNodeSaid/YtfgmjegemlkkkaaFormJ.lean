/- What the program's GetNode tells from the bytes, and what stands there: the mathematics. -/
import Derived.Test.YtfgmjegemlkkkaaFormMath
namespace Go.Proofs.Ytfgmjegemlkkkaa
open Go.RowKit

/-- The number of entries and the kind that the program reads from the first byte. -/
def cntP (q : Int) : Int := q - 16 * (q / 16 % 2)
def leafP (q : Int) : Bool := decide (q / 16 % 2 = 1)
def zeros (zs : List Int) : Bool := decide (∀ z ∈ zs, z = 0)

theorem rawAll_at (bs : List Int) : ∀ (k j : Nat), j < k → (rawAll bs k)[j]? = some (rawE bs (1 + 6 * j))
  | k + 1, j, h => by
    rw [rawAll]
    by_cases e : j < k
    · rw [List.getElem?_append_left (by rw [rawAll_len]; exact e)]
      exact rawAll_at bs k j e
    · obtain rfl : j = k := by omega
      rw [List.getElem?_append_right (by rw [rawAll_len]; exact Nat.le_refl _), rawAll_len, Nat.sub_self]
      rfl
theorem getD_zero {l : List Int} (h : ∀ z ∈ l, z = 0) (j : Nat) : l.getD j 0 = 0 := by
  rw [List.getD_eq_getElem?_getD]
  cases e : l[j]? with
  | none => rfl
  | some x => exact h x (List.mem_of_getElem? e)
theorem headN_at {b : Bool} {n : Nat} (h : n ≤ 4) : cntP (headN b n) = n ∧ leafP (headN b n) = b := by
  unfold headN cntP leafP
  cases b with
  | true => rw [if_pos rfl]; exact ⟨by omega, decide_eq_true (by omega)⟩
  | false => rw [if_neg (by simp)]; exact ⟨by omega, decide_eq_false (by omega)⟩
/-- The bytes of a node are read so. -/
theorem okN_told {bs : List Int} {k : Nat} (h : okN bs = true) (hk : cntP (bs.getD 0 0) = k) :
    k ≤ 4 ∧ hasAll bs k = true ∧ zeros (bs.drop (1 + 6 * k)) = true ∧ nodeOkV (leafP (bs.getD 0 0)) (rawAll bs k) = true := by
  obtain ⟨hn, hp⟩ := (okN_iff _ _ _).1 ⟨h, rfl, rfl⟩
  have h4 := nodeOkV_len hn
  have h0 := head_putN hn
  rw [hp] at h0
  obtain ⟨e1, e2⟩ := headN_at (b := leafN bs) h4
  have hk2 : k = (listN bs).length := by rw [h0, e1] at hk; omega
  obtain ⟨a1, a2⟩ := all_putN hn k (by omega)
  rw [hp] at a1 a2
  rw [hk2, List.take_length, ← hk2] at a2
  refine ⟨by omega, a1, ?_, by rw [h0, e2, a2]; exact hn⟩
  obtain ⟨z, e, -⟩ := putN_form hn
  have hl := flat6_len putE (listN bs) (fun x hx => by rw [putE_yes (nodeOkV_all hn x hx)]; rfl)
  rw [hp] at e
  have hd : bs.drop (1 + 6 * k) = List.replicate z 0 := by
    rw [e, Nat.add_comm 1, List.drop_succ_cons, List.drop_append_of_le_length (by omega), List.drop_of_length_le (by omega), List.nil_append]
  rw [hd]
  exact decide_eq_true (fun x hx => (List.mem_replicate.1 hx).2)
/-- What is read so are a node's bytes. -/
theorem okN_read {bs : List Int} {k : Nat} (hl : bs.length = 25) (hz : ∀ j, 0 ≤ bs.getD j 0 ∧ bs.getD j 0 ≤ 255) (hk : cntP (bs.getD 0 0) = k)
    (h0 : zeros (bs.drop (1 + 6 * k)) = true) (hn : nodeOkV (leafP (bs.getD 0 0)) (rawAll bs k) = true) :
    okN bs = true ∧ leafN bs = leafP (bs.getD 0 0) ∧ listN bs = rawAll bs k := by
  refine (okN_iff _ _ _).2 ⟨hn, ?_⟩
  have h4 := nodeOkV_len hn
  rw [rawAll_len] at h4
  obtain ⟨z, e, h25⟩ := putN_form hn
  have hl6 := flat6_len putE (rawAll bs k) (fun x hx => by rw [putE_yes (nodeOkV_all hn x hx)]; rfl)
  rw [rawAll_len] at hl6
  refine eq_getD (by rw [h25, hl]) (fun j hj => ?_)
  rw [h25] at hj
  by_cases hj0 : j = 0
  · subst hj0
    rw [head_putN hn, rawAll_len]
    unfold headN leafP
    unfold cntP at hk
    have := hz 0
    split
    · rename_i h; simp only [decide_eq_true_eq] at h; omega
    · rename_i h; simp only [decide_eq_true_eq] at h; omega
  · by_cases hj6 : j < 1 + 6 * k
    · obtain ⟨p, i, hi, rfl, hp⟩ : ∃ p i, i < 6 ∧ j = 1 + 6 * p + i ∧ p < k := ⟨(j - 1) / 6, (j - 1) % 6, by omega, by omega, by omega⟩
      have hx := rawAll_at bs k p hp
      rw [putN_at hn hx i hi, putE_yes (nodeOkV_all hn _ (List.mem_of_getElem? hx))]
      have z0 := hz (1 + 6 * p)
      have z1 := hz (1 + 6 * p + 1)
      rcases (by omega : i = 0 ∨ i = 1 ∨ i = 2 ∨ i = 3 ∨ i = 4 ∨ i = 5) with rfl | rfl | rfl | rfl | rfl | rfl
      · show (256 * bs.getD (1 + 6 * p) 0 + bs.getD (1 + 6 * p + 1) 0) / 256 = bs.getD (1 + 6 * p) 0
        omega
      · show (256 * bs.getD (1 + 6 * p) 0 + bs.getD (1 + 6 * p + 1) 0) % 256 = bs.getD (1 + 6 * p + 1) 0
        omega
      · rfl
      · rfl
      · rfl
      · rfl
    · have h1 : bs.getD j 0 = 0 := by
        have := getD_zero (of_decide_eq_true h0) (j - (1 + 6 * k))
        rw [List.getD_eq_getElem?_getD, List.getElem?_drop, show 1 + 6 * k + (j - (1 + 6 * k)) = j by omega, ← List.getD_eq_getElem?_getD] at this
        exact this
      rw [h1, e, List.getD_eq_getElem?_getD, show j = (j - 1) + 1 by omega, List.getElem?_cons_succ, List.getElem?_append_right (by omega), ← List.getD_eq_getElem?_getD]
      exact getD_zero (fun x hx => (List.mem_replicate.1 hx).2) _
/-- The entries' own bytes begin behind the first. -/
theorem hasE_drop {bs : List Int} (hl : bs.length = 25) (k : Nat) : hasE (bs.drop 1) (6 * (k : Int)) = hasE bs (1 + 6 * (k : Int)) ∧ rawE (bs.drop 1) (6 * k) = rawE bs (1 + 6 * k) := by
  have g : ∀ j, (bs.drop 1).getD j 0 = bs.getD (1 + j) 0 := fun j => by rw [List.getD_eq_getElem?_getD, List.getElem?_drop, ← List.getD_eq_getElem?_getD]
  have e : rawE (bs.drop 1) (6 * k) = rawE bs (1 + 6 * k) := by
    unfold rawE
    simp only [g, Nat.add_assoc]
  refine ⟨?_, e⟩
  unfold hasE
  rw [show (6 * (k : Int)).toNat = 6 * k by omega, show (1 + 6 * (k : Int)).toNat = 1 + 6 * k by omega, e, List.length_drop, hl]
  congr 1
  exact decide_eq_decide.2 (by omega)
theorem hasE_far {bs : List Int} (hl : bs.length = 25) {k : Nat} (h : 4 ≤ k) : hasE bs (1 + 6 * (k : Int)) = false := hasE_no (by omega)
end Go.Proofs.Ytfgmjegemlkkkaa
