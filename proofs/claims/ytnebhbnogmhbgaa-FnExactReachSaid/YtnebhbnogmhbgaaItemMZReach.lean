/- Items that are marked: the laws' own marking of a slice and its reading. -/
import Derived.Test.YtnebhbnogmhbgaaItemSZReach
namespace Go.Proofs.Ytnebhbnogmhbgaa
open Go.RowKit

def markIt (k : Int) (j : Nat) : It := ⟨k + 5 * j, k + 5 * j + 1, k + 5 * j + 1 + 1, k + 5 * j + 1 + 1 + 1, k + 5 * j + 1 + 1 + 1 + 1⟩
def markedI (n : Nat) (k : Int) : List It := gen n (markIt k)
theorem markedI_len (n : Nat) (k : Int) : (markedI n k).length = n := gen_length _ _

def halfI (xs : List It) (n : Nat) (k : Int) (m : Nat) : List It := gen n fun j => if j < m then markIt k j else xs.getD j zeroIt
theorem halfI_len (xs : List It) (n : Nat) (k : Int) (m : Nat) : (halfI xs n k m).length = n := gen_length _ _
theorem halfI_set (xs : List It) (n : Nat) (k : Int) (m : Nat) : halfI xs n k (m + 1) = (halfI xs n k m).set m (markIt k m) := by
  unfold halfI
  rw [gen_set]
  refine gen_congr n _ _ fun j _ => ?_
  by_cases h : j = m
  · subst h; simp
  · rw [if_neg h]
    by_cases h' : j < m
    · rw [if_pos h', if_pos (by omega)]
    · rw [if_neg h', if_neg (by omega)]
theorem halfI_start (xs : List It) (n : Nat) (k : Int) (h : xs.length = n) : halfI xs n k 0 = xs := by
  unfold halfI
  simp only [Nat.not_lt_zero, if_false]
  exact gen_list xs zeroIt n h
theorem halfI_end (xs : List It) (n : Nat) (k : Int) : halfI xs n k n = markedI n k := by
  unfold halfI markedI
  exact gen_congr n _ _ fun j hj => by rw [if_pos hj]

end Go.Proofs.Ytnebhbnogmhbgaa
