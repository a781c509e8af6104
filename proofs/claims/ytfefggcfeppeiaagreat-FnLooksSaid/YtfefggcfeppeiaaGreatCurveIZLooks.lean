/- The program's functions of the Hilbert curve. -/
import Derived.Test.YtfefggcfeppeiaaGreatQLooksf
namespace Go.Proofs.YtfefggcfeppeiaaGreat
open Go.RowKit

theorem shr_pw (m i : Nat) (h : m + (i + 1) = 8) : (256 : Int) / 2 ^ (m + 1) = pw i := by
  obtain rfl : m = 7 - i := by omega
  rcases (by omega : i = 0 ∨ i = 1 ∨ i = 2 ∨ i = 3 ∨ i = 4 ∨ i = 5 ∨ i = 6 ∨ i = 7) with rfl | rfl | rfl | rfl | rfl | rfl | rfl | rfl <;> decide

theorem x32 : bits .xor .i64 3 2 = 1 := by decide
theorem x33 : bits .xor .i64 3 3 = 0 := by decide
theorem mod4 (r : Int) : r % 4 = 0 ∨ r % 4 = 1 ∨ r % 4 = 2 ∨ r % 4 = 3 := by omega
theorem shl_pw (i : Nat) (h : i < 8) : (1 : Int) * 2 ^ i = pw i := by
  rcases (by omega : i = 0 ∨ i = 1 ∨ i = 2 ∨ i = 3 ∨ i = 4 ∨ i = 5 ∨ i = 6 ∨ i = 7) with rfl | rfl | rfl | rfl | rfl | rfl | rfl | rfl <;> decide

end Go.Proofs.YtfefggcfeppeiaaGreat
