/- The model's functions of the Hilbert curve: each computes the plain mathematics of XHilbert. -/
import Derived.Test.YtnebhbnogmhbgaaHilbert
import Derived.Test.YtnebhbnogmhbgaaBox2
namespace Go.Proofs.Ytnebhbnogmhbgaa
open Go.RowKit

/-- The position of a point; -1 outside the square. -/
def alongV (x y : Int) : Int := if inB x 0 255 = true ∧ inB y 0 255 = true then pos 8 x y else -1
/-- The point of a position; 0 and 0 outside the curve. -/
def pointV (d : Int) : Int × Int := if inB d 0 65535 = true then pnt 8 d else (0, 0)

/-- The size of the level behind i. -/
def lev : Nat → Int
  | 0 => 0
  | i + 1 => pw i
theorem pw_le : ∀ (i : Nat), i < 8 → pw i ≤ 128
  | 0, _ => by decide
  | 1, _ => by decide
  | 2, _ => by decide
  | 3, _ => by decide
  | 4, _ => by decide
  | 5, _ => by decide
  | 6, _ => by decide
  | 7, _ => by decide
  | i + 8, h => absurd h (by omega)
theorem lev_half (i : Nat) : pw i / 2 = lev i := by
  cases i with
  | zero => rfl
  | succ i => show 2 * pw i / 2 = pw i; omega
theorem x30 : bits .xor .i64 3 0 = 3 := by decide
theorem x31 : bits .xor .i64 3 1 = 2 := by decide
theorem x00 : bits .xor .i64 0 0 = 0 := by decide
theorem x01 : bits .xor .i64 0 1 = 1 := by decide
theorem bit01 (x s : Int) : x / s % 2 = 0 ∨ x / s % 2 = 1 := by omega
theorem sq_le (i : Nat) (h : i < 8) : sq i ≤ 16384 := by
  have a := pw_le i h
  have b := pw_pos i
  rw [sq_pw]
  exact Int.le_trans (Int.mul_le_mul a a (by omega) (by omega)) (by omega)

theorem ofInt_i64 (a : Nat) (ha : a < 9223372036854775808) : (BitVec.ofInt 64 (a : Int)).toNat = a := by
  rw [BitVec.ofInt_natCast, BitVec.toNat_ofNat]; exact Nat.mod_eq_of_lt (by omega)
theorem xor_nat (a b : Nat) (ha : a < 9223372036854775808) (hb : b < 9223372036854775808) : bits .xor .i64 (a : Int) (b : Int) = ((a ^^^ b : Nat) : Int) := by
  have hx : a ^^^ b < 2 ^ 63 := Nat.xor_lt_two_pow (by omega) (by omega)
  show IntKind.i64.wrap ((BitVec.ofInt 64 (a : Int) ^^^ BitVec.ofInt 64 (b : Int)).toNat : Int) = _
  rw [BitVec.toNat_xor, ofInt_i64 a ha, ofInt_i64 b hb, IntKind.wrap_i64]
  omega
/-- The lowest bit of a number and a bit, one or the other. -/
theorem xor_low (d b : Int) (h0 : 0 ≤ d) (h1 : d ≤ 65535) (hb : b = 0 ∨ b = 1) : bits .xor .i64 d b % 2 = (d + b) % 2 ∧ 0 ≤ bits .xor .i64 d b ∧ bits .xor .i64 d b ≤ 65537 := by
  obtain ⟨m, rfl⟩ := Int.eq_ofNat_of_zero_le h0
  obtain ⟨c, rfl⟩ := Int.eq_ofNat_of_zero_le (show 0 ≤ b by omega)
  rw [xor_nat m c (by omega) (by omega)]
  have e1 : (m ^^^ c) % 2 = (m + c) % 2 := by
    have h := Nat.xor_mod_two_pow (a := m) (b := c) (n := 1)
    rw [Nat.pow_one] at h
    rw [h]
    rcases (by omega : m % 2 = 0 ∨ m % 2 = 1) with a | a <;> rcases (by omega : c % 2 = 0 ∨ c % 2 = 1) with b | b <;> rw [a, b] <;> simp <;> omega
  have e2 : m ^^^ c < 2 ^ 16 := Nat.xor_lt_two_pow (by omega) (by omega)
  refine ⟨by omega, by omega, by omega⟩

theorem sq_succ (i : Nat) (d : Int) : d / sq i / 4 = d / sq (i + 1) := by
  have hs := sq_pos i
  show _ = d / (4 * sq i)
  rw [Int.mul_comm, Int.ediv_ediv_of_nonneg (by omega)]
theorem pnt_succ (i : Nat) (d a b q : Int) (h : pnt i d = (a, b)) (hq : d / sq i % 4 = q) : pnt (i + 1) d = (combX q (pw i) a b, combY q (pw i) a b) := by
  show (combX _ _ _ _, combY _ _ _ _) = _
  rw [h, hq]
theorem quart (r : Int) (_ : 0 ≤ r) : (r / 2 % 2 = 0 ∧ r % 2 = 0 ∧ r % 4 = 0) ∨ (r / 2 % 2 = 0 ∧ r % 2 = 1 ∧ r % 4 = 1) ∨ (r / 2 % 2 = 1 ∧ r % 2 = 0 ∧ r % 4 = 2) ∨ (r / 2 % 2 = 1 ∧ r % 2 = 1 ∧ r % 4 = 3) := by omega

theorem bit01' (r : Int) : r / 2 % 2 = 0 ∨ r / 2 % 2 = 1 := by omega
def RetPt (p : Int × Int) (w : World) (e : Ending) (w' : World) : Prop := e = .returned (.tuple #[.int .i64 p.1, .int .i64 p.2]) ∧ w = w'

end Go.Proofs.Ytnebhbnogmhbgaa
