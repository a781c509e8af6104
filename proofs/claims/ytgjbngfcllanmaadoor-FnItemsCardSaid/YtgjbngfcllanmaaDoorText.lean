/- Decimal digits: plain mathematics on lists of bytes. -/
import Derived.Lib.ItoaNum
import Derived.Lib.AtoiTie
import Derived.Lib.ItoaLen
namespace Go.Proofs.YtgjbngfcllanmaaDoor
open Go.Lib

def digs (u : Nat) : List UInt8 := if u = 0 then [] else decDigits u
theorem digs_dec (u : Nat) (h : 0 < u) : decDigits u = digs u := by unfold digs; rw [if_neg (by omega)]
theorem digs_step (u : Nat) (h : 0 < u) : digs u = digs (u / 10) ++ [UInt8.ofNat (48 + u % 10)] := by
  rw [← digs_dec u h]
  by_cases h1 : u < 10
  · rw [decDigits_one h1]
    unfold digs
    rw [if_pos (by omega), Nat.mod_eq_of_lt h1]; rfl
  · rw [decDigits, dif_neg h1, digs_dec _ (by omega)]
theorem digs_zero : digs 0 = [] := rfl
theorem digs_length (u : Nat) (h : u < 18446744073709551616) : (digs u).length ≤ 20 := by
  unfold digs
  split
  · simp
  · rw [decDigits_length]; exact nDigits_le20 u h

def isDig (c : UInt8) : Bool := decide (48 ≤ c.toNat ∧ c.toNat ≤ 57)
def numStep (n : Nat) (c : UInt8) : Nat := 10 * n + (c.toNat - 48)
def numOf (l : List UInt8) : Nat := l.foldl numStep 0
/-- What ParseNum accepts: one to five digits, no leading zero. -/
def isNum (l : List UInt8) : Bool := decide (l ≠ [] ∧ l.length ≤ 5 ∧ ¬ (1 < l.length ∧ l.head? = some 48)) && l.all isDig

theorem numOf_snoc (l : List UInt8) (c : UInt8) : numOf (l ++ [c]) = 10 * numOf l + (c.toNat - 48) := by
  unfold numOf numStep; simp
theorem numOf_lt : ∀ (n : Nat) (l : List UInt8), l.length = n → l.all isDig = true → numOf l < 10 ^ n := by
  intro n
  induction n with
  | zero => intro l hl _; rw [List.eq_nil_of_length_eq_zero hl]; decide
  | succ n ih =>
    intro l hl hd
    obtain ⟨l', c, rfl⟩ : ∃ l' c, l = l' ++ [c] := by
      rcases List.eq_nil_or_concat l with h | ⟨l', c, h⟩
      · rw [h] at hl; simp at hl
      · exact ⟨l', c, by simpa using h⟩
    rw [List.all_append, Bool.and_eq_true] at hd
    have h1 := ih l' (by simpa using hl) hd.1
    have h2 : 48 ≤ c.toNat ∧ c.toNat ≤ 57 := by simpa [isDig] using hd.2
    rw [numOf_snoc, Nat.pow_succ]
    omega

theorem byte_dig (c : UInt8) (h : isDig c = true) : UInt8.ofNat (48 + (c.toNat - 48)) = c := by
  have : 48 ≤ c.toNat ∧ c.toNat ≤ 57 := by simpa [isDig] using h
  rw [show 48 + (c.toNat - 48) = c.toNat from by omega]
  simp

/-- Digits without a leading zero are the digits of their number. -/
theorem digs_numOf : ∀ (n : Nat) (l : List UInt8), l.length = n → l.all isDig = true → l.head? ≠ some 48 → digs (numOf l) = l := by
  intro n
  induction n with
  | zero => intro l hl _ _; rw [List.eq_nil_of_length_eq_zero hl]; rfl
  | succ n ih =>
    intro l hl hd hh
    obtain ⟨l', c, rfl⟩ : ∃ l' c, l = l' ++ [c] := by
      rcases List.eq_nil_or_concat l with h | ⟨l', c, h⟩
      · rw [h] at hl; simp at hl
      · exact ⟨l', c, by simpa using h⟩
    rw [List.all_append, Bool.and_eq_true] at hd
    have hc : isDig c = true := by simpa using hd.2
    have h2 : 48 ≤ c.toNat ∧ c.toNat ≤ 57 := by simpa [isDig] using hc
    have hpos : 0 < numOf (l' ++ [c]) := by
      rw [numOf_snoc]
      by_cases hl' : l' = []
      · subst hl'
        have : c ≠ 48 := by intro e; apply hh; simp [e]
        have : c.toNat ≠ 48 := by intro e; apply this; exact UInt8.toNat_inj.1 e
        omega
      · have hh' : l'.head? ≠ some 48 := by
          cases l' with
          | nil => exact absurd rfl hl'
          | cons a t => simpa using hh
        have e := ih l' (by simpa using hl) hd.1 hh'
        have : numOf l' ≠ 0 := by intro e0; rw [e0] at e; exact hl' e.symm
        omega
    rw [digs_step _ hpos]
    have hm : numOf (l' ++ [c]) % 10 = c.toNat - 48 := by rw [numOf_snoc]; omega
    have hq : numOf (l' ++ [c]) / 10 = numOf l' := by rw [numOf_snoc]; omega
    rw [hm, hq, byte_dig c hc]
    congr 1
    by_cases hl' : l' = []
    · subst hl'; rfl
    · have hh' : l'.head? ≠ some 48 := by
        cases l' with
        | nil => exact absurd rfl hl'
        | cons a t => simpa using hh
      exact ih l' (by simpa using hl) hd.1 hh'

theorem dec_numOf (l : List UInt8) (h : isNum l = true) : decDigits (numOf l) = l ∧ numOf l ≤ 99999 := by
  unfold isNum at h
  rw [Bool.and_eq_true, decide_eq_true_eq] at h
  obtain ⟨⟨h0, h1, h2⟩, h3⟩ := h
  constructor
  · by_cases hz : l.head? = some 48
    · have hl : l.length = 1 := by
        have : l.length ≠ 0 := fun e => h0 (List.eq_nil_of_length_eq_zero e)
        have : ¬ 1 < l.length := fun e => h2 ⟨e, hz⟩
        omega
      match l, hl with
      | [c], _ =>
        have : c = 48 := by simpa using hz
        subst this
        exact decDigits_one (by decide)
    · have e := digs_numOf _ l rfl h3 hz
      by_cases hn : numOf l = 0
      · rw [hn] at e; exact absurd e.symm h0
      · rw [digs_dec _ (by omega), e]
  · have := numOf_lt _ l rfl h3
    have : 10 ^ l.length ≤ 10 ^ 5 := Nat.pow_le_pow_right (by decide) h1
    omega

theorem digs_good : ∀ (n v : Nat), v < n → (digs v).all isDig = true ∧ (digs v).head? ≠ some 48 ∧ numOf (digs v) = v := by
  intro n
  induction n with
  | zero => intro v h; omega
  | succ n ih =>
    intro v hv
    by_cases h0 : v = 0
    · subst h0; exact ⟨rfl, by simp [digs], rfl⟩
    · obtain ⟨i1, i2, i3⟩ := ih (v / 10) (by omega)
      rw [digs_step v (by omega)]
      have hc : (UInt8.ofNat (48 + v % 10)).toNat = 48 + v % 10 := by
        rw [UInt8.toNat_ofNat']; omega
      refine ⟨?_, ?_, ?_⟩
      · rw [List.all_append, i1]
        simp [isDig]; omega
      · cases hq : digs (v / 10) with
        | nil =>
          have : v / 10 = 0 := by rw [← i3, hq]; rfl
          simp only [List.nil_append, List.head?_cons, ne_eq, Option.some.injEq]
          intro e
          have := congrArg UInt8.toNat e
          rw [hc] at this
          simp at this
          omega
        | cons a t => rw [hq] at i2; simpa using i2
      · rw [numOf_snoc, i3, hc]; omega

theorem isNum_dec (v : Nat) (h : v < 100000) : isNum (decDigits v) = true ∧ numOf (decDigits v) = v := by
  by_cases h0 : v = 0
  · subst h0
    rw [decDigits_one (by omega : (0 : Nat) < 10)]
    decide
  · rw [digs_dec v (by omega)]
    obtain ⟨g1, g2, g3⟩ := digs_good (v + 1) v (by omega)
    refine ⟨?_, g3⟩
    unfold isNum
    rw [g1, Bool.and_true, decide_eq_true_eq]
    refine ⟨?_, ?_, fun e => g2 e.2⟩
    · intro e; rw [e] at g3; exact h0 (by rw [← g3]; rfl)
    · rw [← digs_dec v (by omega), decDigits_length]
      by_cases h1 : v < 10
      · rw [nDigits_small h1]; omega
      by_cases h2 : v < 100
      · rw [nDigits_unique 1 v (by omega) (by omega)]; omega
      by_cases h3 : v < 1000
      · rw [nDigits_unique 2 v (by omega) (by omega)]; omega
      by_cases h4 : v < 10000
      · rw [nDigits_unique 3 v (by omega) (by omega)]; omega
      · rw [nDigits_unique 4 v (by omega) (by omega)]; omega

theorem decFrom_dig : ∀ (l : List UInt8) (acc : Nat), l.all isDig = true → decFrom acc l = some (l.foldl numStep acc) := by
  intro l
  induction l with
  | nil => intro acc _; rfl
  | cons c t ih =>
    intro acc h
    rw [List.all_cons, Bool.and_eq_true] at h
    have h2 : 48 ≤ c.toNat ∧ c.toNat ≤ 57 := by simpa [isDig] using h.1
    rw [decFrom, digitVal, if_pos h2]
    simp only
    rw [ih _ h.2, List.foldl_cons]
    unfold numStep
    rw [Nat.mul_comm]

/-- strconv.Atoi gives the number of what ParseNum accepts. -/
theorem atoi_num (l : List UInt8) (h : isNum l = true) : atoiAll l = NumEnd.ok (numOf l : Int) := by
  have h' := h
  unfold isNum at h
  rw [Bool.and_eq_true, decide_eq_true_eq] at h
  obtain ⟨⟨h0, h1, _⟩, h3⟩ := h
  rw [atoiAll_short l (by omega)]
  match l, h0, h3 with
  | c :: r, _, h3 =>
    have hc : 48 ≤ c.toNat ∧ c.toNat ≤ 57 := by
      rw [List.all_cons, Bool.and_eq_true] at h3
      simpa [isDig] using h3.1
    have n1 : (c == 45) = false := by
      rw [beq_eq_false_iff_ne]; intro e; subst e; simp at hc
    have n2 : (c == 43) = false := by
      rw [beq_eq_false_iff_ne]; intro e; subst e; simp at hc
    unfold atoi decNat
    simp only [n1, n2]
    simp only [Bool.false_eq_true, if_false, List.isEmpty_cons]
    rw [decFrom_dig _ _ h3]
    rfl

/-- What ParseNum answers. -/
def pnum (l : List UInt8) : Int := if isNum l = true then (numOf l : Int) else 0

theorem itoa_nat (v : Int) (h : 0 ≤ v) : itoa v = decDigits v.toNat := by unfold itoa; rw [if_neg (by omega)]
theorem num_of_ok {l : List UInt8} {v : Int} (h0 : 0 ≤ v) (h1 : v ≤ 99999) (h2 : itoa v = l) : isNum l = true ∧ pnum l = v := by
  rw [itoa_nat v h0] at h2
  obtain ⟨a, b⟩ := isNum_dec v.toNat (by omega)
  rw [h2] at a b
  refine ⟨a, ?_⟩
  unfold pnum
  rw [if_pos a, b]
  omega
theorem not_num {l : List UInt8} {v : Int} (ha : atoiAll l = NumEnd.ok v) (h : v < 0 ∨ 99999 < v ∨ itoa v ≠ l) : isNum l = false := by
  cases hn : isNum l with
  | false => rfl
  | true =>
    rw [atoi_num l hn] at ha
    injection ha with ha
    obtain ⟨d1, d2⟩ := dec_numOf l hn
    rcases h with h | h | h
    · omega
    · omega
    · exact absurd (by rw [← ha, itoa_nat _ (by omega), Int.toNat_natCast]; exact d1) h
theorem not_num_end {l : List UInt8} (ha : ∀ v, atoiAll l ≠ NumEnd.ok v) : isNum l = false := by
  cases hn : isNum l with
  | false => rfl
  | true => exact absurd (atoi_num l hn) (ha _)
theorem numOf_dec (v : Nat) : numOf (decDigits v) = v := by
  by_cases h0 : v = 0
  · subst h0; rw [decDigits_one (by omega)]; decide
  · rw [digs_dec v (by omega)]; exact (digs_good (v + 1) v (by omega)).2.2
theorem itoa_in (n : Int) (h0 : 0 ≤ n) (h1 : n ≤ 99999) : isNum (itoa n) = true ∧ pnum (itoa n) = n := num_of_ok h0 h1 rfl
theorem itoa_out (n : Int) (h : ¬ (0 ≤ n ∧ n ≤ 99999)) : isNum (itoa n) = false := by
  cases hn : isNum (itoa n) with
  | false => rfl
  | true =>
    exfalso
    by_cases h0 : 0 ≤ n
    · obtain ⟨_, d2⟩ := dec_numOf _ hn
      rw [itoa_nat n h0, numOf_dec] at d2
      omega
    · unfold isNum itoa at hn
      rw [if_pos (by omega), Bool.and_eq_true] at hn
      have := hn.2
      rw [List.all_cons, Bool.and_eq_true] at this
      exact absurd this.1 (by decide)
theorem pnum_back (l : List UInt8) (h : isNum l = true) : itoa (pnum l) = l ∧ 0 ≤ pnum l ∧ pnum l ≤ 99999 := by
  obtain ⟨d1, d2⟩ := dec_numOf l h
  have e : pnum l = (numOf l : Int) := by unfold pnum; rw [if_pos h]
  rw [e]
  exact ⟨by rw [itoa_nat _ (by omega), Int.toNat_natCast]; exact d1, by omega, by omega⟩
theorem pnum_not {l : List UInt8} (h : isNum l = false) : pnum l = 0 := by unfold pnum; rw [h]; simp
end Go.Proofs.YtgjbngfcllanmaaDoor
