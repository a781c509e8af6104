/- Plain mathematics of the Hilbert curve: a level at a time; each position has its point and each point its position; neighbours on the curve are neighbours in the plane. -/
import Derived.Below
namespace Go.Proofs.Ytnebhbnogmhbgaa

def pw : Nat → Int
  | 0 => 1
  | k + 1 => 2 * pw k
def sq : Nat → Int
  | 0 => 1
  | k + 1 => 4 * sq k
theorem pw_pos : ∀ k, 1 ≤ pw k
  | 0 => by decide
  | k + 1 => by have := pw_pos k; show 1 ≤ 2 * pw k; omega
theorem sq_pos : ∀ k, 1 ≤ sq k
  | 0 => by decide
  | k + 1 => by have := sq_pos k; show 1 ≤ 4 * sq k; omega
theorem sq_pw : ∀ k, sq k = pw k * pw k
  | 0 => rfl
  | k + 1 => by
    show 4 * sq k = 2 * pw k * (2 * pw k)
    rw [sq_pw k, Int.mul_assoc 2, Int.mul_left_comm (pw k) 2 (pw k), ← Int.mul_assoc 2 2]; rfl

/-- The quadrant of a point's bits, in the order of the curve. -/
def quad (rx ry : Int) : Int := if ry = 0 then (if rx = 1 then 3 else 0) else (if rx = 1 then 2 else 1)
/-- The turn behind a level. -/
def turnX (rx ry x y : Int) : Int := if ry = 0 then (if rx = 1 then 255 - y else y) else x
def turnY (rx ry x y : Int) : Int := if ry = 0 then (if rx = 1 then 255 - x else x) else y
/-- The position of a point, out of its k lowest bits. -/
def pos : Nat → Int → Int → Int
  | 0, _, _ => 0
  | k + 1, x, y => sq k * quad (x / pw k % 2) (y / pw k % 2) + pos k (turnX (x / pw k % 2) (y / pw k % 2) x y) (turnY (x / pw k % 2) (y / pw k % 2) x y)

theorem bit_mod (x s : Int) (hs : 1 ≤ s) : x / s % 2 = x % (2 * s) / s := by
  have e := Int.mul_ediv_add_emod x (2 * s)
  have h0 := Int.emod_nonneg x (b := 2 * s) (by omega)
  have h1 := Int.emod_lt_of_pos x (b := 2 * s) (by omega)
  generalize x % (2 * s) = r at *
  generalize x / (2 * s) = m at *
  have hx : x = r + s * (2 * m) := by rw [← e, Int.mul_comm 2 s, Int.mul_assoc]; omega
  rw [hx, Int.add_mul_ediv_left _ _ (by omega : s ≠ 0)]
  have : r / s = 0 ∨ r / s = 1 := by
    rcases Int.lt_or_le r s with h | h
    · exact .inl (Int.ediv_eq_zero_of_lt h0 h)
    · right
      have := Int.add_mul_ediv_left (r - s) 1 (by omega : s ≠ 0)
      rw [Int.mul_one, show r - s + s = r by omega, Int.ediv_eq_zero_of_lt (a := r - s) (b := s) (by omega) (by omega)] at this
      exact this
  omega
theorem mod_low (x s : Int) : x % (2 * s) % s = x % s := Int.emod_emod_of_dvd x ⟨2, by rw [Int.mul_comm]⟩
theorem mod_flip (x y s : Int) (h : x % s = y % s) : (255 - x) % s = (255 - y) % s := by rw [Int.sub_emod, h, ← Int.sub_emod]

theorem pos_mod : ∀ (k : Nat) (x y x' y' : Int), x % pw k = x' % pw k → y % pw k = y' % pw k → pos k x y = pos k x' y'
  | 0, _, _, _, _, _, _ => rfl
  | k + 1, x, y, x', y', hx, hy => by
    have hs := pw_pos k
    have hx' : x % (2 * pw k) = x' % (2 * pw k) := hx
    have hy' : y % (2 * pw k) = y' % (2 * pw k) := hy
    have lx : x % pw k = x' % pw k := by rw [← mod_low x, ← mod_low x', hx']
    have ly : y % pw k = y' % pw k := by rw [← mod_low y, ← mod_low y', hy']
    have bx : x / pw k % 2 = x' / pw k % 2 := by rw [bit_mod x _ hs, bit_mod x' _ hs, hx']
    have b_y : y / pw k % 2 = y' / pw k % 2 := by rw [bit_mod y _ hs, bit_mod y' _ hs, hy']
    show sq k * _ + pos k _ _ = sq k * _ + pos k _ _
    rw [bx, b_y]
    congr 1
    apply pos_mod k
    · unfold turnX; split
      · split
        · exact mod_flip _ _ _ ly
        · exact ly
      · exact lx
    · unfold turnY; split
      · split
        · exact mod_flip _ _ _ lx
        · exact lx
      · exact ly

/-- The point of a position below 4 to the k: the point of its lower digits, turned into its quadrant. -/
def combX (q s x y : Int) : Int := if q = 0 then y else if q = 1 then x else if q = 2 then x + s else 2 * s - 1 - y
def combY (q s x y : Int) : Int := if q = 0 then x else if q = 1 then y + s else if q = 2 then y + s else s - 1 - x
def pnt : Nat → Int → Int × Int
  | 0, _ => (0, 0)
  | k + 1, d => (combX (d / sq k % 4) (pw k) (pnt k d).1 (pnt k d).2, combY (d / sq k % 4) (pw k) (pnt k d).1 (pnt k d).2)

theorem pnt_in : ∀ (k : Nat) (d : Int), 0 ≤ (pnt k d).1 ∧ (pnt k d).1 < pw k ∧ 0 ≤ (pnt k d).2 ∧ (pnt k d).2 < pw k
  | 0, _ => ⟨Int.le_refl _, Int.zero_lt_one, Int.le_refl _, Int.zero_lt_one⟩
  | k + 1, d => by
    have ih := pnt_in k d
    have hs := pw_pos k
    have hq := Int.emod_nonneg (d / sq k) (b := 4) (by omega)
    have hq' := Int.emod_lt_of_pos (d / sq k) (b := 4) (by omega)
    show 0 ≤ combX _ _ _ _ ∧ combX _ _ _ _ < 2 * pw k ∧ 0 ≤ combY _ _ _ _ ∧ combY _ _ _ _ < 2 * pw k
    generalize d / sq k % 4 = q at *
    generalize (pnt k d).1 = x at *
    generalize (pnt k d).2 = y at *
    unfold combX combY
    rcases (by omega : q = 0 ∨ q = 1 ∨ q = 2 ∨ q = 3) with rfl | rfl | rfl | rfl <;> simp <;> omega

theorem quad_lt (x y s : Int) : 0 ≤ quad (x / s % 2) (y / s % 2) ∧ quad (x / s % 2) (y / s % 2) ≤ 3 := by unfold quad; split <;> split <;> omega

theorem pw_256 : ∀ k, k ≤ 8 → ∃ m, 256 = pw k * m
  | 0, _ => ⟨256, rfl⟩
  | 1, _ => ⟨128, rfl⟩
  | 2, _ => ⟨64, rfl⟩
  | 3, _ => ⟨32, rfl⟩
  | 4, _ => ⟨16, rfl⟩
  | 5, _ => ⟨8, rfl⟩
  | 6, _ => ⟨4, rfl⟩
  | 7, _ => ⟨2, rfl⟩
  | 8, _ => ⟨1, rfl⟩
theorem mod_of (x y s m : Int) (h : x = y + s * m) : x % s = y % s := by rw [h, Int.add_mul_emod_self_left]

theorem bit_lo (x s : Int) (h0 : 0 ≤ x) (h1 : x < s) : x / s % 2 = 0 := by rw [Int.ediv_eq_zero_of_lt h0 h1]; rfl
theorem bit_hi (x s : Int) (h0 : s ≤ x) (h1 : x < 2 * s) : x / s % 2 = 1 := by
  have := Int.add_mul_ediv_left (x - s) 1 (by omega : s ≠ 0)
  rw [Int.mul_one, show x - s + s = x by omega, Int.ediv_eq_zero_of_lt (a := x - s) (b := s) (by omega) (by omega)] at this
  rw [this]; rfl

/-- A level up: the position of a point that was turned into quadrant q. -/
theorem pos_comb (k : Nat) (hk : k < 8) (q x y : Int) (hq : 0 ≤ q ∧ q ≤ 3) (hx : 0 ≤ x ∧ x < pw k) (hy : 0 ≤ y ∧ y < pw k) :
    pos (k + 1) (combX q (pw k) x y) (combY q (pw k) x y) = sq k * q + pos k x y := by
  have hs := pw_pos k
  obtain ⟨m, hm⟩ := pw_256 k (by omega)
  rcases (by omega : q = 0 ∨ q = 1 ∨ q = 2 ∨ q = 3) with rfl | rfl | rfl | rfl
  · have e1 : combX 0 (pw k) x y = y := rfl
    have e2 : combY 0 (pw k) x y = x := rfl
    rw [e1, e2]
    show sq k * quad (y / pw k % 2) (x / pw k % 2) + pos k (turnX (y / pw k % 2) (x / pw k % 2) y x) (turnY (y / pw k % 2) (x / pw k % 2) y x) = _
    rw [bit_lo y _ hy.1 hy.2, bit_lo x _ hx.1 hx.2]
    rfl
  · have e1 : combX 1 (pw k) x y = x := rfl
    have e2 : combY 1 (pw k) x y = y + pw k := rfl
    rw [e1, e2]
    show sq k * quad (x / pw k % 2) ((y + pw k) / pw k % 2) + pos k (turnX (x / pw k % 2) ((y + pw k) / pw k % 2) x (y + pw k)) (turnY (x / pw k % 2) ((y + pw k) / pw k % 2) x (y + pw k)) = _
    rw [bit_lo x _ hx.1 hx.2, bit_hi (y + pw k) _ (by omega) (by omega)]
    show sq k * 1 + pos k x (y + pw k) = _
    rw [pos_mod k x (y + pw k) x y rfl (mod_of _ _ _ 1 (by rw [Int.mul_one]))]
  · have e1 : combX 2 (pw k) x y = x + pw k := rfl
    have e2 : combY 2 (pw k) x y = y + pw k := rfl
    rw [e1, e2]
    show sq k * quad ((x + pw k) / pw k % 2) ((y + pw k) / pw k % 2) + pos k (turnX ((x + pw k) / pw k % 2) ((y + pw k) / pw k % 2) (x + pw k) (y + pw k)) (turnY ((x + pw k) / pw k % 2) ((y + pw k) / pw k % 2) (x + pw k) (y + pw k)) = _
    rw [bit_hi (x + pw k) _ (by omega) (by omega), bit_hi (y + pw k) _ (by omega) (by omega)]
    show sq k * 2 + pos k (x + pw k) (y + pw k) = _
    rw [pos_mod k (x + pw k) (y + pw k) x y (mod_of _ _ _ 1 (by rw [Int.mul_one])) (mod_of _ _ _ 1 (by rw [Int.mul_one]))]
  · have e1 : combX 3 (pw k) x y = 2 * pw k - 1 - y := rfl
    have e2 : combY 3 (pw k) x y = pw k - 1 - x := rfl
    rw [e1, e2]
    show sq k * quad ((2 * pw k - 1 - y) / pw k % 2) ((pw k - 1 - x) / pw k % 2) + pos k (turnX ((2 * pw k - 1 - y) / pw k % 2) ((pw k - 1 - x) / pw k % 2) (2 * pw k - 1 - y) (pw k - 1 - x)) (turnY ((2 * pw k - 1 - y) / pw k % 2) ((pw k - 1 - x) / pw k % 2) (2 * pw k - 1 - y) (pw k - 1 - x)) = _
    rw [bit_hi (2 * pw k - 1 - y) _ (by omega) (by omega), bit_lo (pw k - 1 - x) _ (by omega) (by omega)]
    show sq k * 3 + pos k (255 - (pw k - 1 - x)) (255 - (2 * pw k - 1 - y)) = _
    rw [pos_mod k (255 - (pw k - 1 - x)) (255 - (2 * pw k - 1 - y)) x y (mod_of _ _ _ (m - 1) (by rw [Int.mul_sub, ← hm, Int.mul_one]; omega)) (mod_of _ _ _ (m - 2) (by rw [Int.mul_sub, ← hm]; omega))]

theorem div_sq (k : Nat) (d : Int) (h0 : 0 ≤ d) (h1 : d < sq (k + 1)) : 0 ≤ d / sq k ∧ d / sq k ≤ 3 := by
  have hs := sq_pos k
  have h1' : d < 4 * sq k := h1
  refine ⟨Int.ediv_nonneg h0 (by omega), ?_⟩
  have := Int.ediv_lt_of_lt_mul (by omega : (0 : Int) < sq k) h1'
  omega
theorem pnt_mod : ∀ (k : Nat) (d e m : Int), e = d + sq k * m → pnt k e = pnt k d
  | 0, _, _, _, _ => rfl
  | k + 1, d, e, m, h => by
    have hs := sq_pos k
    have h' : e = d + sq k * (4 * m) := by rw [h]; show d + 4 * sq k * m = _; rw [Int.mul_comm 4 (sq k), Int.mul_assoc]
    have hd : e / sq k % 4 = d / sq k % 4 := by
      rw [h', Int.add_mul_ediv_left _ _ (by omega : sq k ≠ 0), Int.add_mul_emod_self_left]
    show (combX _ _ _ _, combY _ _ _ _) = (combX _ _ _ _, combY _ _ _ _)
    rw [hd, pnt_mod k d e (4 * m) h']

/-- Each position is its point's position. -/
theorem pos_pnt : ∀ (k : Nat), k ≤ 8 → ∀ d, 0 ≤ d → d < sq k → pos k (pnt k d).1 (pnt k d).2 = d
  | 0, _, d, h0, h1 => by have : d < 1 := h1; show (0 : Int) = d; omega
  | k + 1, hk, d, h0, h1 => by
    have hs := sq_pos k
    obtain ⟨q0, q1⟩ := div_sq k d h0 h1
    obtain ⟨a, b, c, e⟩ := pnt_in k d
    show pos (k + 1) (combX (d / sq k % 4) (pw k) _ _) (combY (d / sq k % 4) (pw k) _ _) = d
    rw [Int.emod_eq_of_lt q0 (by omega), pos_comb k (by omega) _ _ _ ⟨q0, q1⟩ ⟨a, b⟩ ⟨c, e⟩]
    have hm := Int.mul_ediv_add_emod d (sq k)
    have r0 := Int.emod_nonneg d (b := sq k) (by omega)
    have r1 := Int.emod_lt_of_pos d (b := sq k) (by omega)
    have ih := pos_pnt k (by omega) (d % sq k) r0 r1
    rw [← pnt_mod k (d % sq k) d (d / sq k) (by omega)] at ih
    rw [ih]; exact hm

theorem pos_in : ∀ (k : Nat) (x y : Int), 0 ≤ pos k x y ∧ pos k x y < sq k
  | 0, _, _ => ⟨Int.le_refl _, Int.zero_lt_one⟩
  | k + 1, x, y => by
    have ih := pos_in k (turnX (x / pw k % 2) (y / pw k % 2) x y) (turnY (x / pw k % 2) (y / pw k % 2) x y)
    have hq := quad_lt x y (pw k)
    have hs := sq_pos k
    show 0 ≤ sq k * quad (x / pw k % 2) (y / pw k % 2) + _ ∧ sq k * quad (x / pw k % 2) (y / pw k % 2) + _ < 4 * sq k
    generalize quad (x / pw k % 2) (y / pw k % 2) = q at *
    rcases (by omega : q = 0 ∨ q = 1 ∨ q = 2 ∨ q = 3) with rfl | rfl | rfl | rfl <;> omega

theorem bit_cases (x s : Int) (h0 : 0 ≤ x) (h1 : x < 2 * s) : (x / s % 2 = 0 ∧ x < s) ∨ (x / s % 2 = 1 ∧ s ≤ x) := by
  rcases Int.lt_or_le x s with h | h
  · exact .inl ⟨bit_lo x s h0 h, h⟩
  · exact .inr ⟨bit_hi x s h h1, h⟩

/-- Each point is its position's point. -/
theorem pnt_pos : ∀ (k : Nat), k ≤ 8 → ∀ x y, 0 ≤ x → x < pw k → 0 ≤ y → y < pw k → pnt k (pos k x y) = (x, y)
  | 0, _, x, y, x0, x1, y0, y1 => by
    have a : x < 1 := x1
    have b : y < 1 := y1
    show ((0 : Int), (0 : Int)) = (x, y)
    rw [show x = 0 by omega, show y = 0 by omega]
  | k + 1, hk, x, y, x0, x1, y0, y1 => by
    have hs := pw_pos k
    have hz := sq_pos k
    have x1' : x < 2 * pw k := x1
    have y1' : y < 2 * pw k := y1
    obtain ⟨m, hm⟩ := pw_256 k (by omega)
    obtain ⟨p0, p1⟩ := pos_in k (turnX (x / pw k % 2) (y / pw k % 2) x y) (turnY (x / pw k % 2) (y / pw k % 2) x y)
    obtain ⟨q0, q1⟩ := quad_lt x y (pw k)
    have hd : pos (k + 1) x y = pos k (turnX (x / pw k % 2) (y / pw k % 2) x y) (turnY (x / pw k % 2) (y / pw k % 2) x y) + sq k * quad (x / pw k % 2) (y / pw k % 2) := by
      show sq k * _ + _ = _
      rw [Int.add_comm]
    have hq : pos (k + 1) x y / sq k % 4 = quad (x / pw k % 2) (y / pw k % 2) := by
      rw [hd, Int.add_mul_ediv_left _ _ (by omega : sq k ≠ 0), Int.ediv_eq_zero_of_lt p0 p1, Int.zero_add, Int.emod_eq_of_lt q0 (by omega)]
    have hp : ∀ u v, 0 ≤ u → u < pw k → 0 ≤ v → v < pw k → turnX (x / pw k % 2) (y / pw k % 2) x y % pw k = u % pw k → turnY (x / pw k % 2) (y / pw k % 2) x y % pw k = v % pw k → pnt k (pos (k + 1) x y) = (u, v) := by
      intro u v u0 u1 v0 v1 hu hv
      rw [pnt_mod k _ _ _ hd, pos_mod k _ _ u v hu hv]
      exact pnt_pos k (by omega) u v u0 u1 v0 v1
    show (combX (pos (k + 1) x y / sq k % 4) (pw k) (pnt k (pos (k + 1) x y)).1 (pnt k (pos (k + 1) x y)).2, combY (pos (k + 1) x y / sq k % 4) (pw k) (pnt k (pos (k + 1) x y)).1 (pnt k (pos (k + 1) x y)).2) = (x, y)
    rw [hq]
    rcases bit_cases x (pw k) x0 x1' with ⟨bx, lx⟩ | ⟨bx, lx⟩ <;> rcases bit_cases y (pw k) y0 y1' with ⟨b_y, ly⟩ | ⟨b_y, ly⟩
    · rw [bx, b_y] at hp ⊢
      rw [hp y x y0 ly x0 lx rfl rfl]; rfl
    · rw [bx, b_y] at hp ⊢
      rw [hp x (y - pw k) x0 lx (by omega) (by omega) rfl (mod_of _ _ _ 1 (by rw [Int.mul_one]; show y = _; omega))]
      show (x, y - pw k + pw k) = (x, y)
      rw [show y - pw k + pw k = y by omega]
    · rw [bx, b_y] at hp ⊢
      rw [hp (pw k - 1 - y) (2 * pw k - 1 - x) (by omega) (by omega) (by omega) (by omega) (mod_of _ _ _ (m - 1) (by show 255 - y = _; rw [Int.mul_sub, ← hm, Int.mul_one]; omega)) (mod_of _ _ _ (m - 2) (by show 255 - x = _; rw [Int.mul_sub, ← hm]; omega))]
      show (2 * pw k - 1 - (2 * pw k - 1 - x), pw k - 1 - (pw k - 1 - y)) = (x, y)
      rw [show 2 * pw k - 1 - (2 * pw k - 1 - x) = x by omega, show pw k - 1 - (pw k - 1 - y) = y by omega]
    · rw [bx, b_y] at hp ⊢
      rw [hp (x - pw k) (y - pw k) (by omega) (by omega) (by omega) (by omega) (mod_of _ _ _ 1 (by rw [Int.mul_one]; show x = _; omega)) (mod_of _ _ _ 1 (by rw [Int.mul_one]; show y = _; omega))]
      show (x - pw k + pw k, y - pw k + pw k) = (x, y)
      rw [show x - pw k + pw k = x by omega, show y - pw k + pw k = y by omega]

theorem pnt_zero : ∀ k, pnt k 0 = (0, 0)
  | 0 => rfl
  | k + 1 => by
    show (combX (0 / sq k % 4) _ _ _, combY (0 / sq k % 4) _ _ _) = _
    rw [Int.zero_ediv, pnt_zero k]; rfl
theorem pnt_last : ∀ k, pnt k (sq k - 1) = (pw k - 1, 0)
  | 0 => rfl
  | k + 1 => by
    have hs := sq_pos k
    have hd : sq (k + 1) - 1 = (sq k - 1) + sq k * 3 := by show 4 * sq k - 1 = _; omega
    have hq : (sq (k + 1) - 1) / sq k % 4 = 3 := by
      rw [hd, Int.add_mul_ediv_left _ _ (by omega : sq k ≠ 0), Int.ediv_eq_zero_of_lt (by omega) (by omega)]; rfl
    show (combX ((sq (k + 1) - 1) / sq k % 4) _ _ _, combY ((sq (k + 1) - 1) / sq k % 4) _ _ _) = _
    rw [hq, pnt_mod k _ _ _ hd, pnt_last k]
    show (2 * pw k - 1 - 0, pw k - 1 - (pw k - 1)) = (2 * pw k - 1, 0)
    rw [show 2 * pw k - 1 - 0 = 2 * pw k - 1 by omega, show pw k - 1 - (pw k - 1) = 0 by omega]

def gapI (a b : Int) : Int := if a < b then b - a else a - b
def Near (p q : Int × Int) : Prop := gapI p.1 q.1 + gapI p.2 q.2 = 1
theorem comb_near (q s : Int) (hq : 0 ≤ q ∧ q ≤ 3) (a b c d : Int) (h : Near (a, b) (c, d)) : Near (combX q s a b, combY q s a b) (combX q s c d, combY q s c d) := by
  unfold Near gapI combX combY at *
  simp only at *
  rcases (by omega : q = 0 ∨ q = 1 ∨ q = 2 ∨ q = 3) with rfl | rfl | rfl | rfl <;> simp <;> omega

/-- Neighbours on the curve are neighbours in the plane. -/
theorem pnt_near : ∀ (k : Nat) (d : Int), 0 ≤ d → d + 1 < sq k → Near (pnt k d) (pnt k (d + 1))
  | 0, d, h0, h1 => by have : d + 1 < 1 := h1; omega
  | k + 1, d, h0, h1 => by
    have hs := sq_pos k
    have hw := pw_pos k
    obtain ⟨q0, q1⟩ := div_sq k d h0 (by omega)
    have hm := Int.mul_ediv_add_emod d (sq k)
    have r0 := Int.emod_nonneg d (b := sq k) (by omega)
    have r1 := Int.emod_lt_of_pos d (b := sq k) (by omega)
    have e0 : pnt k d = pnt k (d % sq k) := pnt_mod k _ _ (d / sq k) (by omega)
    have hq : d / sq k % 4 = d / sq k := Int.emod_eq_of_lt q0 (by omega)
    show Near (combX (d / sq k % 4) _ _ _, combY (d / sq k % 4) _ _ _) (combX ((d + 1) / sq k % 4) _ _ _, combY ((d + 1) / sq k % 4) _ _ _)
    rw [hq, e0]
    generalize hQ : d / sq k = q at *
    generalize hR : d % sq k = r at *
    have hd1 : d + 1 = (r + 1) + sq k * q := by omega
    by_cases hlt : r + 1 < sq k
    · have hq' : (d + 1) / sq k % 4 = q := by
        rw [hd1, Int.add_mul_ediv_left _ _ (by omega : sq k ≠ 0), Int.ediv_eq_zero_of_lt (by omega) hlt, Int.zero_add, Int.emod_eq_of_lt q0 (by omega)]
      rw [hq', pnt_mod k (r + 1) (d + 1) q hd1]
      exact comb_near q _ ⟨q0, q1⟩ _ _ _ _ (pnt_near k r r0 hlt)
    · have hr : r = sq k - 1 := by omega
      have hd2 : d + 1 = 0 + sq k * (q + 1) := by rw [Int.mul_add, Int.mul_one]; omega
      have hq3 : q + 1 ≤ 3 := by
        have h1' : d + 1 < 4 * sq k := h1
        rcases (by omega : q ≤ 2 ∨ q = 3) with h | rfl
        · omega
        · omega
      have hq' : (d + 1) / sq k % 4 = q + 1 := by
        rw [hd2, Int.add_mul_ediv_left _ _ (by omega : sq k ≠ 0), Int.zero_ediv, Int.zero_add, Int.emod_eq_of_lt (by omega) (by omega)]
      rw [hq', pnt_mod k 0 (d + 1) (q + 1) hd2, hr, pnt_last, pnt_zero]
      unfold Near gapI combX combY
      rcases (by omega : q = 0 ∨ q = 1 ∨ q = 2) with rfl | rfl | rfl <;> simp <;> omega
end Go.Proofs.Ytnebhbnogmhbgaa
