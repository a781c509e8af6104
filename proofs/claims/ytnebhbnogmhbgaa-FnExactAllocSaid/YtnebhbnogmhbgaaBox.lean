/- Rectangles: contracts of the program's and the model's functions over one rectangle or two. -/
import Derived.Test.YtnebhbnogmhbgaaIn
import Derived.Test.YtnebhbnogmhbgaaMinMax
import Derived.Deep.RegionHeld3
namespace Go.Proofs.Ytnebhbnogmhbgaa
open Go.RowKit

theorem ret_bool {a b : Bool} (h : a = b) : Ending.returned (.bool a) = .returned (.bool b) := by rw [h]
theorem ret_i64 {a b : Int} (h : a = b) : Ending.returned (.int .i64 a) = .returned (.int .i64 b) := by rw [h]

/-- A range of coordinates. -/
def rngB (a b : Int) : Bool := decide (0 ≤ a ∧ a ≤ b ∧ b ≤ 255)
def inB (x a b : Int) : Bool := decide (a ≤ x ∧ x ≤ b)
/-- A valid rectangle. -/
def okB (x0 y0 x1 y1 : Int) : Bool := rngB x0 x1 && rngB y0 y1

set_option maxRecDepth 100000 in
set_option maxHeartbeats 400000 in
theorem rangeOk_any (a b : Int) (w : World) : Calls Try.prog 130 #[.int .i64 a, .int .i64 b] w fun e w' => e = .returned (.bool (rngB a b)) ∧ w = w' := by
  by_cases h0 : 0 ≤ a
  · by_cases h1 : a ≤ b
    · by_cases h2 : b ≤ 255
      · have hr : Hid (rngB a b = true) := decide_eq_true ⟨h0, h1, h2⟩
        go_enter Try.func130, Try.ntmps130
        go_wp2
        go_ret
        exact ⟨ret_bool hr.out.symm, rfl⟩
      · have hr : Hid (rngB a b = false) := decide_eq_false (fun h => h2 h.2.2)
        have hd : decide (b ≤ 255) = false := decide_eq_false h2
        go_enter Try.func130, Try.ntmps130
        go_wp2
        go_ret
        exact ⟨ret_bool hr.out.symm, rfl⟩
    · have hr : Hid (rngB a b = false) := decide_eq_false (fun h => h1 h.2.1)
      have hd : decide (a ≤ b) = false := decide_eq_false h1
      go_enter Try.func130, Try.ntmps130
      go_wp2
      go_ret
      exact ⟨ret_bool hr.out.symm, rfl⟩
  · have hr : Hid (rngB a b = false) := decide_eq_false (fun h => h0 h.1)
    have hd : decide (0 ≤ a) = false := decide_eq_false h0
    go_enter Try.func130, Try.ntmps130
    go_wp2
    go_ret
    exact ⟨ret_bool hr.out.symm, rfl⟩

theorem l1In_any (x a b : Int) (w : World) : Calls Try.prog 67 #[.int .i64 x, .int .i64 a, .int .i64 b] w fun e w' => e = .returned (.bool (inB x a b)) ∧ w = w' := by
  by_cases h : a ≤ x ∧ x ≤ b
  · refine (l1In_yes x a b w h.1 h.2).mono fun e w' ⟨he, hw⟩ => ⟨?_, hw⟩
    rw [he]; unfold inB; rw [decide_eq_true h]
  · refine (l1In_no x a b w h).mono fun e w' ⟨he, hw⟩ => ⟨?_, hw⟩
    rw [he]; unfold inB; rw [decide_eq_false h]

set_option maxRecDepth 100000 in
set_option maxHeartbeats 400000 in
theorem iBoxOk_any (x0 y0 x1 y1 : Int) (w : World) : Calls Try.prog 122 #[.agg #[.int .i64 x0, .int .i64 y0, .int .i64 x1, .int .i64 y1]] w fun e w' =>
    e = .returned (.bool (okB x0 y0 x1 y1)) ∧ Below w.heap.size w w' := by
  cases h : rngB x0 x1 with
  | true =>
    have hr : Hid (okB x0 y0 x1 y1 = rngB y0 y1) := by show okB x0 y0 x1 y1 = _; unfold okB; rw [h]; rfl
    go_enter Try.func122, Try.ntmps122
    go_wp2_with fail
    refine (rangeOk_any x0 x1 _).mono ?_
    rintro e w1 ⟨rfl, rfl⟩
    go_wp2_with fail
    refine (rangeOk_any y0 y1 _).mono ?_
    rintro e w1 ⟨rfl, rfl⟩
    go_wp2
    go_ret
    exact ⟨ret_bool hr.out.symm, (Below.refl _ _).alloc (Nat.le_refl _) _⟩
  | false =>
    have hr : Hid (okB x0 y0 x1 y1 = false) := by show okB x0 y0 x1 y1 = _; unfold okB; rw [h]; rfl
    go_enter Try.func122, Try.ntmps122
    go_wp2_with fail
    refine (rangeOk_any x0 x1 _).mono ?_
    rintro e w1 ⟨rfl, rfl⟩
    go_wp2
    go_ret
    exact ⟨ret_bool hr.out.symm, (Below.refl _ _).alloc (Nat.le_refl _) _⟩


theorem okB_iff (x0 y0 x1 y1 : Int) : okB x0 y0 x1 y1 = true ↔ (0 ≤ x0 ∧ x0 ≤ x1 ∧ x1 ≤ 255) ∧ (0 ≤ y0 ∧ y0 ≤ y1 ∧ y1 ≤ 255) := by
  unfold okB rngB; simp
theorem okB_in (x0 y0 x1 y1 : Int) : okB x0 y0 x1 y1 = (((inB x0 0 255 && inB y0 0 255) && inB x1 x0 255) && inB y1 y0 255) := by
  rw [Bool.eq_iff_iff, okB_iff]; unfold inB; simp; omega

set_option maxRecDepth 100000 in
set_option maxHeartbeats 400000 in
theorem sBoxOk_any (x0 y0 x1 y1 : Int) (w : World) : Calls Try.prog 97 #[.agg #[.int .i64 x0, .int .i64 y0, .int .i64 x1, .int .i64 y1]] w fun e w' =>
    e = .returned (.bool (okB x0 y0 x1 y1)) ∧ Below w.heap.size w w' := by
  have hr : Hid (okB x0 y0 x1 y1 = _) := okB_in x0 y0 x1 y1
  cases h1 : inB x0 0 255 with
  | false =>
    go_enter Try.func97, Try.ntmps97
    go_wp2_with fail
    refine (l1In_any _ _ _ _).mono ?_
    rintro e w1 ⟨rfl, rfl⟩
    go_wp2
    go_ret
    exact ⟨ret_bool (by rw [hr.out, h1]; rfl), (Below.refl _ _).alloc (Nat.le_refl _) _⟩
  | true =>
  cases h2 : inB y0 0 255 with
  | false =>
    go_enter Try.func97, Try.ntmps97
    go_wp2_with fail
    refine (l1In_any _ _ _ _).mono ?_
    rintro e w1 ⟨rfl, rfl⟩
    go_wp2_with fail
    refine (l1In_any _ _ _ _).mono ?_
    rintro e w1 ⟨rfl, rfl⟩
    go_wp2
    go_ret
    exact ⟨ret_bool (by rw [hr.out, h1, h2]; rfl), (Below.refl _ _).alloc (Nat.le_refl _) _⟩
  | true =>
  cases h3 : inB x1 x0 255 with
  | false =>
    go_enter Try.func97, Try.ntmps97
    go_wp2_with fail
    refine (l1In_any _ _ _ _).mono ?_
    rintro e w1 ⟨rfl, rfl⟩
    go_wp2_with fail
    refine (l1In_any _ _ _ _).mono ?_
    rintro e w1 ⟨rfl, rfl⟩
    go_wp2_with fail
    refine (l1In_any _ _ _ _).mono ?_
    rintro e w1 ⟨rfl, rfl⟩
    go_wp2
    go_ret
    exact ⟨ret_bool (by rw [hr.out, h1, h2, h3]; rfl), (Below.refl _ _).alloc (Nat.le_refl _) _⟩
  | true =>
    go_enter Try.func97, Try.ntmps97
    go_wp2_with fail
    refine (l1In_any _ _ _ _).mono ?_
    rintro e w1 ⟨rfl, rfl⟩
    go_wp2_with fail
    refine (l1In_any _ _ _ _).mono ?_
    rintro e w1 ⟨rfl, rfl⟩
    go_wp2_with fail
    refine (l1In_any _ _ _ _).mono ?_
    rintro e w1 ⟨rfl, rfl⟩
    go_wp2_with fail
    refine (l1In_any _ _ _ _).mono ?_
    rintro e w1 ⟨rfl, rfl⟩
    go_wp2
    go_ret
    exact ⟨ret_bool (by rw [hr.out, h1, h2, h3]; rfl), (Below.refl _ _).alloc (Nat.le_refl _) _⟩

/-- The number of points; 0 of what is no rectangle. -/
def areaB (x0 y0 x1 y1 : Int) : Int := if okB x0 y0 x1 y1 = true then (x1 - x0 + 1) * (y1 - y0 + 1) else 0
theorem areaB_no {x0 y0 x1 y1 : Int} (h : okB x0 y0 x1 y1 = false) : areaB x0 y0 x1 y1 = 0 := by unfold areaB; rw [h]; rfl
theorem areaB_yes {x0 y0 x1 y1 : Int} (h : okB x0 y0 x1 y1 = true) : areaB x0 y0 x1 y1 = (x1 - x0 + 1) * (y1 - y0 + 1) := by unfold areaB; rw [h]; rfl
theorem areaB_bd (x0 y0 x1 y1 : Int) : 0 ≤ areaB x0 y0 x1 y1 ∧ areaB x0 y0 x1 y1 ≤ 65536 := by
  cases h : okB x0 y0 x1 y1 with
  | false => rw [areaB_no h]; omega
  | true =>
    rw [areaB_yes h]
    obtain ⟨⟨a, b, c⟩, d, e, f⟩ := (okB_iff _ _ _ _).1 h
    refine ⟨Int.mul_nonneg (by omega) (by omega), ?_⟩
    exact Int.le_trans (Int.mul_le_mul (by omega : x1 - x0 + 1 ≤ 256) (by omega : y1 - y0 + 1 ≤ 256) (by omega) (by omega)) (by omega)

set_option maxRecDepth 100000 in
set_option maxHeartbeats 400000 in
theorem sArea_any (x0 y0 x1 y1 : Int) (w : World) : Calls Try.prog 134 #[.agg #[.int .i64 x0, .int .i64 y0, .int .i64 x1, .int .i64 y1]] w fun e w' =>
    e = .returned (.int .i64 (areaB x0 y0 x1 y1)) ∧ Below w.heap.size w w' := by
  cases h : okB x0 y0 x1 y1 with
  | false =>
    go_enter Try.func134, Try.ntmps134
    go_wp2_with fail
    refine (sBoxOk_any x0 y0 x1 y1 _).mono ?_
    rintro e w1 ⟨rfl, hb⟩
    go_wp2
    go_ret
    exact ⟨ret_i64 (areaB_no h).symm, ((Below.refl _ _).alloc (Nat.le_refl _) _).trans (hb.mono (by simp))⟩
  | true =>
    obtain ⟨⟨a1, b1, c1⟩, d1, e1, f1⟩ := (okB_iff _ _ _ _).1 h
    have he := Lib.hid (areaB_yes h)
    have hm := areaB_bd x0 y0 x1 y1
    rw [he.out] at hm
    obtain ⟨m0, m1⟩ := hm
    go_enter Try.func134, Try.ntmps134
    go_wp2_with fail
    refine (sBoxOk_any x0 y0 x1 y1 _).mono ?_
    rintro e w1 ⟨rfl, hb⟩
    have hc : ∀ o, w1.cell? ⟨w.heap.size, o, none⟩ = _ := fun o => hb.cell (p := ⟨w.heap.size, o, none⟩) (by simp)
    go_wp2
    go_ret
    exact ⟨ret_i64 he.out.symm, ((Below.refl _ _).alloc (Nat.le_refl _) _).trans (hb.mono (by simp))⟩


/-- Block b holds a rectangle. -/
def IsBox (w : World) (b : Nat) (x0 y0 x1 y1 : Int) : Prop :=
  w.cell? ⟨b, 0, none⟩ = some (.int .i64 x0) ∧ w.cell? ⟨b, 1, none⟩ = some (.int .i64 y0) ∧ w.cell? ⟨b, 2, none⟩ = some (.int .i64 x1) ∧ w.cell? ⟨b, 3, none⟩ = some (.int .i64 y1)

set_option maxRecDepth 100000 in
set_option maxHeartbeats 400000 in
theorem sJoin_any (x0 y0 x1 y1 u0 v0 u1 v1 : Int) (w : World) : Calls Try.prog 136 #[.agg #[.int .i64 x0, .int .i64 y0, .int .i64 x1, .int .i64 y1], .agg #[.int .i64 u0, .int .i64 v0, .int .i64 u1, .int .i64 v1]] w fun e w' =>
    e = .returned (.agg #[.int .i64 (lst x0 u0), .int .i64 (lst y0 v0), .int .i64 (mst x1 u1), .int .i64 (mst y1 v1)]) ∧ Below w.heap.size w w' := by
  go_enter Try.func136, Try.ntmps136
  go_wp2_with fail
  go_region_held3 (fun w' => (w'.cell? ⟨w.heap.size, 0, none⟩ = some (.int .i64 x0) ∧ w'.cell? ⟨w.heap.size, 1, none⟩ = some (.int .i64 y0) ∧ w'.cell? ⟨w.heap.size, 2, none⟩ = some (.int .i64 x1) ∧ w'.cell? ⟨w.heap.size, 3, none⟩ = some (.int .i64 y1)) ∧
      (w'.cell? ⟨w.heap.size + 1, 0, none⟩ = some (.int .i64 u0) ∧ w'.cell? ⟨w.heap.size + 1, 1, none⟩ = some (.int .i64 v0) ∧ w'.cell? ⟨w.heap.size + 1, 2, none⟩ = some (.int .i64 u1) ∧ w'.cell? ⟨w.heap.size + 1, 3, none⟩ = some (.int .i64 v1)))
    (first | (simp; done) | go_keep)
    (first | ((with_reducible refine (sLeast_any _ _ _).mono ?_); rintro e w1 ⟨rfl, rfl⟩) | ((with_reducible refine (sMost_any _ _ _).mono ?_); rintro e w1 ⟨rfl, rfl⟩))
  go_wp2
  refine bodyPost_ret (v := .agg #[.int .i64 (lst x0 u0), .int .i64 (lst y0 v0), .int .i64 (mst x1 u1), .int .i64 (mst y1 v1)]) (by simp [results, Try.results136, go_sem]) rfl ⟨rfl, ?_⟩
  exact ((((Below.refl _ _).alloc (Nat.le_refl _) _).alloc (by simp) _).alloc (by simp; omega) _).drew
end Go.Proofs.Ytnebhbnogmhbgaa
