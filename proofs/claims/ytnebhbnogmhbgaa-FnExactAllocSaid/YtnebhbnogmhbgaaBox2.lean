/- Rectangles: what two have in common, containment, growth: contracts of the program's and the model's functions. -/
import Derived.Test.YtnebhbnogmhbgaaBox
namespace Go.Proofs.Ytnebhbnogmhbgaa
open Go.RowKit

def crossB (x0 y0 x1 y1 u0 v0 u1 v1 : Int) : Bool := decide (x0 ≤ u1) && decide (u0 ≤ x1) && decide (y0 ≤ v1) && decide (v0 ≤ y1)
theorem crossB_last {x0 y0 x1 y1 u0 v0 u1 v1 : Int} (h : x0 ≤ u1 ∧ u0 ≤ x1 ∧ y0 ≤ v1) : decide (v0 ≤ y1) = crossB x0 y0 x1 y1 u0 v0 u1 v1 := by
  unfold crossB; rw [decide_eq_true h.1, decide_eq_true h.2.1, decide_eq_true h.2.2]; simp
theorem crossB_no {x0 y0 x1 y1 u0 v0 u1 v1 : Int} (h : ¬ (x0 ≤ u1 ∧ u0 ≤ x1 ∧ y0 ≤ v1 ∧ v0 ≤ y1)) : false = crossB x0 y0 x1 y1 u0 v0 u1 v1 := by
  cases h' : crossB x0 y0 x1 y1 u0 v0 u1 v1 with
  | false => rfl
  | true => exact absurd (by unfold crossB at h'; simp at h'; omega) h
def meetsB (x0 y0 x1 y1 u0 v0 u1 v1 : Int) : Bool := okB x0 y0 x1 y1 && okB u0 v0 u1 v1 && crossB x0 y0 x1 y1 u0 v0 u1 v1

/-- Two boxes lie in the first two blocks behind w; a callee that makes memory alone leaves them there. -/
theorem two_keep {w W w1 : World} {a b c d e f g h : Value}
    (hS : (Below w.heap.size w W ∧ w.heap.size + 2 ≤ W.heap.size) ∧ (W.cell? ⟨w.heap.size, 0, none⟩ = some a ∧ W.cell? ⟨w.heap.size, 1, none⟩ = some b ∧ W.cell? ⟨w.heap.size, 2, none⟩ = some c ∧ W.cell? ⟨w.heap.size, 3, none⟩ = some d) ∧
      (W.cell? ⟨w.heap.size + 1, 0, none⟩ = some e ∧ W.cell? ⟨w.heap.size + 1, 1, none⟩ = some f ∧ W.cell? ⟨w.heap.size + 1, 2, none⟩ = some g ∧ W.cell? ⟨w.heap.size + 1, 3, none⟩ = some h))
    (hb : Below W.heap.size W w1) :
    (Below w.heap.size w w1 ∧ w.heap.size + 2 ≤ w1.heap.size) ∧ (w1.cell? ⟨w.heap.size, 0, none⟩ = some a ∧ w1.cell? ⟨w.heap.size, 1, none⟩ = some b ∧ w1.cell? ⟨w.heap.size, 2, none⟩ = some c ∧ w1.cell? ⟨w.heap.size, 3, none⟩ = some d) ∧
      (w1.cell? ⟨w.heap.size + 1, 0, none⟩ = some e ∧ w1.cell? ⟨w.heap.size + 1, 1, none⟩ = some f ∧ w1.cell? ⟨w.heap.size + 1, 2, none⟩ = some g ∧ w1.cell? ⟨w.heap.size + 1, 3, none⟩ = some h) := by
  obtain ⟨⟨hB, hz⟩, h1, h2⟩ := hS
  have k : ∀ o, w1.cell? ⟨w.heap.size, o, none⟩ = W.cell? ⟨w.heap.size, o, none⟩ := fun o => hb.cell (p := ⟨w.heap.size, o, none⟩) (by show w.heap.size < _; omega)
  have k' : ∀ o, w1.cell? ⟨w.heap.size + 1, o, none⟩ = W.cell? ⟨w.heap.size + 1, o, none⟩ := fun o => hb.cell (p := ⟨w.heap.size + 1, o, none⟩) (by show w.heap.size + 1 < _; omega)
  have := hb.size
  simp only [k, k']
  exact ⟨⟨hB.trans (hb.mono (by omega)), by omega⟩, h1, h2⟩
/-- The world behind the boxing of two arguments, and a draw. -/
theorem two_start (w : World) (A B : Obj) : Below w.heap.size w ((w.alloc A).alloc B).drew ∧ w.heap.size + 2 ≤ ((w.alloc A).alloc B).drew.heap.size := ⟨(((Below.refl _ _).alloc (Nat.le_refl _) _).alloc (by simp) _).drew, by simp⟩

/-- Two rectangles compared with == -/
def boxEq (x0 y0 x1 y1 u0 v0 u1 v1 : Int) : Bool := decide (x0 = u0) && decide (y0 = v0) && decide (x1 = u1) && decide (y1 = v1)
theorem boxEq_iff (x0 y0 x1 y1 u0 v0 u1 v1 : Int) : boxEq x0 y0 x1 y1 u0 v0 u1 v1 = true ↔ x0 = u0 ∧ y0 = v0 ∧ x1 = u1 ∧ y1 = v1 := by unfold boxEq; simp [and_assoc]
theorem boxEq_self (x0 y0 x1 y1 : Int) : boxEq x0 y0 x1 y1 x0 y0 x1 y1 = true := (boxEq_iff _ _ _ _ _ _ _ _).2 ⟨rfl, rfl, rfl, rfl⟩

theorem eqBox_run (x0 y0 x1 y1 u0 v0 u1 v1 : Int) (w : World) :
    (binOp .eql 89 (.agg #[.int .i64 x0, .int .i64 y0, .int .i64 x1, .int .i64 y1]) (.agg #[.int .i64 u0, .int .i64 v0, .int .i64 u1, .int .i64 v1])).run Try.prog w = .ok (.bool (boxEq x0 y0 x1 y1 u0 v0 u1 v1)) w := by
  unfold boxEq
  by_cases h0 : x0 = u0
  · by_cases h1 : y0 = v0
    · by_cases h2 : x1 = u1
      · by_cases h3 : y1 = v1
        all_goals go_simp
      · go_simp
    · go_simp
  · go_simp
theorem neBox_run (x0 y0 x1 y1 u0 v0 u1 v1 : Int) (w : World) :
    (binOp .neq 89 (.agg #[.int .i64 x0, .int .i64 y0, .int .i64 x1, .int .i64 y1]) (.agg #[.int .i64 u0, .int .i64 v0, .int .i64 u1, .int .i64 v1])).run Try.prog w = .ok (.bool (!boxEq x0 y0 x1 y1 u0 v0 u1 v1)) w := by
  unfold boxEq
  by_cases h0 : x0 = u0
  · by_cases h1 : y0 = v0
    · by_cases h2 : x1 = u1
      · by_cases h3 : y1 = v1
        all_goals go_simp
      · go_simp
    · go_simp
  · go_simp

/-- Holding: the join is the first. -/
def holdsB (x0 y0 x1 y1 u0 v0 u1 v1 : Int) : Bool := boxEq (lst x0 u0) (lst y0 v0) (mst x1 u1) (mst y1 v1) x0 y0 x1 y1
theorem holdsB_iff (x0 y0 x1 y1 u0 v0 u1 v1 : Int) : holdsB x0 y0 x1 y1 u0 v0 u1 v1 = true ↔ x0 ≤ u0 ∧ y0 ≤ v0 ∧ u1 ≤ x1 ∧ v1 ≤ y1 := by
  unfold holdsB; rw [boxEq_iff, lst_min, lst_min, mst_max, mst_max]; omega

set_option maxRecDepth 100000 in
set_option maxHeartbeats 400000 in
theorem sGrowth_any (x0 y0 x1 y1 u0 v0 u1 v1 : Int) (w : World) : Calls Try.prog 133 #[.agg #[.int .i64 x0, .int .i64 y0, .int .i64 x1, .int .i64 y1], .agg #[.int .i64 u0, .int .i64 v0, .int .i64 u1, .int .i64 v1]] w fun e w' =>
    e = .returned (.int .i64 (areaB (lst x0 u0) (lst y0 v0) (mst x1 u1) (mst y1 v1) - areaB x0 y0 x1 y1)) ∧ Below w.heap.size w w' := by
  obtain ⟨a0, a1⟩ := areaB_bd x0 y0 x1 y1
  obtain ⟨b0, b1⟩ := areaB_bd (lst x0 u0) (lst y0 v0) (mst x1 u1) (mst y1 v1)
  go_enter Try.func133, Try.ntmps133
  go_wp2_with fail
  go_region_held3 (fun w' => (Below w.heap.size w w' ∧ w.heap.size + 2 ≤ w'.heap.size) ∧ (w'.cell? ⟨w.heap.size, 0, none⟩ = some (.int .i64 x0) ∧ w'.cell? ⟨w.heap.size, 1, none⟩ = some (.int .i64 y0) ∧ w'.cell? ⟨w.heap.size, 2, none⟩ = some (.int .i64 x1) ∧ w'.cell? ⟨w.heap.size, 3, none⟩ = some (.int .i64 y1)) ∧
      (w'.cell? ⟨w.heap.size + 1, 0, none⟩ = some (.int .i64 u0) ∧ w'.cell? ⟨w.heap.size + 1, 1, none⟩ = some (.int .i64 v0) ∧ w'.cell? ⟨w.heap.size + 1, 2, none⟩ = some (.int .i64 u1) ∧ w'.cell? ⟨w.heap.size + 1, 3, none⟩ = some (.int .i64 v1)))
    (first | exact two_keep (by assumption) hj | (refine ⟨two_start _ _ _, ?_⟩; simp; done))
    (first | ((with_reducible refine (sJoin_any _ _ _ _ _ _ _ _ _).mono ?_); rintro e w1 ⟨rfl, hj⟩) | ((with_reducible refine (sArea_any _ _ _ _ _).mono ?_); rintro e w1 ⟨rfl, hj⟩))
  all_goals
    rename_i hS
    have hB := hS.1.1
    clear hS
    go_wp2
    go_ret
    exact ⟨ret_i64 (IntWalk.i64_in _ (by omega)), hB⟩

set_option maxRecDepth 100000 in
set_option maxHeartbeats 400000 in
/-- laws.toBox: the same rectangle in the program's own type. -/
theorem toBox_any (x0 y0 x1 y1 : Int) (w : World) : Calls Try.prog 112 #[.agg #[.int .i64 x0, .int .i64 y0, .int .i64 x1, .int .i64 y1]] w fun e w' =>
    e = .returned (.agg #[.int .i64 x0, .int .i64 y0, .int .i64 x1, .int .i64 y1]) ∧ Below w.heap.size w w' := by
  go_enter Try.func112, Try.ntmps112
  go_wp2
  refine bodyPost_ret (v := .agg #[.int .i64 x0, .int .i64 y0, .int .i64 x1, .int .i64 y1]) (by simp [results, Try.results112, go_sem]) rfl ⟨rfl, ?_⟩
  exact (((Below.refl _ _).alloc (Nat.le_refl _) _).alloc (by simp) _).alloc (by simp; omega) _

set_option maxRecDepth 100000 in
set_option maxHeartbeats 400000 in
/-- laws.eqBox: field by field. -/
theorem eqBox_any (x0 y0 x1 y1 u0 v0 u1 v1 : Int) (w : World) : Calls Try.prog 111 #[.agg #[.int .i64 x0, .int .i64 y0, .int .i64 x1, .int .i64 y1], .agg #[.int .i64 u0, .int .i64 v0, .int .i64 u1, .int .i64 v1]] w fun e w' =>
    e = .returned (.bool (boxEq x0 y0 x1 y1 u0 v0 u1 v1)) ∧ Below w.heap.size w w' := by
  by_cases h : x0 = u0 ∧ y0 = v0 ∧ x1 = u1 ∧ y1 = v1
  · obtain ⟨rfl, rfl, rfl, rfl⟩ := h
    have hr := Lib.hid (boxEq_self x0 y0 x1 y1)
    go_enter Try.func111, Try.ntmps111
    go_wp2
    go_ret
    exact ⟨ret_bool hr.out.symm, ((Below.refl _ _).alloc (Nat.le_refl _) _).alloc (by simp) _⟩
  · have hr : Hid (boxEq x0 y0 x1 y1 u0 v0 u1 v1 = false) := by
      show boxEq x0 y0 x1 y1 u0 v0 u1 v1 = false
      rw [Bool.eq_false_iff]; exact fun h' => h ((boxEq_iff _ _ _ _ _ _ _ _).1 h')
    have H := Lib.hid h
    clear h
    by_cases h0 : (x0 == u0) = true
    · have h0' : (x0 != u0) = false := by simpa using h0
      by_cases h1 : (y0 == v0) = true
      · have h1' : (y0 != v0) = false := by simpa using h1
        by_cases h2 : (x1 == u1) = true
        · have h2' : (x1 != u1) = false := by simpa using h2
          have h3' : (y1 != v1) = true := by
            simp only [beq_iff_eq] at h0 h1 h2
            simp only [bne_iff_ne]
            exact fun h3 => H.out ⟨h0, h1, h2, h3⟩
          clear h0 h1 h2
          go_enter Try.func111, Try.ntmps111
          go_wp2
          go_ret
          exact ⟨ret_bool hr.out.symm, ((Below.refl _ _).alloc (Nat.le_refl _) _).alloc (by simp) _⟩
        · have h2' : (x1 != u1) = true := by simpa using h2
          clear h0 h1 h2
          go_enter Try.func111, Try.ntmps111
          go_wp2
          go_ret
          exact ⟨ret_bool hr.out.symm, ((Below.refl _ _).alloc (Nat.le_refl _) _).alloc (by simp) _⟩
      · have h1' : (y0 != v0) = true := by simpa using h1
        clear h0 h1
        go_enter Try.func111, Try.ntmps111
        go_wp2
        go_ret
        exact ⟨ret_bool hr.out.symm, ((Below.refl _ _).alloc (Nat.le_refl _) _).alloc (by simp) _⟩
    · have h0' : (x0 != u0) = true := by simpa using h0
      clear h0
      go_enter Try.func111, Try.ntmps111
      go_wp2
      go_ret
      exact ⟨ret_bool hr.out.symm, ((Below.refl _ _).alloc (Nat.le_refl _) _).alloc (by simp) _⟩
end Go.Proofs.Ytnebhbnogmhbgaa
