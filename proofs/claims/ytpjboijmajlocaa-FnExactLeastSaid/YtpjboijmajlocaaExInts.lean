/- The exact laws of Least, Most and Up. -/
import Derived.Test.YtpjboijmajlocaaChecked
import Derived.WalkKit
import Derived.ProofKit
import Derived.OpenShut
namespace Go.Proofs.Ytpjboijmajlocaa
open Go.RowKit
theorem quo_le (n m : Int) (hn : 0 ≤ n) (hm : 1 ≤ m) : 0 ≤ n / m ∧ n / m ≤ n :=
  ⟨Int.ediv_nonneg hn (by omega), Int.ediv_le_self m hn⟩
theorem up_frac (n m : Int) (_ : 1 ≤ n) (hm : 1 ≤ m) (h : 0 < n % m) : (n - 1) / m = n / m := by
  have e := Int.mul_ediv_add_emod n m
  have hl := Int.emod_lt_of_pos n (b := m) (by omega)
  have : n - 1 = (n % m - 1) + m * (n / m) := by omega
  rw [this, Int.add_mul_ediv_left _ _ (by omega : m ≠ 0), Int.ediv_eq_zero_of_lt (by omega) (by omega)]
  omega
theorem up_whole (n m : Int) (_ : 1 ≤ n) (hm : 1 ≤ m) (h : ¬ 0 < n % m) : (n - 1) / m + 1 = n / m := by
  have e := Int.mul_ediv_add_emod n m
  have hl := Int.emod_nonneg n (b := m) (by omega)
  have : n - 1 = (m - 1) + m * (n / m - 1) := by
    rw [Int.mul_sub]; omega
  rw [this, Int.add_mul_ediv_left _ _ (by omega : m ≠ 0), Int.ediv_eq_zero_of_lt (by omega) (by omega)]
  omega


set_option maxHeartbeats 400000 in
theorem exLeast_walk (a0 a1 : Int) (_w0 : (Lit.int .i64 a0).wf = true) (_w1 : (Lit.int .i64 a1).wf = true) (w : World) :
    Calls Try.prog 7 #[.int .i64 a0, .int .i64 a1] w fun e w' => e = .returned (.bool true) ∧ w = w' := by
  by_cases h : a1 < a0
  all_goals
    clear _w0 _w1
    go_enter Try.func7, Try.ntmps7
    go_wp2
    go_ret
    exact ⟨rfl, rfl⟩

set_option maxHeartbeats 400000 in
theorem exMost_walk (a0 a1 : Int) (_w0 : (Lit.int .i64 a0).wf = true) (_w1 : (Lit.int .i64 a1).wf = true) (w : World) :
    Calls Try.prog 8 #[.int .i64 a0, .int .i64 a1] w fun e w' => e = .returned (.bool true) ∧ w = w' := by
  by_cases h : a0 < a1
  all_goals
    clear _w0 _w1
    go_enter Try.func8, Try.ntmps8
    go_wp2
    go_ret
    exact ⟨rfl, rfl⟩

set_option maxHeartbeats 400000 in
theorem exUp_walk (a0 a1 : Int) (w0 : (Lit.int .i64 a0).wf = true) (w1 : (Lit.int .i64 a1).wf = true) (w : World) :
    Calls Try.prog 9 #[.int .i64 a0, .int .i64 a1] w fun e w' => e = .returned (.bool true) ∧ w = w' := by
  obtain ⟨l0, u0⟩ := bounds_i64 w0
  obtain ⟨l1, u1⟩ := bounds_i64 w1
  by_cases h0 : a0 < 1
  · go_enter Try.func9, Try.ntmps9
    go_wp2
    go_ret
    exact ⟨rfl, rfl⟩
  by_cases h1 : a1 < 1
  · go_enter Try.func9, Try.ntmps9
    go_wp2
    go_ret
    exact ⟨rfl, rfl⟩
  have hq := quo_le a0 a1 (by omega) (by omega)
  have hq' := quo_le (a0 - 1) a1 (by omega) (by omega)
  obtain ⟨hq1, hq2⟩ := hq
  obtain ⟨hq3, hq4⟩ := hq'
  by_cases h2 : 0 < a0 % a1
  · have e := up_frac a0 a1 (by omega) (by omega) h2
    have hb : ((a0 - 1) / a1 + 1 != a0 / a1 + 1) = false := by rw [e]; simp
    have hq5 : a0 / a1 ≤ a0 - 1 := by omega
    clear e
    go_enter Try.func9, Try.ntmps9
    go_wp2
    go_ret
    exact ⟨rfl, rfl⟩
  · have e := up_whole a0 a1 (by omega) (by omega) h2
    have hb : ((a0 - 1) / a1 + 1 != a0 / a1) = false := by rw [e]; simp
    clear e
    go_enter Try.func9, Try.ntmps9
    go_wp2
    go_ret
    exact ⟨rfl, rfl⟩
end Go.Proofs.Ytpjboijmajlocaa
