/- Least, Most and Up, the program's and the model's, each by its contract. -/
import Derived.Test.YtpjboijmajlocaaDoorBase
namespace Go.Proofs.YtpjboijmajlocaaDoor
open Go.RowKit

set_option maxHeartbeats 400000 in
theorem iLeast_le (a b : Int) (w : World) (h : a ≤ b) : Calls Tryd.prog 17 #[.int .i64 a, .int .i64 b] w fun e w' => e = .returned (.int .i64 a) ∧ w = w' := by
  have h' : ¬ b < a := by omega
  go_enter Tryd.func17, Tryd.ntmps17
  go_wp2
  go_ret
  exact ⟨rfl, rfl⟩

set_option maxHeartbeats 400000 in
theorem iLeast_gt (a b : Int) (w : World) (h : b < a) : Calls Tryd.prog 17 #[.int .i64 a, .int .i64 b] w fun e w' => e = .returned (.int .i64 b) ∧ w = w' := by
  go_enter Tryd.func17, Tryd.ntmps17
  go_wp2
  go_ret
  exact ⟨rfl, rfl⟩

set_option maxHeartbeats 400000 in
theorem iMost_le (a b : Int) (w : World) (h : b ≤ a) : Calls Tryd.prog 19 #[.int .i64 a, .int .i64 b] w fun e w' => e = .returned (.int .i64 a) ∧ w = w' := by
  have h' : ¬ a < b := by omega
  go_enter Tryd.func19, Tryd.ntmps19
  go_wp2
  go_ret
  exact ⟨rfl, rfl⟩

set_option maxHeartbeats 400000 in
theorem iMost_gt (a b : Int) (w : World) (h : a < b) : Calls Tryd.prog 19 #[.int .i64 a, .int .i64 b] w fun e w' => e = .returned (.int .i64 b) ∧ w = w' := by
  go_enter Tryd.func19, Tryd.ntmps19
  go_wp2
  go_ret
  exact ⟨rfl, rfl⟩

set_option maxHeartbeats 400000 in
theorem iUp_no (a b : Int) (w : World) (h : a < 1) : Calls Tryd.prog 15 #[.int .i64 a, .int .i64 b] w fun e w' => e = .returned (.int .i64 0) ∧ w = w' := by
  go_enter Tryd.func15, Tryd.ntmps15
  go_wp2
  go_ret
  exact ⟨rfl, rfl⟩

set_option maxHeartbeats 400000 in
theorem iUp_no2 (a b : Int) (w : World) (h0 : 1 ≤ a) (h : b < 1) : Calls Tryd.prog 15 #[.int .i64 a, .int .i64 b] w fun e w' => e = .returned (.int .i64 0) ∧ w = w' := by
  go_enter Tryd.func15, Tryd.ntmps15
  go_wp2
  go_ret
  exact ⟨rfl, rfl⟩

set_option maxHeartbeats 400000 in
theorem sLeast_le (a b : Int) (w : World) (h : a ≤ b) : Calls Tryd.prog 18 #[.int .i64 a, .int .i64 b] w fun e w' => e = .returned (.int .i64 a) ∧ w = w' := by
  have h' : ¬ b < a := by omega
  go_enter Tryd.func18, Tryd.ntmps18
  go_wp2
  go_ret
  exact ⟨rfl, rfl⟩

set_option maxHeartbeats 400000 in
theorem sLeast_gt (a b : Int) (w : World) (h : b < a) : Calls Tryd.prog 18 #[.int .i64 a, .int .i64 b] w fun e w' => e = .returned (.int .i64 b) ∧ w = w' := by
  go_enter Tryd.func18, Tryd.ntmps18
  go_wp2
  go_ret
  exact ⟨rfl, rfl⟩

set_option maxHeartbeats 400000 in
theorem sMost_le (a b : Int) (w : World) (h : b ≤ a) : Calls Tryd.prog 20 #[.int .i64 a, .int .i64 b] w fun e w' => e = .returned (.int .i64 a) ∧ w = w' := by
  have h' : ¬ a < b := by omega
  go_enter Tryd.func20, Tryd.ntmps20
  go_wp2
  go_ret
  exact ⟨rfl, rfl⟩

set_option maxHeartbeats 400000 in
theorem sMost_gt (a b : Int) (w : World) (h : a < b) : Calls Tryd.prog 20 #[.int .i64 a, .int .i64 b] w fun e w' => e = .returned (.int .i64 b) ∧ w = w' := by
  go_enter Tryd.func20, Tryd.ntmps20
  go_wp2
  go_ret
  exact ⟨rfl, rfl⟩

set_option maxHeartbeats 400000 in
theorem sUp_no (a b : Int) (w : World) (h : a < 1) : Calls Tryd.prog 21 #[.int .i64 a, .int .i64 b] w fun e w' => e = .returned (.int .i64 0) ∧ w = w' := by
  go_enter Tryd.func21, Tryd.ntmps21
  go_wp2
  go_ret
  exact ⟨rfl, rfl⟩

set_option maxHeartbeats 400000 in
theorem sUp_no2 (a b : Int) (w : World) (h0 : 1 ≤ a) (h : b < 1) : Calls Tryd.prog 21 #[.int .i64 a, .int .i64 b] w fun e w' => e = .returned (.int .i64 0) ∧ w = w' := by
  go_enter Tryd.func21, Tryd.ntmps21
  go_wp2
  go_ret
  exact ⟨rfl, rfl⟩

set_option maxHeartbeats 400000 in
theorem iUp_yes (a b : Int) (w : World) (h : 1 ≤ a) (h' : 1 ≤ b) (hm : a ≤ 9223372036854775807) : Calls Tryd.prog 15 #[.int .i64 a, .int .i64 b] w fun e w' => e = .returned (.int .i64 ((a - 1) / b + 1)) ∧ w = w' := by
  obtain ⟨q1, q2⟩ := quo_le (a - 1) b (by omega) h'
  go_enter Tryd.func15, Tryd.ntmps15
  go_wp2
  go_ret
  exact ⟨rfl, rfl⟩

set_option maxHeartbeats 400000 in
theorem sUp_yes (a b : Int) (w : World) (h : 1 ≤ a) (h' : 1 ≤ b) (hm : a ≤ 9223372036854775807) : Calls Tryd.prog 21 #[.int .i64 a, .int .i64 b] w fun e w' => e = .returned (.int .i64 ((a - 1) / b + 1)) ∧ w = w' := by
  obtain ⟨q1, q2⟩ := quo_le (a - 1) b (by omega) h'
  obtain ⟨q3, q4⟩ := quo_le a b (by omega) h'
  by_cases h2 : 0 < a % b
  · have HE := Lib.hid (up_frac a b h h' h2)
    have q5 : a / b ≤ a - 1 := by rw [← HE.out]; exact q2
    go_enter Tryd.func21, Tryd.ntmps21
    go_wp2
    go_ret
    exact ⟨by rw [HE.out]; rfl, rfl⟩
  · have HE := Lib.hid (up_whole a b h h' h2)
    go_enter Tryd.func21, Tryd.ntmps21
    go_wp2
    go_ret
    exact ⟨by rw [HE.out]; rfl, rfl⟩

/-! ### whatever the order of the two -/
def lst (a b : Int) : Int := if b < a then b else a
def mst (a b : Int) : Int := if b > a then b else a
def upv (a b : Int) : Int := if a < 1 then 0 else if b < 1 then 0 else (a - 1) / b + 1
theorem lst_le_mst (a b : Int) : lst a b ≤ mst a b := by unfold lst mst; split <;> split <;> omega
theorem iLeast_any (a b : Int) (w : World) : Calls Tryd.prog 17 #[.int .i64 a, .int .i64 b] w fun e w' => e = .returned (.int .i64 (lst a b)) ∧ w = w' := by
  by_cases h : b < a
  · refine (iLeast_gt a b w h).mono fun e w' ⟨he, hw⟩ => ⟨?_, hw⟩
    rw [he]; unfold lst; rw [if_pos h]
  · refine (iLeast_le a b w (by omega)).mono fun e w' ⟨he, hw⟩ => ⟨?_, hw⟩
    rw [he]; unfold lst; rw [if_neg h]
theorem iMost_any (a b : Int) (w : World) : Calls Tryd.prog 19 #[.int .i64 a, .int .i64 b] w fun e w' => e = .returned (.int .i64 (mst a b)) ∧ w = w' := by
  by_cases h : b > a
  · refine (iMost_gt a b w h).mono fun e w' ⟨he, hw⟩ => ⟨?_, hw⟩
    rw [he]; unfold mst; rw [if_pos h]
  · refine (iMost_le a b w (by omega)).mono fun e w' ⟨he, hw⟩ => ⟨?_, hw⟩
    rw [he]; unfold mst; rw [if_neg h]
theorem iUp_any (a b : Int) (ha : (Lit.int .i64 a).wf = true) (w : World) : Calls Tryd.prog 15 #[.int .i64 a, .int .i64 b] w fun e w' => e = .returned (.int .i64 (upv a b)) ∧ w = w' := by
  obtain ⟨l, u⟩ := bounds_i64 ha
  by_cases h : a < 1
  · refine (iUp_no a b w h).mono fun e w' ⟨he, hw⟩ => ⟨?_, hw⟩
    rw [he]; unfold upv; rw [if_pos h]
  · by_cases h2 : b < 1
    · refine (iUp_no2 a b w (by omega) h2).mono fun e w' ⟨he, hw⟩ => ⟨?_, hw⟩
      rw [he]; unfold upv; rw [if_neg h, if_pos h2]
    · refine (iUp_yes a b w (by omega) (by omega) u).mono fun e w' ⟨he, hw⟩ => ⟨?_, hw⟩
      rw [he]; unfold upv; rw [if_neg h, if_neg h2]
theorem sLeast_any (a b : Int) (w : World) : Calls Tryd.prog 18 #[.int .i64 a, .int .i64 b] w fun e w' => e = .returned (.int .i64 (lst a b)) ∧ w = w' := by
  by_cases h : b < a
  · refine (sLeast_gt a b w h).mono fun e w' ⟨he, hw⟩ => ⟨?_, hw⟩
    rw [he]; unfold lst; rw [if_pos h]
  · refine (sLeast_le a b w (by omega)).mono fun e w' ⟨he, hw⟩ => ⟨?_, hw⟩
    rw [he]; unfold lst; rw [if_neg h]
theorem sMost_any (a b : Int) (w : World) : Calls Tryd.prog 20 #[.int .i64 a, .int .i64 b] w fun e w' => e = .returned (.int .i64 (mst a b)) ∧ w = w' := by
  by_cases h : b > a
  · refine (sMost_gt a b w h).mono fun e w' ⟨he, hw⟩ => ⟨?_, hw⟩
    rw [he]; unfold mst; rw [if_pos h]
  · refine (sMost_le a b w (by omega)).mono fun e w' ⟨he, hw⟩ => ⟨?_, hw⟩
    rw [he]; unfold mst; rw [if_neg h]
theorem sUp_any (a b : Int) (ha : (Lit.int .i64 a).wf = true) (w : World) : Calls Tryd.prog 21 #[.int .i64 a, .int .i64 b] w fun e w' => e = .returned (.int .i64 (upv a b)) ∧ w = w' := by
  obtain ⟨l, u⟩ := bounds_i64 ha
  by_cases h : a < 1
  · refine (sUp_no a b w h).mono fun e w' ⟨he, hw⟩ => ⟨?_, hw⟩
    rw [he]; unfold upv; rw [if_pos h]
  · by_cases h2 : b < 1
    · refine (sUp_no2 a b w (by omega) h2).mono fun e w' ⟨he, hw⟩ => ⟨?_, hw⟩
      rw [he]; unfold upv; rw [if_neg h, if_pos h2]
    · refine (sUp_yes a b w (by omega) (by omega) u).mono fun e w' ⟨he, hw⟩ => ⟨?_, hw⟩
      rw [he]; unfold upv; rw [if_neg h, if_neg h2]

theorem upv_facts (e f : Int) (h : 1 ≤ e) (h' : 1 ≤ f) : 1 ≤ upv e f ∧ upv e f ≤ e ∧ e ≤ upv e f * f ∧ (upv e f - 1) * f < e ∧ 0 ≤ (upv e f - 1) * f ∧ upv e f * f = (upv e f - 1) * f + f := by
  have hu : upv e f = (e - 1) / f + 1 := by unfold upv; rw [if_neg (by omega), if_neg (by omega)]
  obtain ⟨q1, q2⟩ := quo_le (e - 1) f (by omega) h'
  have e1 := Int.mul_ediv_add_emod (e - 1) f
  have l1 := Int.emod_lt_of_pos (e - 1) (b := f) (by omega)
  have l2 := Int.emod_nonneg (e - 1) (b := f) (by omega)
  have hm : (upv e f - 1) * f = f * ((e - 1) / f) := by rw [hu, Int.add_sub_cancel, Int.mul_comm]
  have hm2 : upv e f * f = (upv e f - 1) * f + f := by rw [Int.sub_mul, Int.one_mul]; omega
  have hnn : 0 ≤ f * ((e - 1) / f) := Int.mul_nonneg (by omega) q1
  omega
end Go.Proofs.YtpjboijmajlocaaDoor
