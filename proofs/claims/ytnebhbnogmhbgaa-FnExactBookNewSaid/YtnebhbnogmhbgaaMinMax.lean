/- The smaller and the larger of two integers: the program's and the model's functions. -/
import Derived.Test.YtnebhbnogmhbgaaBase
namespace Go.Proofs.Ytnebhbnogmhbgaa
open Go.RowKit

def lst (a b : Int) : Int := if b < a then b else a
def mst (a b : Int) : Int := if b > a then b else a
theorem lst_min (a b : Int) : lst a b = min a b := by unfold lst; omega
theorem mst_max (a b : Int) : mst a b = max a b := by unfold mst; omega

set_option maxRecDepth 100000 in
set_option maxHeartbeats 400000 in
theorem sLeast_gt (a b : Int) (w : World) (h : b < a) : Calls Try.prog 119 #[.int .i64 a, .int .i64 b] w fun e w' => e = .returned (.int .i64 b) ∧ w = w' := by
  go_enter Try.func119, Try.ntmps119
  go_wp2
  go_ret
  exact ⟨rfl, rfl⟩
set_option maxRecDepth 100000 in
set_option maxHeartbeats 400000 in
theorem sLeast_le (a b : Int) (w : World) (h : a ≤ b) : Calls Try.prog 119 #[.int .i64 a, .int .i64 b] w fun e w' => e = .returned (.int .i64 a) ∧ w = w' := by
  go_enter Try.func119, Try.ntmps119
  go_wp2
  go_ret
  exact ⟨rfl, rfl⟩
set_option maxRecDepth 100000 in
set_option maxHeartbeats 400000 in
theorem sMost_gt (a b : Int) (w : World) (h : b > a) : Calls Try.prog 138 #[.int .i64 a, .int .i64 b] w fun e w' => e = .returned (.int .i64 b) ∧ w = w' := by
  go_enter Try.func138, Try.ntmps138
  go_wp2
  go_ret
  exact ⟨rfl, rfl⟩
set_option maxRecDepth 100000 in
set_option maxHeartbeats 400000 in
theorem sMost_le (a b : Int) (w : World) (h : b ≤ a) : Calls Try.prog 138 #[.int .i64 a, .int .i64 b] w fun e w' => e = .returned (.int .i64 a) ∧ w = w' := by
  go_enter Try.func138, Try.ntmps138
  go_wp2
  go_ret
  exact ⟨rfl, rfl⟩
theorem sLeast_any (a b : Int) (w : World) : Calls Try.prog 119 #[.int .i64 a, .int .i64 b] w fun e w' => e = .returned (.int .i64 (lst a b)) ∧ w = w' := by
  by_cases h : b < a
  · refine (sLeast_gt a b w h).mono fun e w' ⟨he, hw⟩ => ⟨?_, hw⟩
    rw [he]; unfold lst; rw [if_pos h]
  · refine (sLeast_le a b w (by omega)).mono fun e w' ⟨he, hw⟩ => ⟨?_, hw⟩
    rw [he]; unfold lst; rw [if_neg h]
theorem sMost_any (a b : Int) (w : World) : Calls Try.prog 138 #[.int .i64 a, .int .i64 b] w fun e w' => e = .returned (.int .i64 (mst a b)) ∧ w = w' := by
  by_cases h : b > a
  · refine (sMost_gt a b w h).mono fun e w' ⟨he, hw⟩ => ⟨?_, hw⟩
    rw [he]; unfold mst; rw [if_pos h]
  · refine (sMost_le a b w (by omega)).mono fun e w' ⟨he, hw⟩ => ⟨?_, hw⟩
    rw [he]; unfold mst; rw [if_neg h]
end Go.Proofs.Ytnebhbnogmhbgaa
