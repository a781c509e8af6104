/- The smaller and the larger of two integers: the program's and the model's functions. -/
import Derived.Test.YtfgmjegemlkkkaaBase
namespace Go.Proofs.Ytfgmjegemlkkkaa
open Go.RowKit

def lst (a b : Int) : Int := if b < a then b else a
def mst (a b : Int) : Int := if b > a then b else a
theorem lst_min (a b : Int) : lst a b = min a b := by unfold lst; omega
theorem mst_max (a b : Int) : mst a b = max a b := by unfold mst; omega

set_option maxRecDepth 100000 in
set_option maxHeartbeats 400000 in
theorem sLeast_gt (a b : Int) (w : World) (h : b < a) : Calls Try.prog 74 #[.int .i64 a, .int .i64 b] w fun e w' => e = .returned (.int .i64 b) ∧ w = w' := by
  go_enter Try.func74, Try.ntmps74
  go_wp2
  go_ret
  exact ⟨rfl, rfl⟩
set_option maxRecDepth 100000 in
set_option maxHeartbeats 400000 in
theorem sLeast_le (a b : Int) (w : World) (h : a ≤ b) : Calls Try.prog 74 #[.int .i64 a, .int .i64 b] w fun e w' => e = .returned (.int .i64 a) ∧ w = w' := by
  go_enter Try.func74, Try.ntmps74
  go_wp2
  go_ret
  exact ⟨rfl, rfl⟩
theorem sLeast_any (a b : Int) (w : World) : Calls Try.prog 74 #[.int .i64 a, .int .i64 b] w fun e w' => e = .returned (.int .i64 (lst a b)) ∧ w = w' := by
  by_cases h : b < a
  · refine (sLeast_gt a b w h).mono fun e w' ⟨he, hw⟩ => ⟨?_, hw⟩
    rw [he]; unfold lst; rw [if_pos h]
  · refine (sLeast_le a b w (by omega)).mono fun e w' ⟨he, hw⟩ => ⟨?_, hw⟩
    rw [he]; unfold lst; rw [if_neg h]
end Go.Proofs.Ytfgmjegemlkkkaa
