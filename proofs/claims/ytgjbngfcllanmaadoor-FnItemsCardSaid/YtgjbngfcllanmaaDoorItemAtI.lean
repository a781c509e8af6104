/- The program's ItemAt. -/
import Derived.Test.YtgjbngfcllanmaaDoorItemAt
namespace Go.Proofs.YtgjbngfcllanmaaDoor
open Go.RowKit

set_option maxHeartbeats 1600000 in
theorem iItemAt_any (a : Option Addr) (n cap : Nat) (xs : List It) (id : Int) (w : World) (h : RdS itLay w a n cap xs) :
    Calls Tryd.prog 22 #[.slice a n cap, .int .i64 id] w fun e w' => e = .returned (.int .i64 (atV id xs 0)) ∧ Below w.heap.size w w' := by
  have hm := h.1.2.2.1
  have hnc := h.1.2.1
  unfold maxLen at hm
  have HR := Lib.hid h
  have HL := Lib.hid h.1.1
  clear h
  go_enter Tryd.func22, Tryd.ntmps22
  go_wp2
  go_loopw [9] (fun i wr => ∃ k : Nat, k ≤ n ∧ i = .int .i64 k ∧ Hid (atV id xs 0 = atV id (xs.drop k) k) ∧ Below w.heap.size w wr) (fun i _ => n - (intOf i).toNat)
  case atStart => exact ⟨0, Nat.zero_le _, rfl, rfl, Below.refl _ _⟩
  case round =>
    obtain ⟨k, hk, rfl, HA, hB⟩ := hrel
    by_cases hlt : k < n
    · obtain ⟨b, off, x, rfl, hbl, hx, d0, d1, d2, d3, d4⟩ := rdIt_at (HR.out.below hB) hlt
      have HX := Lib.hid hx
      have z0 : (0 : Int) ≤ k := by omega
      have z1 : (k : Int) < n := by omega
      have B1 := Lib.hid (hB.alloc hB.size)
      have HS := Lib.hid hB.size
      clear hx hB
      by_cases h : x.id = id
      · have hr := Lib.hid (HA.out.trans (atV_yes id HX.out h))
        have h' : (x.id == id) = true := by simpa using h
        clear h
        go_wp2
        go_ret
        refine ⟨ret_i64' hr.out.symm, ?_⟩
        first | exact below_set5 (B1.out _) HS.out _ _ _ _ _ _ _ _ _ _ | exact B1.out _
      · have hr := Lib.hid (HA.out.trans (atV_no id HX.out h))
        have h' : (x.id == id) = false := by simpa using h
        clear h
        go_wp2
        go_roundw
        case rel => exact ⟨k + 1, by omega, by go_num, hr.out, by first | exact below_set5 (B1.out _) HS.out _ _ _ _ _ _ _ _ _ _ | exact B1.out _⟩
        case measure => simp [intOf]; omega
    · have hr : Hid (atV id xs 0 = -1) := by
        obtain rfl : k = n := by omega
        exact HA.out.trans (atV_end xs k id (by rw [HL.out]; exact Nat.le_refl _))
      go_wp2
      go_ret
      exact ⟨ret_i64' hr.out.symm, hB⟩
end Go.Proofs.YtgjbngfcllanmaaDoor
