/- Where in a slice of entries a number stands. -/
import Derived.Test.YtnebhbnogmhbgaaItemAtZSameBook
import Derived.Test.YtnebhbnogmhbgaaEntrySZSameBook
namespace Go.Proofs.Ytnebhbnogmhbgaa
open Go.RowKit

set_option maxRecDepth 100000 in
set_option maxHeartbeats 800000 in
theorem sEntryAt_any (a : Option Addr) (n cap : Nat) (xs : List It) (id : Int) (w : World) (h : RdS itLay w a n cap xs) :
    Calls Try.prog 98 #[.slice a n cap, .int .i64 id] w fun e w' => e = .returned (.int .i64 (atV id xs 0)) ∧ Below w.heap.size w w' := by
  have hm := h.1.2.2.1
  have hnc := h.1.2.1
  unfold maxLen at hm
  have HR := Lib.hid h
  have HL := Lib.hid h.1.1
  clear h
  go_enter Try.func98, Try.ntmps98
  go_wp2
  go_loopw [5] (fun i wr => ∃ k : Nat, k ≤ n ∧ i = .int .i64 k ∧ atV id xs 0 = atV id (xs.drop k) k ∧ wr = w) (fun i _ => n - (intOf i).toNat)
  case atStart => exact ⟨0, Nat.zero_le _, rfl, rfl, rfl⟩
  case round =>
    obtain ⟨k, hk, rfl, hA, rfl⟩ := hrel
    have HA := Lib.hid hA
    clear hA
    by_cases hlt : k < n
    · obtain ⟨b, off, x, rfl, hbl, hx, d0, d1, d2, d3, d4⟩ := rdIt_at HR.out hlt
      have HX := Lib.hid hx
      have z0 : (0 : Int) ≤ k := by omega
      have z1 : (k : Int) < n := by omega
      clear hx
      by_cases h : x.id = id
      · have hr := Lib.hid (HA.out.trans (atV_yes id HX.out h))
        have h' : (x.id == id) = true := by simpa using h
        clear h
        go_wp2
        go_ret
        exact ⟨ret_i64' hr.out.symm, Below.refl _ _⟩
      · have hr := Lib.hid (HA.out.trans (atV_no id HX.out h))
        have h' : (x.id == id) = false := by simpa using h
        clear h
        go_wp2
        go_roundw
        case rel => exact ⟨k + 1, by omega, by go_num, hr.out, by trivial⟩
        case measure => simp [intOf]; omega
    · have hr : Hid (atV id xs 0 = -1) := by
        obtain rfl : k = n := by omega
        exact HA.out.trans (atV_end xs k id (by rw [HL.out]; exact Nat.le_refl _))
      go_wp2
      go_ret
      exact ⟨ret_i64' hr.out.symm, Below.refl _ _⟩
end Go.Proofs.Ytnebhbnogmhbgaa
