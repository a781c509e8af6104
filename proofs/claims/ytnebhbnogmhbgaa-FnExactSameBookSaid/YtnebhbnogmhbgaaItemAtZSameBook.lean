/- Where in a slice of items an Id stands. -/
import Derived.Test.YtnebhbnogmhbgaaItemSZSameBook
namespace Go.Proofs.Ytnebhbnogmhbgaa
open Go.RowKit

def atV (id : Int) : List It → Int → Int
  | [], _ => -1
  | x :: l, k => if x.id = id then k else atV id l (k + 1)
theorem drop_at {xs : List It} {k : Nat} {x : It} (hx : xs[k]? = some x) : xs.drop k = x :: xs.drop (k + 1) := by
  obtain ⟨hlt, rfl⟩ := List.getElem?_eq_some_iff.1 hx
  exact List.drop_eq_getElem_cons hlt
theorem atV_yes {xs : List It} {k : Nat} {x : It} (id : Int) (hx : xs[k]? = some x) (h : x.id = id) : atV id (xs.drop k) k = k := by rw [drop_at hx, atV, if_pos h]
theorem atV_no {xs : List It} {k : Nat} {x : It} (id : Int) (hx : xs[k]? = some x) (h : x.id ≠ id) : atV id (xs.drop k) k = atV id (xs.drop (k + 1)) ((k + 1 : Nat) : Int) := by rw [drop_at hx, atV, if_neg h]; simp
theorem atV_end (xs : List It) (n : Nat) (id : Int) (h : xs.length ≤ n) : atV id (xs.drop n) n = -1 := by rw [List.drop_eq_nil_of_le h]; rfl
theorem ret_i64' {a b : Int} (h : a = b) : Ending.returned (.int .i64 a) = .returned (.int .i64 b) := by rw [h]

set_option maxRecDepth 100000 in
set_option maxHeartbeats 800000 in
theorem sItemAt_any (a : Option Addr) (n cap : Nat) (xs : List It) (id : Int) (w : World) (h : RdS itLay w a n cap xs) :
    Calls Try.prog 108 #[.slice a n cap, .int .i64 id] w fun e w' => e = .returned (.int .i64 (atV id xs 0)) ∧ Below w.heap.size w w' := by
  have hm := h.1.2.2.1
  have hnc := h.1.2.1
  unfold maxLen at hm
  have HR := Lib.hid h
  have HL := Lib.hid h.1.1
  clear h
  go_enter Try.func108, Try.ntmps108
  go_wp2
  go_loopw [5] (fun i wr => ∃ k : Nat, k ≤ n ∧ i = .int .i64 k ∧ atV id xs 0 = atV id (xs.drop k) k ∧ wr = w) (fun i _ => n - (intOf i).toNat)
  case atStart => exact ⟨0, Nat.zero_le _, rfl, rfl, rfl⟩
  case round =>
    obtain ⟨k, hk, rfl, hA, rfl⟩ := hrel
    have HA := Lib.hid hA
    clear hA
    by_cases hlt : k < n
    · obtain ⟨b, off, x, rfl, hbl, hx, d0, d1, d2, d3, d4⟩ := rdIt_at HR.out hlt
      have HX := Lib.hid hx
      have z0 : (0 : Int) ≤ k := by omega
      have z1 : (k : Int) < n := by omega
      clear hx
      by_cases h : x.id = id
      · have hr := Lib.hid (HA.out.trans (atV_yes id HX.out h))
        have h' : (x.id == id) = true := by simpa using h
        clear h
        go_wp2
        go_ret
        exact ⟨ret_i64' hr.out.symm, Below.refl _ _⟩
      · have hr := Lib.hid (HA.out.trans (atV_no id HX.out h))
        have h' : (x.id == id) = false := by simpa using h
        clear h
        go_wp2
        go_roundw
        case rel => exact ⟨k + 1, by omega, by go_num, hr.out, by trivial⟩
        case measure => simp [intOf]; omega
    · have hr : Hid (atV id xs 0 = -1) := by
        obtain rfl : k = n := by omega
        exact HA.out.trans (atV_end xs k id (by rw [HL.out]; exact Nat.le_refl _))
      go_wp2
      go_ret
      exact ⟨ret_i64' hr.out.symm, Below.refl _ _⟩
end Go.Proofs.Ytnebhbnogmhbgaa
