/- The program's SameItems: the library's Equal. -/
import Derived.Test.YtfefggcfeppeiaaGreatQLooksf
namespace Go.Proofs.YtfefggcfeppeiaaGreat
open Go.RowKit

set_option maxRecDepth 100000 in
set_option maxHeartbeats 800000 in
theorem iEqual_any (a a' : Option Addr) (n n' cap cap' : Nat) (xs ys : List It) (w : World) (h : RdS itLay w a n cap xs) (h' : RdS itLay w a' n' cap' ys) :
    Calls Tryz.prog 36 #[.slice a n cap, .slice a' n' cap'] w fun e w' => e = .returned (.bool (sameV xs ys)) ∧ Below w.heap.size w w' := by
  have hm := h.1.2.2.1
  have hnc := h.1.2.1
  have hm' := h'.1.2.2.1
  have hnc' := h'.1.2.1
  unfold maxLen at hm hm'
  have HR := Lib.hid h
  have HL := Lib.hid h.1.1
  have HR' := Lib.hid h'
  have HL' := Lib.hid h'.1.1
  clear h h'
  by_cases hlen : n = n'
  · subst hlen
    go_enter Tryz.func36, Tryz.ntmps36
    go_wp2
    go_loopw [13] (fun i wr => ∃ k : Nat, k ≤ n ∧ i = .int .i64 k ∧ Hid (∀ (j : Nat) (x y : It), j < k → xs[j]? = some x → ys[j]? = some y → itEq x y = true) ∧ Below w.heap.size w wr) (fun i _ => n - (intOf i).toNat)
    case atStart => exact ⟨0, Nat.zero_le _, rfl, Lib.hid (fun j x y hj => by omega), Below.refl _ _⟩
    case round =>
      obtain ⟨k, hk, rfl, HA, hB⟩ := hrel
      by_cases hlt : k < n
      · obtain ⟨b, off, x, rfl, hbl, hx, d0, d1, d2, d3, d4⟩ := rdIt_at (HR.out.below hB) hlt
        obtain ⟨b', off', y, rfl, hbl', hy, p0, p1, p2, p3, p4⟩ := rdIt_at (HR'.out.below hB) hlt
        have HX := Lib.hid hx
        have HY := Lib.hid hy
        have z0 : (0 : Int) ≤ k := by omega
        have z1 : (k : Int) < n := by omega
        clear hx hy
        cases he : itEq x y with
        | true =>
          have hr : ∀ V, _ = _ := fun V => neItem_run x y V
          rw [he] at hr
          simp only [Bool.not_true] at hr
          have HS : Hid (∀ (j : Nat) (x y : It), j < k + 1 → xs[j]? = some x → ys[j]? = some y → itEq x y = true) := Lib.hid (fun j x' y' hj h1 h2 => by
            by_cases hjk : j < k
            · exact HA.out j x' y' hjk h1 h2
            · obtain rfl : j = k := by omega
              rw [HX.out] at h1
              rw [HY.out] at h2
              obtain rfl : x = x' := by simpa using h1
              obtain rfl : y = y' := by simpa using h2
              exact he)
          clear he
          go_wp2
          go_region_with (fail)
          all_goals
            go_wp2
            go_roundw
            case rel => exact ⟨k + 1, by omega, by go_num, HS, by first | exact hB | exact hB.drew⟩
            case measure => simp [intOf]; omega
        | false =>
          have hr : ∀ V, _ = _ := fun V => neItem_run x y V
          rw [he] at hr
          simp only [Bool.not_false] at hr
          have HF := Lib.hid (sameV_no HX.out HY.out he)
          clear he
          go_wp2
          go_region_with (fail)
          all_goals
            go_wp2
            go_ret
            exact ⟨ret_bool HF.out.symm, by first | exact hB | exact hB.drew⟩
      · have HF : Hid (sameV xs ys = true) := by
          obtain rfl : k = n := by omega
          exact Lib.hid (sameV_end (by rw [HL.out, HL'.out]) (fun j x y hj h1 h2 => HA.out j x y (by rw [← HL.out]; exact hj) h1 h2))
        go_wp2
        go_ret
        exact ⟨ret_bool HF.out.symm, hB⟩
  · have HF : Hid (sameV xs ys = false) := Lib.hid (sameV_len (by rw [HL.out, HL'.out]; exact hlen))
    have hne : ((n : Int) != (n' : Int)) = true := by rw [bne_iff_ne]; omega
    clear hlen
    go_enter Tryz.func36, Tryz.ntmps36
    go_wp2
    go_ret
    exact ⟨ret_bool HF.out.symm, Below.refl _ _⟩

set_option maxRecDepth 100000 in
set_option maxHeartbeats 400000 in
theorem iSameItems_any (a a' : Option Addr) (n n' cap cap' : Nat) (xs ys : List It) (w : World) (h : RdS itLay w a n cap xs) (h' : RdS itLay w a' n' cap' ys) :
    Calls Tryz.prog 13 #[.slice a n cap, .slice a' n' cap'] w fun e w' => e = .returned (.bool (sameV xs ys)) ∧ Below w.heap.size w w' := by
  have C := Lib.hid (iEqual_any a a' n n' cap cap' xs ys w h h')
  clear h h'
  go_enter Tryz.func13, Tryz.ntmps13
  go_wp2_with fail
  refine C.out.mono ?_
  rintro e w1 ⟨rfl, hb⟩
  go_wp2
  go_ret
  exact ⟨rfl, hb⟩
end Go.Proofs.YtfefggcfeppeiaaGreat
