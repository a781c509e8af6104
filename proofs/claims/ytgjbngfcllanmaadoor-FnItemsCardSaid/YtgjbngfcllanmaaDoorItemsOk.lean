/- Whether the items of a slice may be: each valid, no Id twice. -/
import Derived.Test.YtgjbngfcllanmaaDoorItemAt
namespace Go.Proofs.YtgjbngfcllanmaaDoor
open Go.RowKit

def okAt (xs : List It) (x : It) (k : Int) : Bool := itOk x.id x.x0 x.y0 x.x1 x.y1 && atV x.id xs 0 == k
def okAll (xs : List It) : List It → Int → Bool
  | [], _ => true
  | x :: l, k => okAt xs x k && okAll xs l (k + 1)
theorem okAll_no {xs : List It} {k : Nat} {x : It} (hx : xs[k]? = some x) (h : okAt xs x k = false) : okAll xs (xs.drop k) k = false := by rw [drop_at hx, okAll, h]; rfl
theorem okAll_yes {xs : List It} {k : Nat} {x : It} (hx : xs[k]? = some x) (h : okAt xs x k = true) : okAll xs (xs.drop k) k = okAll xs (xs.drop (k + 1)) ((k + 1 : Nat) : Int) := by rw [drop_at hx, okAll, h]; simp
theorem okAll_end (xs : List It) (n : Nat) (h : xs.length ≤ n) : okAll xs (xs.drop n) n = true := by rw [List.drop_eq_nil_of_le h]; rfl

set_option maxHeartbeats 800000 in
theorem sItemsOk_any (a : Option Addr) (n cap : Nat) (xs : List It) (w : World) (h : RdS itLay w a n cap xs) :
    Calls Tryd.prog 25 #[.slice a n cap] w fun e w' => e = .returned (.bool (okAll xs xs 0)) ∧ Below w.heap.size w w' := by
  have hm := h.1.2.2.1
  have hnc := h.1.2.1
  unfold maxLen at hm
  have HR := Lib.hid h
  have HL := Lib.hid h.1.1
  clear h
  go_enter Tryd.func25, Tryd.ntmps25
  go_wp2
  go_loopw [3] (fun i wr => ∃ k : Nat, k ≤ n ∧ i = .int .i64 k ∧ okAll xs xs 0 = okAll xs (xs.drop k) k ∧ Below w.heap.size w wr) (fun i _ => n - (intOf i).toNat)
  case atStart => exact ⟨0, Nat.zero_le _, rfl, rfl, Below.refl _ _⟩
  case round =>
    obtain ⟨k, hk, rfl, hA, hB⟩ := hrel
    have HA := Lib.hid hA
    clear hA
    by_cases hlt : k < n
    · obtain ⟨b, off, x, rfl, hbl, hx, d0, d1, d2, d3, d4⟩ := rdIt_at (HR.out.below hB) hlt
      have HX := Lib.hid hx
      have z0 : (0 : Int) ≤ k := by omega
      have z1 : (k : Int) < n := by omega
      clear hx
      cases h1 : itOk x.id x.x0 x.y0 x.x1 x.y1 with
      | false =>
        replace h1 := Lib.hid h1
        have hr : Hid (okAll xs xs 0 = false) := HA.out.trans (okAll_no HX.out (by unfold okAt; rw [h1.out]; rfl))
        go_wp2_with fail
        refine (sItemOk_any x.id x.x0 x.y0 x.x1 x.y1 _).mono ?_
        rw [h1.out]
        rintro e w1 ⟨rfl, hj⟩
        replace hB := hB.trans (hj.mono hB.size)
        clear hj
        go_wp2
        go_ret
        exact ⟨ret_bool hr.out.symm, hB⟩
      | true =>
        replace h1 := Lib.hid h1
        by_cases h : atV x.id xs 0 = k
        · have h2 := Lib.hid h
          have hr := Lib.hid (HA.out.trans (okAll_yes HX.out (by unfold okAt; rw [h1.out, h]; simp)))
          clear h
          go_wp2_with fail
          refine (sItemOk_any x.id x.x0 x.y0 x.x1 x.y1 _).mono ?_
          rw [h1.out]
          rintro e w1 ⟨rfl, hj⟩
          have s1 := hj.size
          have q0 : w1.cell? ⟨b, off + k * 5, none⟩ = some (.int .i64 x.id) := (hj.cell (p := ⟨b, off + k * 5, none⟩) hbl).trans d0
          replace hB := hB.trans (hj.mono hB.size)
          have hbl1 : b < w1.heap.size := by omega
          clear hj d0 d1 d2 d3 d4
          go_wp2_with fail
          refine (sItemAt_any _ n cap xs x.id _ (HR.out.below hB)).mono ?_
          rw [h2.out]
          rintro e w2 ⟨rfl, hj⟩
          replace hB := hB.trans (hj.mono hB.size)
          clear hj q0
          go_wp2
          go_roundw
          case rel => exact ⟨k + 1, by omega, by go_num, hr.out, hB⟩
          case measure => simp [intOf]; omega
        · obtain ⟨z, hz⟩ : ∃ z, atV x.id xs 0 = z := ⟨_, rfl⟩
          have h2 := Lib.hid hz
          have h3 : (z != (k : Int)) = true := by rw [← hz]; simpa using h
          have hr := Lib.hid (HA.out.trans (okAll_no HX.out (by unfold okAt; rw [h1.out]; simpa using h)))
          clear h hz
          go_wp2_with fail
          refine (sItemOk_any x.id x.x0 x.y0 x.x1 x.y1 _).mono ?_
          rw [h1.out]
          rintro e w1 ⟨rfl, hj⟩
          have s1 := hj.size
          have q0 : w1.cell? ⟨b, off + k * 5, none⟩ = some (.int .i64 x.id) := (hj.cell (p := ⟨b, off + k * 5, none⟩) hbl).trans d0
          replace hB := hB.trans (hj.mono hB.size)
          have hbl1 : b < w1.heap.size := by omega
          clear hj d0 d1 d2 d3 d4
          go_wp2_with fail
          refine (sItemAt_any _ n cap xs x.id _ (HR.out.below hB)).mono ?_
          rw [h2.out]
          rintro e w2 ⟨rfl, hj⟩
          replace hB := hB.trans (hj.mono hB.size)
          clear hj q0
          go_wp2
          go_ret
          exact ⟨ret_bool hr.out.symm, hB⟩
    · have hr : Hid (okAll xs xs 0 = true) := by
        obtain rfl : k = n := by omega
        exact HA.out.trans (okAll_end xs k (by rw [HL.out]; exact Nat.le_refl _))
      go_wp2
      go_ret
      exact ⟨ret_bool hr.out.symm, hB⟩
end Go.Proofs.YtgjbngfcllanmaaDoor
