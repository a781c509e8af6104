/- Whether two slices hold the same items. -/
import Derived.Test.YtgjbngfcllanmaaDoorItemAt
namespace Go.Proofs.YtgjbngfcllanmaaDoor
open Go.RowKit

theorem neItem_run (a b : It) (w : World) :
    (binOp .neq 30 (.agg #[.int .i64 a.id, .int .i64 a.x0, .int .i64 a.y0, .int .i64 a.x1, .int .i64 a.y1]) (.agg #[.int .i64 b.id, .int .i64 b.x0, .int .i64 b.y0, .int .i64 b.x1, .int .i64 b.y1])).run Tryd.prog w = .ok (.bool (!itEq a b)) w := by
  obtain ⟨i, x0, y0, x1, y1⟩ := a
  obtain ⟨j, u0, v0, u1, v1⟩ := b
  unfold itEq boxEq
  by_cases h : i = j
  · by_cases h0 : x0 = u0
    · by_cases h1 : y0 = v0
      · by_cases h2 : x1 = u1
        · by_cases h3 : y1 = v1
          all_goals go_simp
        · go_simp
      · go_simp
    · go_simp
  · go_simp

def sameV (xs ys : List It) : Bool := xs.length == ys.length && (xs.zip ys).all fun p => itEq p.1 p.2
theorem sameV_len {xs ys : List It} (h : xs.length ≠ ys.length) : sameV xs ys = false := by unfold sameV; simp [h]
theorem sameV_iff (xs ys : List It) : sameV xs ys = true ↔ xs = ys := by
  unfold sameV
  induction xs generalizing ys with
  | nil => cases ys <;> simp
  | cons x l ih =>
    cases ys with
    | nil => simp
    | cons y m =>
      have := ih m
      simp only [List.length_cons, List.zip_cons_cons, List.all_cons, Bool.and_eq_true, beq_iff_eq, Nat.add_right_cancel_iff, List.cons.injEq, itEq_iff] at this ⊢
      rw [← this]
      constructor
      · rintro ⟨a, b, c⟩; exact ⟨b, a, c⟩
      · rintro ⟨b, a, c⟩; exact ⟨a, b, c⟩
theorem sameV_no {xs ys : List It} {k : Nat} {x y : It} (hx : xs[k]? = some x) (hy : ys[k]? = some y) (h : itEq x y = false) : sameV xs ys = false := by
  rw [Bool.eq_false_iff]
  intro h'
  have := (sameV_iff xs ys).1 h'
  subst this
  rw [hx] at hy
  obtain rfl : x = y := by simpa using hy
  rw [itEq_self] at h
  cases h
theorem sameV_end {xs ys : List It} (hl : xs.length = ys.length) (h : ∀ (k : Nat) (x y : It), k < xs.length → xs[k]? = some x → ys[k]? = some y → itEq x y = true) : sameV xs ys = true := by
  rw [sameV_iff]
  apply List.ext_getElem? 
  intro k
  by_cases hk : k < xs.length
  · have h1 : xs[k]? = some xs[k] := List.getElem?_eq_getElem hk
    have h2 : ys[k]? = some (ys[k]'(by omega)) := List.getElem?_eq_getElem _
    have := (itEq_iff _ _).1 (h k _ _ hk h1 h2)
    rw [h1, h2, this]
  · rw [List.getElem?_eq_none (by omega), List.getElem?_eq_none (by omega)]

set_option maxHeartbeats 800000 in
theorem sSameItems_any (a a' : Option Addr) (n n' cap cap' : Nat) (xs ys : List It) (w : World) (h : RdS itLay w a n cap xs) (h' : RdS itLay w a' n' cap' ys) :
    Calls Tryd.prog 26 #[.slice a n cap, .slice a' n' cap'] w fun e w' => e = .returned (.bool (sameV xs ys)) ∧ Below w.heap.size w w' := by
  have hm := h.1.2.2.1
  have hnc := h.1.2.1
  have hm' := h'.1.2.2.1
  have hnc' := h'.1.2.1
  unfold maxLen at hm hm'
  have HR := Lib.hid h
  have HL := Lib.hid h.1.1
  have HR' := Lib.hid h'
  have HL' := Lib.hid h'.1.1
  clear h h'
  by_cases hlen : n = n'
  · subst hlen
    go_enter Tryd.func26, Tryd.ntmps26
    go_wp2
    go_loopw [5] (fun i wr => ∃ k : Nat, k ≤ n ∧ i = .int .i64 k ∧ Hid (∀ (j : Nat) (x y : It), j < k → xs[j]? = some x → ys[j]? = some y → itEq x y = true) ∧ Below w.heap.size w wr) (fun i _ => n - (intOf i).toNat)
    case atStart => exact ⟨0, Nat.zero_le _, rfl, Lib.hid (fun j x y hj => by omega), Below.refl _ _⟩
    case round =>
      obtain ⟨k, hk, rfl, HA, hB⟩ := hrel
      by_cases hlt : k < n
      · obtain ⟨b, off, x, rfl, hbl, hx, d0, d1, d2, d3, d4⟩ := rdIt_at (HR.out.below hB) hlt
        obtain ⟨b', off', y, rfl, hbl', hy, p0, p1, p2, p3, p4⟩ := rdIt_at (HR'.out.below hB) hlt
        have HX := Lib.hid hx
        have HY := Lib.hid hy
        have z0 : (0 : Int) ≤ k := by omega
        have z1 : (k : Int) < n := by omega
        clear hx hy
        cases he : itEq x y with
        | true =>
          have hr : ∀ V, _ = _ := fun V => neItem_run x y V
          rw [he] at hr
          simp only [Bool.not_true] at hr
          have HS : Hid (∀ (j : Nat) (x y : It), j < k + 1 → xs[j]? = some x → ys[j]? = some y → itEq x y = true) := Lib.hid (fun j x' y' hj h1 h2 => by
            by_cases hjk : j < k
            · exact HA.out j x' y' hjk h1 h2
            · obtain rfl : j = k := by omega
              rw [HX.out] at h1
              rw [HY.out] at h2
              obtain rfl : x = x' := by simpa using h1
              obtain rfl : y = y' := by simpa using h2
              exact he)
          clear he
          go_wp2
          go_region_with (fail)
          all_goals
            go_wp2
            go_roundw
            case rel => exact ⟨k + 1, by omega, by go_num, HS, by first | exact hB | exact hB.drew⟩
            case measure => simp [intOf]; omega
        | false =>
          have hr : ∀ V, _ = _ := fun V => neItem_run x y V
          rw [he] at hr
          simp only [Bool.not_false] at hr
          have HF := Lib.hid (sameV_no HX.out HY.out he)
          clear he
          go_wp2
          go_region_with (fail)
          all_goals
            go_wp2
            go_ret
            exact ⟨ret_bool HF.out.symm, by first | exact hB | exact hB.drew⟩
      · have HF : Hid (sameV xs ys = true) := by
          obtain rfl : k = n := by omega
          exact Lib.hid (sameV_end (by rw [HL.out, HL'.out]) (fun j x y hj h1 h2 => HA.out j x y (by rw [← HL.out]; exact hj) h1 h2))
        go_wp2
        go_ret
        exact ⟨ret_bool HF.out.symm, hB⟩
  · have HF : Hid (sameV xs ys = false) := Lib.hid (sameV_len (by rw [HL.out, HL'.out]; exact hlen))
    have hne : ((n : Int) != (n' : Int)) = true := by rw [bne_iff_ne]; omega
    clear hlen
    go_enter Tryd.func26, Tryd.ntmps26
    go_wp2
    go_ret
    exact ⟨ret_bool HF.out.symm, Below.refl _ _⟩
end Go.Proofs.YtgjbngfcllanmaaDoor
