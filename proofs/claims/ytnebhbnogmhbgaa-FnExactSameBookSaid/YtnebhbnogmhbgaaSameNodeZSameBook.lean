/- Whether two nodes are the same. -/
import Derived.Test.YtnebhbnogmhbgaaSameItemsZSameBook
import Derived.Test.YtnebhbnogmhbgaaNodeZSameBook
import Derived.BigQuiet
namespace Go.Proofs.Ytnebhbnogmhbgaa
open Go.RowKit

theorem neEntry_run (a b : It) (w : World) :
    (binOp .neq 91 (.agg #[.int .i64 a.id, .int .i64 a.x0, .int .i64 a.y0, .int .i64 a.x1, .int .i64 a.y1]) (.agg #[.int .i64 b.id, .int .i64 b.x0, .int .i64 b.y0, .int .i64 b.x1, .int .i64 b.y1])).run Try.prog w = .ok (.bool (!itEq a b)) w := by
  obtain ⟨i, x0, y0, x1, y1⟩ := a
  obtain ⟨j, u0, v0, u1, v1⟩ := b
  unfold itEq boxEq
  by_cases h : i = j
  · by_cases h0 : x0 = u0
    · by_cases h1 : y0 = v0
      · by_cases h2 : x1 = u1
        · by_cases h3 : y1 = v1
          all_goals go_simp
        · go_simp
      · go_simp
    · go_simp
  · go_simp


set_option maxRecDepth 100000 in
set_option maxHeartbeats 1600000 in
theorem sSameNode_any (c d : Bool) (a a' : Option Addr) (n n' cap cap' : Nat) (xs ys : List It) (w : World) (h : RdS itLay w a n cap xs) (h' : RdS itLay w a' n' cap' ys) :
    Calls Try.prog 69 #[.agg #[.bool c, .slice a n cap], .agg #[.bool d, .slice a' n' cap']] w fun e w' => e = .returned (.bool ((c == d) && sameV xs ys)) ∧ Below w.heap.size w w' := by
  have hm := h.1.2.2.1
  have hnc := h.1.2.1
  have hm' := h'.1.2.2.1
  have hnc' := h'.1.2.1
  unfold maxLen at hm hm'
  have HR := Lib.hid h
  have HL := Lib.hid h.1.1
  have HR' := Lib.hid h'
  have HL' := Lib.hid h'.1.1
  clear h h'
  obtain ⟨W0, hW0⟩ : ∃ W0, W0 = ((w.alloc (.cells #[.bool c, .slice a n cap] 32)).alloc (.cells #[.bool d, .slice a' n' cap'] 32)) := ⟨_, rfl⟩
  have B0 : Below w.heap.size w W0 := by rw [hW0]; exact ((Below.refl _ _).alloc (Nat.le_refl _) _).alloc (by simp) _
  have K := blk_alloc (.cells #[.bool d, .slice a' n' cap'] 32) (by simp) _ _ (blk_new w #[.bool c, .slice a n cap] 32)
  have J := blk_new1 w (.cells #[.bool c, .slice a n cap] 32) #[.bool d, .slice a' n' cap'] 32
  rw [← hW0] at K J
  have hS0 : W0.heap.size = w.heap.size + 2 := by rw [hW0]; simp
  replace K := Lib.hid K
  replace J := Lib.hid J
  by_cases hcd : c = d
  · subst hcd
    have hcc : Hid (((c == c) && sameV xs ys) = sameV xs ys) := by show _ = _; cases c <;> rfl
    by_cases hlen : n = n'
    · subst hlen
      go_enter Try.func69, Try.ntmps69
      go_wp2
      rw [← hW0]
      go_loopw [5] (fun i wr => ∃ k : Nat, k ≤ n ∧ i = .int .i64 k ∧ Hid (∀ (j : Nat) (x y : It), j < k → xs[j]? = some x → ys[j]? = some y → itEq x y = true) ∧ Below W0.heap.size W0 wr) (fun i _ => n - (intOf i).toNat)
      case atStart => exact ⟨0, Nat.zero_le _, rfl, Lib.hid (fun j x y hj => by omega), Below.refl _ _⟩
      case round =>
        obtain ⟨k, hk, rfl, HA, hB⟩ := hrel
        have hBw := B0.trans (hB.mono B0.size)
        obtain ⟨k0, -⟩ := below_keep hB (by omega) _ _ K.out
        obtain ⟨j0, -⟩ := below_keep hB (by omega) _ _ J.out
        by_cases hlt : k < n
        · obtain ⟨b, off, x, rfl, hbl, hx, d0, d1, d2, d3, d4⟩ := rdIt_at (HR.out.below hBw) hlt
          obtain ⟨b', off', y, rfl, hbl', hy, p0, p1, p2, p3, p4⟩ := rdIt_at (HR'.out.below hBw) hlt
          have HX := Lib.hid hx
          have HY := Lib.hid hy
          have z0 : (0 : Int) ≤ k := by omega
          have z1 : (k : Int) < n := by omega
          clear hx hy
          cases he : itEq x y with
          | true =>
            have hr : ∀ V, _ = _ := fun V => neEntry_run x y V
            rw [he] at hr
            simp only [Bool.not_true] at hr
            have HS : Hid (∀ (j : Nat) (x y : It), j < k + 1 → xs[j]? = some x → ys[j]? = some y → itEq x y = true) := Lib.hid (fun j x' y' hj h1 h2 => by
              by_cases hjk : j < k
              · exact HA.out j x' y' hjk h1 h2
              · obtain rfl : j = k := by omega
                rw [HX.out] at h1
                rw [HY.out] at h2
                obtain rfl : x = x' := by simpa using h1
                obtain rfl : y = y' := by simpa using h2
                exact he)
            clear he
            go_wp2_with fail
            go_quiet (fail)
            go_wp2
            go_roundw
            case rel => exact ⟨k + 1, by omega, by go_num, HS, below_drewN hB _⟩
            case measure => simp [intOf]; omega
          | false =>
            have hr : ∀ V, _ = _ := fun V => neEntry_run x y V
            rw [he] at hr
            simp only [Bool.not_false] at hr
            have HF := Lib.hid (hcc.out.trans (sameV_no HX.out HY.out he))
            clear he
            go_wp2_with fail
            go_quiet (fail)
            go_wp2
            go_ret
            exact ⟨ret_bool HF.out.symm, below_drewN hBw _⟩
        · have HF : Hid (((c == c) && sameV xs ys) = true) := by
            obtain rfl : k = n := by omega
            exact Lib.hid (hcc.out.trans (sameV_end (by rw [HL.out, HL'.out]) (fun j x y hj h1 h2 => HA.out j x y (by rw [← HL.out]; exact hj) h1 h2)))
          go_wp2
          go_ret
          exact ⟨ret_bool HF.out.symm, hBw⟩
    · have HF : Hid (((c == c) && sameV xs ys) = false) := Lib.hid (hcc.out.trans (sameV_len (by rw [HL.out, HL'.out]; exact hlen)))
      have hne : ((n : Int) != (n' : Int)) = true := by rw [bne_iff_ne]; omega
      clear hlen
      go_enter Try.func69, Try.ntmps69
      go_wp2
      go_ret
      exact ⟨ret_bool HF.out.symm, hW0 ▸ B0⟩
  · cases c with
    | true =>
      cases d with
      | true => exact absurd rfl hcd
      | false =>
        clear hcd
        go_enter Try.func69, Try.ntmps69
        go_wp2
        go_ret
        exact ⟨rfl, hW0 ▸ B0⟩
    | false =>
      cases d with
      | false => exact absurd rfl hcd
      | true =>
        clear hcd
        go_enter Try.func69, Try.ntmps69
        go_wp2
        go_ret
        exact ⟨rfl, hW0 ▸ B0⟩
end Go.Proofs.Ytnebhbnogmhbgaa
