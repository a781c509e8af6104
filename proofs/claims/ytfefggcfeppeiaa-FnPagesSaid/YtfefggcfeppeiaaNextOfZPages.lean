/- The model's Pull and NextOf. -/
import Derived.Test.YtfefggcfeppeiaaQPagesd
namespace Go.Proofs.Ytfefggcfeppeiaa
open Go.RowKit
attribute [local go_sem ↓] Go.wp_at_zero Go.wp_at_succ

def pullO (a b r : Bx) : Int := growO a r - growO b r
def absI (n : Int) : Int := if n < 0 then -n else n
theorem pullO_bd (a b r : Bx) : -131072 ≤ pullO a b r ∧ pullO a b r ≤ 131072 := by
  have h1 := growO_bd a r
  have h2 := growO_bd b r
  unfold pullO
  omega

set_option maxRecDepth 100000 in
set_option maxHeartbeats 800000 in
theorem sPull_any (a b r : Bx) (w : World) : Calls Try.prog 160 #[.agg #[.int .i64 a.x0, .int .i64 a.y0, .int .i64 a.x1, .int .i64 a.y1], .agg #[.int .i64 b.x0, .int .i64 b.y0, .int .i64 b.x1, .int .i64 b.y1], .agg #[.int .i64 r.x0, .int .i64 r.y0, .int .i64 r.x1, .int .i64 r.y1]] w fun e w' => e = .returned (.int .i64 (pullO a b r)) ∧ Below w.heap.size w w' := by
  obtain ⟨W0, hW0⟩ : ∃ W0, W0 = ((w.alloc (.cells #[.int .i64 a.x0, .int .i64 a.y0, .int .i64 a.x1, .int .i64 a.y1] 61)).alloc (.cells #[.int .i64 b.x0, .int .i64 b.y0, .int .i64 b.x1, .int .i64 b.y1] 61)).alloc (.cells #[.int .i64 r.x0, .int .i64 r.y0, .int .i64 r.x1, .int .i64 r.y1] 61) := ⟨_, rfl⟩
  have bw0 : Below w.heap.size w W0 := by subst hW0; exact (((Below.refl _ _).alloc (Nat.le_refl _) _).alloc (by simp) _).alloc (by simp; omega) _
  have KA : Loc W0 w.heap.size #[.int .i64 a.x0, .int .i64 a.y0, .int .i64 a.x1, .int .i64 a.y1] := by subst hW0; exact ((Loc.new w _ _).alloc _).alloc _
  have KB : Loc W0 (w.heap.size + 1) #[.int .i64 b.x0, .int .i64 b.y0, .int .i64 b.x1, .int .i64 b.y1] := by
    subst hW0
    have := (Loc.new (w.alloc (.cells #[.int .i64 a.x0, .int .i64 a.y0, .int .i64 a.x1, .int .i64 a.y1] 61)) #[.int .i64 b.x0, .int .i64 b.y0, .int .i64 b.x1, .int .i64 b.y1] 61).alloc (.cells #[.int .i64 r.x0, .int .i64 r.y0, .int .i64 r.x1, .int .i64 r.y1] 61)
    rw [show (w.alloc (.cells #[.int .i64 a.x0, .int .i64 a.y0, .int .i64 a.x1, .int .i64 a.y1] 61)).heap.size = w.heap.size + 1 by simp] at this
    exact this
  have KR : Loc W0 (w.heap.size + 1 + 1) #[.int .i64 r.x0, .int .i64 r.y0, .int .i64 r.x1, .int .i64 r.y1] := by
    subst hW0
    have := Loc.new ((w.alloc (.cells #[.int .i64 a.x0, .int .i64 a.y0, .int .i64 a.x1, .int .i64 a.y1] 61)).alloc (.cells #[.int .i64 b.x0, .int .i64 b.y0, .int .i64 b.x1, .int .i64 b.y1] 61)) #[.int .i64 r.x0, .int .i64 r.y0, .int .i64 r.x1, .int .i64 r.y1] 61
    rw [show ((w.alloc (.cells #[.int .i64 a.x0, .int .i64 a.y0, .int .i64 a.x1, .int .i64 a.y1] 61)).alloc (.cells #[.int .i64 b.x0, .int .i64 b.y0, .int .i64 b.x1, .int .i64 b.y1] 61)).heap.size = w.heap.size + 1 + 1 by simp] at this
    exact this
  have a0 := cellq (KA.2.1 0)
  have a1 := cellq (KA.2.1 1)
  have a2 := cellq (KA.2.1 2)
  have a3 := cellq (KA.2.1 3)
  have b0 := cellq (KB.2.1 0)
  have b1 := cellq (KB.2.1 1)
  have b2 := cellq (KB.2.1 2)
  have b3 := cellq (KB.2.1 3)
  have r0 := cellq (KR.2.1 0)
  have r1 := cellq (KR.2.1 1)
  have r2 := cellq (KR.2.1 2)
  have r3 := cellq (KR.2.1 3)
  obtain ⟨ga, hga⟩ : ∃ g, growO a r = g := ⟨_, rfl⟩
  obtain ⟨gb, hgb⟩ : ∃ g, growO b r = g := ⟨_, rfl⟩
  have d1 := growO_bd a r
  have d2 := growO_bd b r
  rw [hga] at d1
  rw [hgb] at d2
  have hv : Hid (pullO a b r = ga - gb) := Lib.hid (by unfold pullO; rw [hga, hgb])
  have hw1 : wrap64 (ga - gb) = ga - gb := by rw [← IntWalk.i64_left, IntKind.wrap_i64]; omega
  have C1 := Lib.hid (fun (W : World) d os => callr (w := W) (d := d) (os := os) (hga ▸ sGrowthO a r _))
  have C2 := Lib.hid (fun (W : World) d os => callr (w := W) (d := d) (os := os) (hgb ▸ sGrowthO b r _))
  clear hga hgb
  go_enter Try.func160, Try.ntmps160
  go_wp2_with fail
  rw [← hW0]
  clear hW0
  refine wp_region_quiet_below (by kernel_rfl) (by kernel_rfl) ?_
  repeat (go_big_quiet_step (first | (with_reducible exact C1.out _ _ _) | (with_reducible exact C2.out _ _ _)))
  refine wpQuiet_nil (quiet_end fun w2 b2' => ?_)
  go_wp2
  go_ret
  exact ⟨ret_i64' hv.out.symm, bw0.trans (b2'.mono bw0.size)⟩

set_option maxRecDepth 100000 in
set_option maxHeartbeats 400000 in
theorem l9Abs_any (n : Int) (w : World) (h : -9223372036854775808 < n ∧ n ≤ 9223372036854775807) : Calls Try.prog 159 #[.int .i64 n] w fun e w' => e = .returned (.int .i64 (absI n)) ∧ Below w.heap.size w w' := by
  by_cases h0 : n < 0
  · have hv : Hid (absI n = -n) := Lib.hid (if_pos h0)
    have hw : wrap64 (-n) = -n := by rw [← IntWalk.i64_left, IntKind.wrap_i64]; omega
    go_enter Try.func159, Try.ntmps159
    go_wp2
    go_ret
    exact ⟨ret_i64' hv.out.symm, Below.refl _ _⟩
  · have hv : Hid (absI n = n) := Lib.hid (if_neg h0)
    go_enter Try.func159, Try.ntmps159
    go_wp2
    go_ret
    exact ⟨ret_i64' hv.out.symm, Below.refl _ _⟩

def nextS (xs : List It) (a b : Bx) (best : Int) (i : Nat) : Int := if best < 0 ∨ absI (pullO a b (boxI xs i)) > absI (pullO a b (boxOf (getI xs best))) then i else best
def nextV (xs : List It) (a b : Bx) : Int := (List.range xs.length).foldl (nextS xs a b) (-1)
theorem next_range (xs : List It) (a b : Bx) : ∀ k : Nat, (-1 ≤ (List.range k).foldl (nextS xs a b) (-1) ∧ (List.range k).foldl (nextS xs a b) (-1) < (k : Int)) ∧ (0 < k → 0 ≤ (List.range k).foldl (nextS xs a b) (-1))
  | 0 => by simp
  | k + 1 => by
    have h := next_range xs a b k
    rw [List.range_succ, List.foldl_append]
    generalize (List.range k).foldl (nextS xs a b) (-1) = z at h
    show (-1 ≤ nextS xs a b z k ∧ nextS xs a b z k < ((k + 1 : Nat) : Int)) ∧ (0 < k + 1 → 0 ≤ nextS xs a b z k)
    unfold nextS
    split <;> omega
theorem nextV_range (xs : List It) (a b : Bx) (h : xs ≠ []) : 0 ≤ nextV xs a b ∧ nextV xs a b < (xs.length : Int) := by
  have h1 := next_range xs a b xs.length
  have h2 : 0 < xs.length := List.length_pos_iff.2 h
  exact ⟨h1.2 h2, h1.1.2⟩
theorem sPullI (a b : Bx) (x : It) (w : World) : Calls Try.prog 160 #[.agg #[.int .i64 a.x0, .int .i64 a.y0, .int .i64 a.x1, .int .i64 a.y1], .agg #[.int .i64 b.x0, .int .i64 b.y0, .int .i64 b.x1, .int .i64 b.y1], .agg #[.int .i64 x.x0, .int .i64 x.y0, .int .i64 x.x1, .int .i64 x.y1]] w fun e w' => e = .returned (.int .i64 (pullO a b (boxOf x))) ∧ Below w.heap.size w w' := sPull_any a b (boxOf x) w

set_option maxRecDepth 100000 in
set_option maxHeartbeats 3200000 in
theorem sNextOf_any (la : Option Addr) (n cap : Nat) (xs : List It) (a b : Bx) (w : World) (h : RdS itLay w la n cap xs) :
    Calls Try.prog 155 #[.slice la n cap, .agg #[.int .i64 a.x0, .int .i64 a.y0, .int .i64 a.x1, .int .i64 a.y1], .agg #[.int .i64 b.x0, .int .i64 b.y0, .int .i64 b.x1, .int .i64 b.y1]] w fun e w' => e = .returned (.int .i64 (nextV xs a b)) ∧ Below w.heap.size w w' := by
  have hm := h.1.2.2.1
  have hnc := h.1.2.1
  unfold maxLen at hm
  have HL := Lib.hid h.1.1
  obtain ⟨W0, hW0⟩ : ∃ W0, W0 = (w.alloc (.cells #[.int .i64 a.x0, .int .i64 a.y0, .int .i64 a.x1, .int .i64 a.y1] 61)).alloc (.cells #[.int .i64 b.x0, .int .i64 b.y0, .int .i64 b.x1, .int .i64 b.y1] 61) := ⟨_, rfl⟩
  have b0 : Below w.heap.size w W0 := by subst hW0; exact ((Below.refl _ _).alloc (Nat.le_refl _) _).alloc (by simp) _
  have KA : Hid (Loc W0 w.heap.size #[.int .i64 a.x0, .int .i64 a.y0, .int .i64 a.x1, .int .i64 a.y1]) := by subst hW0; exact Lib.hid ((Loc.new w _ _).alloc _)
  have KB : Hid (Loc W0 (w.heap.size + 1) #[.int .i64 b.x0, .int .i64 b.y0, .int .i64 b.x1, .int .i64 b.y1]) := by
    subst hW0
    have := Loc.new (w.alloc (.cells #[.int .i64 a.x0, .int .i64 a.y0, .int .i64 a.x1, .int .i64 a.y1] 61)) #[.int .i64 b.x0, .int .i64 b.y0, .int .i64 b.x1, .int .i64 b.y1] 61
    rw [show (w.alloc (.cells #[.int .i64 a.x0, .int .i64 a.y0, .int .i64 a.x1, .int .i64 a.y1] 61)).heap.size = w.heap.size + 1 by simp] at this
    exact Lib.hid this
  have HR := Lib.hid (h.below b0)
  have bw0 := Lib.hid b0
  clear b0
  clear h
  go_enter Try.func155, Try.ntmps155
  go_wp2_with fail
  rw [← hW0]
  clear hW0
  go_wp2
  go_loopw [7, 8] (fun v i wr => ∃ (k : Nat) (z : Int), k ≤ n ∧ v = .int .i64 z ∧ i = .int .i64 (k : Int) ∧ Hid (z = (List.range k).foldl (nextS xs a b) (-1)) ∧ -1 ≤ z ∧ z < k ∧ (0 < k → 0 ≤ z) ∧ Hid (Below W0.heap.size W0 wr)) (fun _ i _ => n - (intOf i).toNat)
  case atStart => exact ⟨0, -1, Nat.zero_le _, rfl, rfl, Lib.hid rfl, by omega, by omega, fun h => by omega, Lib.hid (Below.refl _ _)⟩
  case round =>
    obtain ⟨k, z, hk, rfl, rfl, HA, hb0, hb1, hb2, HB⟩ := hrel
    have K1 := KA.out.below HB.out
    have K2 := KB.out.below HB.out
    have a0 := K1.2.1 0
    have a1 := K1.2.1 1
    have a2 := K1.2.1 2
    have a3 := K1.2.1 3
    have b0 := K2.2.1 0
    have b1 := K2.2.1 1
    have b2 := K2.2.1 2
    have b3 := K2.2.1 3
    by_cases hlt : k < n
    · have hstep : (List.range (k + 1)).foldl (nextS xs a b) (-1) = nextS xs a b z k := by
        rw [List.range_succ, List.foldl_append, ← HA.out]
        rfl
      have z1 : (k : Int) < n := by omega
      have z4 : (0 : Int) ≤ k := by omega
      obtain ⟨bb, off, x, rfl, hbl, hx, d0, d1, d2, d3, d4⟩ := rdIt_at (HR.out.below HB.out) hlt
      have hX : boxI xs k = boxOf x := by unfold boxI getI; rw [Int.toNat_natCast, hx]; rfl
      by_cases hneg : z < 0
      · have hd1 : decide (z < 0) = true := decide_eq_true hneg
        replace hstep : Hid ((List.range (k + 1)).foldl (nextS xs a b) (-1) = if z < 0 ∨ True then (k : Int) else z) := Lib.hid (by rw [hstep]; unfold nextS; rw [if_pos (.inl hneg), if_pos (.inl hneg)])
        clear hX hx
        go_wp2_with fail
        have qd1 := cellq d1
        refine wp_region_quiet_below (by kernel_rfl) (by kernel_rfl) ?_
        repeat (go_big_quiet_step (fail))
        refine wpQuiet_nil (quiet_end fun w2 b2 => ?_)
        clear qd1
        have HS : Hid ((k : Int) = (List.range (k + 1)).foldl (nextS xs a b) (-1)) := by
          show _ = _
          rw [hstep.out, if_pos (.inl hneg)]
        have BZ := Lib.hid (HB.out.trans (b2.mono HB.out.size))
        clear b2 hstep HB HA
        go_wp2
        go_roundw
        case rel => exact ⟨k + 1, (k : Int), by omega, rfl, by go_num, HS, by omega, by omega, fun _ => by omega, BZ⟩
        case measure => simp [intOf]; omega
      · obtain ⟨j, rfl⟩ := Int.eq_ofNat_of_zero_le (show 0 ≤ z by omega)
        obtain ⟨bb', off', y, ha, _, hy, e0, e1, e2, e3, e4⟩ := rdIt_at (HR.out.below HB.out) (show j < n by omega)
        cases ha
        have hY : getI xs (j : Int) = y := by unfold getI; rw [Int.toNat_natCast, hy]; rfl
        have z2 : (j : Int) < n := by omega
        have z3 : (0 : Int) ≤ j := by omega
        have hd1 : decide ((j : Int) < 0) = false := decide_eq_false hneg
        obtain ⟨s, hs⟩ : ∃ s, pullO a b (boxOf x) = s := ⟨_, rfl⟩
        obtain ⟨q, hq⟩ : ∃ q, pullO a b (boxOf y) = q := ⟨_, rfl⟩
        have s1 := pullO_bd a b (boxOf x)
        have q1 := pullO_bd a b (boxOf y)
        rw [hs] at s1
        rw [hq] at q1
        obtain ⟨s', hs'⟩ : ∃ s', absI s = s' := ⟨_, rfl⟩
        obtain ⟨q', hq'⟩ : ∃ q', absI q = q' := ⟨_, rfl⟩
        have C1 := Lib.hid (fun (W : World) d os => callr (w := W) (d := d) (os := os) (hs ▸ sPullI a b x _))
        have C2 := Lib.hid (fun (W : World) d os => callr (w := W) (d := d) (os := os) (hq ▸ sPullI a b y _))
        have C3 := Lib.hid (fun (W : World) d os => callr (w := W) (d := d) (os := os) (hs' ▸ l9Abs_any s _ (by omega)))
        have C4 := Lib.hid (fun (W : World) d os => callr (w := W) (d := d) (os := os) (hq' ▸ l9Abs_any q _ (by omega)))
        replace hstep : Hid ((List.range (k + 1)).foldl (nextS xs a b) (-1) = if (j : Int) < 0 ∨ s' > q' then (k : Int) else (j : Int)) := Lib.hid (by rw [hstep]; unfold nextS; rw [hX, hY, hs, hq, hs', hq'])
        clear hX hY hx hy hs hq hs' hq' s1 q1
        by_cases h2 : s' > q'
        · have hd2 : decide (s' > q') = true := decide_eq_true h2
          go_wp2_with fail
          have qd1 := cellq d1
          have qd2 := cellq d2
          have qd3 := cellq d3
          have qd4 := cellq d4
          have qe1 := cellq e1
          have qe2 := cellq e2
          have qe3 := cellq e3
          have qe4 := cellq e4
          have qa0 := cellq a0
          have qa1 := cellq a1
          have qa2 := cellq a2
          have qa3 := cellq a3
          have qb0 := cellq b0
          have qb1 := cellq b1
          have qb2 := cellq b2
          have qb3 := cellq b3
          refine wp_region_quiet_below (by kernel_rfl) (by kernel_rfl) ?_
          repeat (go_big_quiet_step (first | (with_reducible exact C1.out _ _ _) | (with_reducible exact C2.out _ _ _) | (with_reducible exact C3.out _ _ _) | (with_reducible exact C4.out _ _ _)))
          refine wpQuiet_nil (quiet_end fun w2 b2 => ?_)
          clear qd1 qd2 qd3 qd4 qe1 qe2 qe3 qe4 qa0 qa1 qa2 qa3 qb0 qb1 qb2 qb3
          have HS : Hid ((k : Int) = (List.range (k + 1)).foldl (nextS xs a b) (-1)) := by
            show _ = _
            rw [hstep.out, if_pos (.inr h2)]
          have BZ := Lib.hid (HB.out.trans (b2.mono HB.out.size))
          clear b2 hstep HB HA
          go_wp2
          go_roundw
          case rel => exact ⟨k + 1, (k : Int), by omega, rfl, by go_num, HS, by omega, by omega, fun _ => by omega, BZ⟩
          case measure => simp [intOf]; omega
        · have hd2 : decide (s' > q') = false := decide_eq_false h2
          go_wp2_with fail
          have qd1 := cellq d1
          have qd2 := cellq d2
          have qd3 := cellq d3
          have qd4 := cellq d4
          have qe1 := cellq e1
          have qe2 := cellq e2
          have qe3 := cellq e3
          have qe4 := cellq e4
          have qa0 := cellq a0
          have qa1 := cellq a1
          have qa2 := cellq a2
          have qa3 := cellq a3
          have qb0 := cellq b0
          have qb1 := cellq b1
          have qb2 := cellq b2
          have qb3 := cellq b3
          refine wp_region_quiet_below (by kernel_rfl) (by kernel_rfl) ?_
          repeat (go_big_quiet_step (first | (with_reducible exact C1.out _ _ _) | (with_reducible exact C2.out _ _ _) | (with_reducible exact C3.out _ _ _) | (with_reducible exact C4.out _ _ _)))
          refine wpQuiet_nil (quiet_end fun w2 b2 => ?_)
          clear qd1 qd2 qd3 qd4 qe1 qe2 qe3 qe4 qa0 qa1 qa2 qa3 qb0 qb1 qb2 qb3
          have HS : Hid ((j : Int) = (List.range (k + 1)).foldl (nextS xs a b) (-1)) := by
            show _ = _
            rw [hstep.out, if_neg (by omega)]
          have BZ := Lib.hid (HB.out.trans (b2.mono HB.out.size))
          clear b2 hstep HB HA
          go_wp2
          go_roundw
          case rel => exact ⟨k + 1, (j : Int), by omega, rfl, by go_num, HS, by omega, by omega, fun _ => by omega, BZ⟩
          case measure => simp [intOf]; omega
    · obtain rfl : k = n := by omega
      have hr : Hid (nextV xs a b = z) := by
        show _ = z
        unfold nextV
        rw [HL.out, ← HA.out]
      go_wp2
      go_ret
      exact ⟨ret_i64' hr.out.symm, bw0.out.trans (HB.out.mono bw0.out.size)⟩
end Go.Proofs.Ytfefggcfeppeiaa
