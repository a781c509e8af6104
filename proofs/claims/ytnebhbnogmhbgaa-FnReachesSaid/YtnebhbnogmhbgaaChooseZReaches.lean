/- The model's Choose. -/
import Derived.Test.YtnebhbnogmhbgaaLookBZReaches
import Derived.Test.YtnebhbnogmhbgaaQReachesd
namespace Go.Proofs.Ytnebhbnogmhbgaa
open Go.RowKit
attribute [local go_sem ↓] Go.wp_at_zero Go.wp_at_succ

/-- What a rectangle's area is, and by how much another one makes it grow. -/
def areaI (x : It) : Int := areaB x.x0 x.y0 x.x1 x.y1
def growI (x : It) (r : Bx) : Int := areaB (lst x.x0 r.x0) (lst x.y0 r.y0) (mst x.x1 r.x1) (mst x.y1 r.y1) - areaB x.x0 x.y0 x.x1 x.y1
def getI (xs : List It) (i : Int) : It := xs[i.toNat]?.getD zeroIt
def better (r : Bx) (x y : It) : Bool := decide (growI x r < growI y r) || (growI x r == growI y r && decide (areaI x < areaI y))
def chooseS (xs : List It) (r : Bx) (best : Int) (i : Nat) : Int := if best < 0 then i else if better r (getI xs i) (getI xs best) then i else best
def chooseV (xs : List It) (r : Bx) : Int := (List.range xs.length).foldl (chooseS xs r) (-1)

theorem choose_range (xs : List It) (r : Bx) : ∀ k : Nat, (-1 ≤ (List.range k).foldl (chooseS xs r) (-1) ∧ (List.range k).foldl (chooseS xs r) (-1) < (k : Int)) ∧ (0 < k → 0 ≤ (List.range k).foldl (chooseS xs r) (-1))
  | 0 => by simp
  | k + 1 => by
    have h := choose_range xs r k
    rw [List.range_succ, List.foldl_append]
    generalize (List.range k).foldl (chooseS xs r) (-1) = b at h
    show (-1 ≤ chooseS xs r b k ∧ chooseS xs r b k < ((k + 1 : Nat) : Int)) ∧ (0 < k + 1 → 0 ≤ chooseS xs r b k)
    unfold chooseS
    split
    · omega
    · split <;> omega
theorem chooseV_range (xs : List It) (r : Bx) (h : xs ≠ []) : 0 ≤ chooseV xs r ∧ chooseV xs r < (xs.length : Int) := by
  have h1 := choose_range xs r xs.length
  have h2 : 0 < xs.length := List.length_pos_iff.2 h
  exact ⟨h1.2 h2, h1.1.2⟩
theorem sGrowthI (x : It) (r : Bx) (w : World) : Calls Try.prog 133 #[.agg #[.int .i64 x.x0, .int .i64 x.y0, .int .i64 x.x1, .int .i64 x.y1], .agg #[.int .i64 r.x0, .int .i64 r.y0, .int .i64 r.x1, .int .i64 r.y1]] w fun e w' => e = .returned (.int .i64 (growI x r)) ∧ Below w.heap.size w w' := sGrowth_any _ _ _ _ _ _ _ _ w
theorem sAreaI (x : It) (w : World) : Calls Try.prog 134 #[.agg #[.int .i64 x.x0, .int .i64 x.y0, .int .i64 x.x1, .int .i64 x.y1]] w fun e w' => e = .returned (.int .i64 (areaI x)) ∧ Below w.heap.size w w' := sArea_any _ _ _ _ w

set_option maxRecDepth 100000 in
set_option maxHeartbeats 3200000 in
theorem sChoose_any (a : Option Addr) (n cap : Nat) (xs : List It) (r : Bx) (w : World) (h : RdS itLay w a n cap xs) :
    Calls Try.prog 126 #[.slice a n cap, .agg #[.int .i64 r.x0, .int .i64 r.y0, .int .i64 r.x1, .int .i64 r.y1]] w fun e w' => e = .returned (.int .i64 (chooseV xs r)) ∧ Below w.heap.size w w' := by
  have hm := h.1.2.2.1
  have hnc := h.1.2.1
  unfold maxLen at hm
  have HR := Lib.hid h
  have HL := Lib.hid h.1.1
  have K0 := Lib.hid (Loc.new w #[.int .i64 r.x0, .int .i64 r.y0, .int .i64 r.x1, .int .i64 r.y1] 89)
  have B0 := Lib.hid (new_below w (.cells #[.int .i64 r.x0, .int .i64 r.y0, .int .i64 r.x1, .int .i64 r.y1] 89))
  clear h
  go_enter Try.func126, Try.ntmps126
  go_wp2
  go_loopw [5, 6] (fun v i wr => ∃ (k : Nat) (b : Int), k ≤ n ∧ v = .int .i64 b ∧ i = .int .i64 (k : Int) ∧ Hid (b = (List.range k).foldl (chooseS xs r) (-1)) ∧ -1 ≤ b ∧ b < k ∧ (0 < k → 0 ≤ b) ∧ Hid (Loc wr w.heap.size #[.int .i64 r.x0, .int .i64 r.y0, .int .i64 r.x1, .int .i64 r.y1]) ∧ Hid (Below w.heap.size w wr)) (fun _ i _ => n - (intOf i).toNat)
  case atStart => exact ⟨0, -1, Nat.zero_le _, rfl, rfl, Lib.hid rfl, by omega, by omega, fun h => by omega, K0, B0⟩
  case round =>
    clear K0 B0
    obtain ⟨k, b, hk, rfl, rfl, HA, hb0, hb1, hb2, HK, HB⟩ := hrel
    by_cases hlt : k < n
    · have hstep : (List.range (k + 1)).foldl (chooseS xs r) (-1) = chooseS xs r b k := by
        rw [List.range_succ, List.foldl_append, ← HA.out]
        rfl
      have z1 : (k : Int) < n := by omega
      by_cases hneg : b < 0
      · have HS : Hid ((k : Int) = (List.range (k + 1)).foldl (chooseS xs r) (-1)) := by
          show _ = _
          rw [hstep]
          unfold chooseS
          rw [if_pos hneg]
        clear hstep
        go_wp2
        go_roundw
        case rel => exact ⟨k + 1, (k : Int), by omega, rfl, by go_num, HS, by omega, by omega, fun _ => by omega, HK, HB⟩
        case measure => simp [intOf]; omega
      · obtain ⟨j, rfl⟩ := Int.eq_ofNat_of_zero_le (show 0 ≤ b by omega)
        obtain ⟨bb, off, x, rfl, hbl, hx, d0, d1, d2, d3, d4⟩ := rdIt_at (HR.out.below HB.out) hlt
        obtain ⟨bb', off', y, ha, _, hy, e0, e1, e2, e3, e4⟩ := rdIt_at (HR.out.below HB.out) (show j < n by omega)
        cases ha
        have hgx : getI xs k = x := by unfold getI; rw [Int.toNat_natCast, hx]; rfl
        have hgy : getI xs j = y := by unfold getI; rw [Int.toNat_natCast, hy]; rfl
        have z2 : (j : Int) < n := by omega
        have z3 : (0 : Int) ≤ j := by omega
        have z4 : (0 : Int) ≤ k := by omega
        have c0 := HK.out.2.1 0
        have c1 := HK.out.2.1 1
        have c2 := HK.out.2.1 2
        have c3 := HK.out.2.1 3
        simp at c0 c1 c2 c3
        have hq := HK.out.1
        obtain ⟨gx, hgx2⟩ : ∃ g, growI x r = g := ⟨_, rfl⟩
        obtain ⟨gy, hgy2⟩ : ∃ g, growI y r = g := ⟨_, rfl⟩
        obtain ⟨ax, hax⟩ : ∃ g, areaI x = g := ⟨_, rfl⟩
        obtain ⟨ay, hay⟩ : ∃ g, areaI y = g := ⟨_, rfl⟩
        have CGx := Lib.hid (fun (W : World) d os => callr (w := W) (d := d) (os := os) (hgx2 ▸ sGrowthI x r _))
        have CGy := Lib.hid (fun (W : World) d os => callr (w := W) (d := d) (os := os) (hgy2 ▸ sGrowthI y r _))
        have CAx := Lib.hid (fun (W : World) d os => callr (w := W) (d := d) (os := os) (hax ▸ sAreaI x _))
        have CAy := Lib.hid (fun (W : World) d os => callr (w := W) (d := d) (os := os) (hay ▸ sAreaI y _))
        have hst2 : (List.range (k + 1)).foldl (chooseS xs r) (-1) = if (decide (gx < gy) || (gx == gy && decide (ax < ay))) = true then (k : Int) else (j : Int) := by
          rw [hstep]
          unfold chooseS
          rw [if_neg hneg, hgx, hgy]
          unfold better
          rw [hgx2, hgy2, hax, hay]
        replace hst2 := Lib.hid hst2
        clear hstep hgx hgy hgx2 hgy2 hax hay hx hy
        go_wp2
        have qd1 := cellq d1
        have qd2 := cellq d2
        have qd3 := cellq d3
        have qd4 := cellq d4
        have qc0 := cellq c0
        have qc1 := cellq c1
        have qc2 := cellq c2
        have qc3 := cellq c3
        refine wp_region_quiet_below (by kernel_rfl) (by kernel_rfl) ?_
        repeat (go_big_quiet_step (with_reducible exact CGx.out _ _ _))
        refine wpQuiet_nil (quiet_end fun w2 b2 => ?_)
        clear qd1 qd2 qd3 qd4 qc0 qc1 qc2 qc3
        replace d1 := (b2.cell (p := ⟨bb, off + k * 5 + 1, none⟩) hbl).trans d1
        replace d2 := (b2.cell (p := ⟨bb, off + k * 5 + 1 + 1, none⟩) hbl).trans d2
        replace d3 := (b2.cell (p := ⟨bb, off + k * 5 + 1 + 2, none⟩) hbl).trans d3
        replace d4 := (b2.cell (p := ⟨bb, off + k * 5 + 1 + 3, none⟩) hbl).trans d4
        replace e1 := (b2.cell (p := ⟨bb, off + j * 5 + 1, none⟩) hbl).trans e1
        replace e2 := (b2.cell (p := ⟨bb, off + j * 5 + 1 + 1, none⟩) hbl).trans e2
        replace e3 := (b2.cell (p := ⟨bb, off + j * 5 + 1 + 2, none⟩) hbl).trans e3
        replace e4 := (b2.cell (p := ⟨bb, off + j * 5 + 1 + 3, none⟩) hbl).trans e4
        replace c0 := (b2.cell (p := ⟨w.heap.size, 0, none⟩) hq).trans c0
        replace c1 := (b2.cell (p := ⟨w.heap.size, 1, none⟩) hq).trans c1
        replace c2 := (b2.cell (p := ⟨w.heap.size, 2, none⟩) hq).trans c2
        replace c3 := (b2.cell (p := ⟨w.heap.size, 3, none⟩) hq).trans c3
        replace hbl := Nat.lt_of_lt_of_le hbl b2.size
        replace hq := Nat.lt_of_lt_of_le hq b2.size
        go_wp2_with fail
        have qe1 := cellq e1
        have qe2 := cellq e2
        have qe3 := cellq e3
        have qe4 := cellq e4
        have qc0 := cellq c0
        have qc1 := cellq c1
        have qc2 := cellq c2
        have qc3 := cellq c3
        refine wp_region_quiet_below (by kernel_rfl) (by kernel_rfl) ?_
        repeat (go_big_quiet_step (with_reducible exact CGy.out _ _ _))
        refine wpQuiet_nil (quiet_end fun w3 b3 => ?_)
        clear qe1 qe2 qe3 qe4 qc0 qc1 qc2 qc3
        replace d1 := (b3.cell (p := ⟨bb, off + k * 5 + 1, none⟩) hbl).trans d1
        replace d2 := (b3.cell (p := ⟨bb, off + k * 5 + 1 + 1, none⟩) hbl).trans d2
        replace d3 := (b3.cell (p := ⟨bb, off + k * 5 + 1 + 2, none⟩) hbl).trans d3
        replace d4 := (b3.cell (p := ⟨bb, off + k * 5 + 1 + 3, none⟩) hbl).trans d4
        replace e1 := (b3.cell (p := ⟨bb, off + j * 5 + 1, none⟩) hbl).trans e1
        replace e2 := (b3.cell (p := ⟨bb, off + j * 5 + 1 + 1, none⟩) hbl).trans e2
        replace e3 := (b3.cell (p := ⟨bb, off + j * 5 + 1 + 2, none⟩) hbl).trans e3
        replace e4 := (b3.cell (p := ⟨bb, off + j * 5 + 1 + 3, none⟩) hbl).trans e4
        replace c0 := (b3.cell (p := ⟨w.heap.size, 0, none⟩) hq).trans c0
        replace c1 := (b3.cell (p := ⟨w.heap.size, 1, none⟩) hq).trans c1
        replace c2 := (b3.cell (p := ⟨w.heap.size, 2, none⟩) hq).trans c2
        replace c3 := (b3.cell (p := ⟨w.heap.size, 3, none⟩) hq).trans c3
        replace hbl := Nat.lt_of_lt_of_le hbl b3.size
        replace hq := Nat.lt_of_lt_of_le hq b3.size
        have BN := HB.out.trans ((b2.trans (b3.mono b2.size)).mono HB.out.size)
        have KN := (HK.out.below b2).below b3
        clear HK HB b2 b3
        by_cases h1 : gx < gy
        · have hd1 : decide (gx < gy) = true := decide_eq_true h1
          go_wp2_with fail
          have qd1 := cellq d1
          refine wp_region_quiet_below (by kernel_rfl) (by kernel_rfl) ?_
          repeat (go_big_quiet_step (fail))
          refine wpQuiet_nil (quiet_end fun w4 b4 => ?_)
          clear qd1
          have HS : Hid (((k : Nat) : Int) = (List.range (k + 1)).foldl (chooseS xs r) (-1)) := Lib.hid (by rw [hst2.out]; simp only [hd1, Bool.true_or, if_true])
          have BZ := Lib.hid (BN.trans (b4.mono BN.size))
          have KZ := Lib.hid (KN.below b4)
          clear b4 BN KN
          go_wp2
          go_roundw
          case rel => exact ⟨k + 1, ((k : Nat) : Int), by omega, rfl, by go_num, HS, by omega, by omega, fun _ => by omega, KZ, BZ⟩
          case measure => simp [intOf]; omega
        · have hd1 : decide (gx < gy) = false := decide_eq_false h1
          by_cases h2 : gx = gy
          · have hd2 : (gx == gy) = true := by rw [beq_iff_eq]; exact h2
            by_cases h3 : ax < ay
            · have hd3 : decide (ax < ay) = true := decide_eq_true h3
              go_wp2_with fail
              have qd1 := cellq d1
              have qd2 := cellq d2
              have qd3 := cellq d3
              have qd4 := cellq d4
              have qe1 := cellq e1
              have qe2 := cellq e2
              have qe3 := cellq e3
              have qe4 := cellq e4
              refine wp_region_quiet_below (by kernel_rfl) (by kernel_rfl) ?_
              repeat (go_big_quiet_step (first | (with_reducible exact CAx.out _ _ _) | (with_reducible exact CAy.out _ _ _)))
              refine wpQuiet_nil (quiet_end fun w4 b4 => ?_)
              clear qd1 qd2 qd3 qd4 qe1 qe2 qe3 qe4
              have HS : Hid (((k : Nat) : Int) = (List.range (k + 1)).foldl (chooseS xs r) (-1)) := Lib.hid (by rw [hst2.out]; simp only [hd1, hd2, hd3, Bool.false_or, Bool.and_true, if_true])
              have BZ := Lib.hid (BN.trans (b4.mono BN.size))
              have KZ := Lib.hid (KN.below b4)
              clear b4 BN KN
              go_wp2
              go_roundw
              case rel => exact ⟨k + 1, ((k : Nat) : Int), by omega, rfl, by go_num, HS, by omega, by omega, fun _ => by omega, KZ, BZ⟩
              case measure => simp [intOf]; omega
            · have hd3 : decide (ax < ay) = false := decide_eq_false h3
              go_wp2_with fail
              have qd1 := cellq d1
              have qd2 := cellq d2
              have qd3 := cellq d3
              have qd4 := cellq d4
              have qe1 := cellq e1
              have qe2 := cellq e2
              have qe3 := cellq e3
              have qe4 := cellq e4
              refine wp_region_quiet_below (by kernel_rfl) (by kernel_rfl) ?_
              repeat (go_big_quiet_step (first | (with_reducible exact CAx.out _ _ _) | (with_reducible exact CAy.out _ _ _)))
              refine wpQuiet_nil (quiet_end fun w4 b4 => ?_)
              clear qd1 qd2 qd3 qd4 qe1 qe2 qe3 qe4
              have HS : Hid (((j : Nat) : Int) = (List.range (k + 1)).foldl (chooseS xs r) (-1)) := Lib.hid (by rw [hst2.out]; simp only [hd1, hd2, hd3, Bool.false_or, Bool.and_false, Bool.false_eq_true, if_false])
              have BZ := Lib.hid (BN.trans (b4.mono BN.size))
              have KZ := Lib.hid (KN.below b4)
              clear b4 BN KN
              go_wp2
              go_roundw
              case rel => exact ⟨k + 1, ((j : Nat) : Int), by omega, rfl, by go_num, HS, by omega, by omega, fun _ => by omega, KZ, BZ⟩
              case measure => simp [intOf]; omega
          · have hd2 : (gx == gy) = false := by rw [beq_eq_false_iff_ne]; exact h2
            go_wp2_with fail
            have qd1 := cellq d1
            refine wp_region_quiet_below (by kernel_rfl) (by kernel_rfl) ?_
            repeat (go_big_quiet_step (fail))
            refine wpQuiet_nil (quiet_end fun w4 b4 => ?_)
            clear qd1
            have HS : Hid (((j : Nat) : Int) = (List.range (k + 1)).foldl (chooseS xs r) (-1)) := Lib.hid (by rw [hst2.out]; simp only [hd1, hd2, Bool.false_or, Bool.false_and, Bool.false_eq_true, if_false])
            have BZ := Lib.hid (BN.trans (b4.mono BN.size))
            have KZ := Lib.hid (KN.below b4)
            clear b4 BN KN
            go_wp2
            go_roundw
            case rel => exact ⟨k + 1, ((j : Nat) : Int), by omega, rfl, by go_num, HS, by omega, by omega, fun _ => by omega, KZ, BZ⟩
            case measure => simp [intOf]; omega
    · obtain rfl : k = n := by omega
      have hr : Hid (chooseV xs r = b) := by
        show _ = b
        unfold chooseV
        rw [HL.out, ← HA.out]
      go_wp2
      go_ret
      exact ⟨ret_i64' hr.out.symm, HB.out⟩
end Go.Proofs.Ytnebhbnogmhbgaa
