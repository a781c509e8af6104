/- The model's BoxesOf and l10First: to which one of two lists an entry goes. -/
import Derived.Test.YtfefggcfeppeiaaNextOfZPages
namespace Go.Proofs.Ytfefggcfeppeiaa
open Go.RowKit
attribute [local go_sem ↓] Go.wp_at_zero Go.wp_at_succ

def boxesV (xs : List It) : Bx := joinAll (xs.map boxOf)
set_option maxRecDepth 100000 in
set_option maxHeartbeats 400000 in
theorem sBoxesOf_any (a : Option Addr) (n cap : Nat) (xs : List It) (w : World) (h : RdS itLay w a n cap xs) (hn : n ≤ 1099511627776) :
    Calls Try.prog 156 #[.slice a n cap] w (RetBox (boxesV xs) w) := by
  have B0 := Lib.hid (new_below w (.cells #[.int .i64 0, .int .i64 0, .int .i64 0, .int .i64 0] 61))
  have CB := Lib.hid (sBoundOf_any false a n cap xs (w.alloc (.cells #[.int .i64 0, .int .i64 0, .int .i64 0, .int .i64 0] 61)) (h.alloc _) hn)
  have J := Lib.hid (blk_new w #[.int .i64 0, .int .i64 0, .int .i64 0, .int .i64 0] 61)
  obtain ⟨j, hj⟩ : ∃ j, boxesV xs = j := ⟨_, rfl⟩
  rw [show joinAll (xs.map boxOf) = j from hj] at CB
  rw [hj]
  clear h hj
  go_enter Try.func156, Try.ntmps156
  go_wp2_with fail
  refine CB.out.mono ?_
  rintro e w1 ⟨rfl, b1⟩
  obtain ⟨j0, f0⟩ := below_keep b1 (by simp) _ _ J.out
  have B1 := Lib.hid (B0.out.trans (b1.mono B0.out.size))
  clear b1
  go_wp2
  refine bodyPost_ret (v := .agg #[.int .i64 j.x0, .int .i64 j.y0, .int .i64 j.x1, .int .i64 j.y1]) (by simp [results, Try.results156, go_sem, j0]) rfl ⟨rfl, ?_⟩
  exact (((B1.out.setCell (p := ⟨w.heap.size, 0, none⟩) (Nat.le_refl _) _).setCell (p := ⟨w.heap.size, 1, none⟩) (Nat.le_refl _) _).setCell (p := ⟨w.heap.size, 2, none⟩) (Nat.le_refl _) _).setCell (p := ⟨w.heap.size, 3, none⟩) (Nat.le_refl _) _

def firstV (xs ys : List It) (e : It) : Bool :=
  if pullO (boxesV xs) (boxesV ys) (boxOf e) = 0 then
    if areaO (boxesV xs) = areaO (boxesV ys) then decide (xs.length ≤ ys.length) else decide (areaO (boxesV xs) < areaO (boxesV ys))
  else decide (pullO (boxesV xs) (boxesV ys) (boxOf e) < 0)

set_option maxRecDepth 100000 in
set_option maxHeartbeats 1600000 in
theorem l10First_any (a b : Option Addr) (n m c d : Nat) (xs ys : List It) (e : It) (w : World) (h : RdS itLay w a n c xs) (h' : RdS itLay w b m d ys) (hn : n ≤ 1099511627776) (hm : m ≤ 1099511627776) :
    Calls Try.prog 157 #[.slice a n c, .slice b m d, .agg #[.int .i64 e.id, .int .i64 e.x0, .int .i64 e.y0, .int .i64 e.x1, .int .i64 e.y1]] w fun z w' => z = .returned (.bool (firstV xs ys e)) ∧ Below w.heap.size w w' := by
  have HL := Lib.hid h.1.1
  have HM := Lib.hid h'.1.1
  have K0 := Lib.hid (Loc.new w #[.int .i64 e.id, .int .i64 e.x0, .int .i64 e.y0, .int .i64 e.x1, .int .i64 e.y1] 92)
  have B0 := Lib.hid (new_below w (.cells #[.int .i64 e.id, .int .i64 e.x0, .int .i64 e.y0, .int .i64 e.x1, .int .i64 e.y1] 92))
  have H' := Lib.hid h'
  have CX := Lib.hid (sBoxesOf_any a n c xs (w.alloc (.cells #[.int .i64 e.id, .int .i64 e.x0, .int .i64 e.y0, .int .i64 e.x1, .int .i64 e.y1] 92)) (h.alloc _) hn)
  obtain ⟨x, hx⟩ : ∃ x, boxesV xs = x := ⟨_, rfl⟩
  obtain ⟨y, hy⟩ : ∃ y, boxesV ys = y := ⟨_, rfl⟩
  obtain ⟨p, hp⟩ : ∃ p, pullO x y (boxOf e) = p := ⟨_, rfl⟩
  obtain ⟨ax, hax⟩ : ∃ p, areaO x = p := ⟨_, rfl⟩
  obtain ⟨ay, hay⟩ : ∃ p, areaO y = p := ⟨_, rfl⟩
  have hv : Hid (firstV xs ys e = if p = 0 then (if ax = ay then decide (n ≤ m) else decide (ax < ay)) else decide (p < 0)) := Lib.hid (by unfold firstV; rw [hx, hy, hp, hax, hay, HL.out, HM.out])
  rw [hx] at CX
  have CP := Lib.hid (fun (W : World) => (hp ▸ sPullI x y e W : Calls Try.prog 160 #[.agg #[.int .i64 x.x0, .int .i64 x.y0, .int .i64 x.x1, .int .i64 x.y1], .agg #[.int .i64 y.x0, .int .i64 y.y0, .int .i64 y.x1, .int .i64 y.y1], .agg #[.int .i64 e.x0, .int .i64 e.y0, .int .i64 e.x1, .int .i64 e.y1]] W fun z w' => z = .returned (.int .i64 p) ∧ Below W.heap.size W w'))
  have C1 := Lib.hid (fun (W : World) d os => callr (w := W) (d := d) (os := os) (hax ▸ sAreaO x _))
  have C2 := Lib.hid (fun (W : World) d os => callr (w := W) (d := d) (os := os) (hay ▸ sAreaO y _))
  clear h h' hx hp hax hay
  go_enter Try.func157, Try.ntmps157
  go_wp2_with fail
  refine CX.out.mono ?_
  rintro z w1 ⟨rfl, b1⟩
  have K1 := Lib.hid ((K0.out.below b1).alloc (.cells #[.int .i64 x.x0, .int .i64 x.y0, .int .i64 x.x1, .int .i64 x.y1] 61))
  have X1 := Lib.hid (Loc.new w1 #[.int .i64 x.x0, .int .i64 x.y0, .int .i64 x.x1, .int .i64 x.y1] 61)
  have B1 := Lib.hid ((B0.out.trans (b1.mono B0.out.size)).alloc (Nat.le_trans B0.out.size b1.size) (.cells #[.int .i64 x.x0, .int .i64 x.y0, .int .i64 x.x1, .int .i64 x.y1] 61))
  obtain ⟨W2, hW2⟩ : ∃ W2, W2 = w1.alloc (.cells #[.int .i64 x.x0, .int .i64 x.y0, .int .i64 x.x1, .int .i64 x.y1] 61) := ⟨_, rfl⟩
  have CY := sBoxesOf_any b m d ys W2 (H'.out.below (by rw [hW2]; exact B1.out)) hm
  obtain ⟨qx, hqx⟩ : ∃ q, q = w1.heap.size := ⟨_, rfl⟩
  rw [← hW2, ← hqx] at X1
  rw [← hW2] at K1 B1
  rw [hy] at CY
  replace CY := Lib.hid CY
  clear b1 CX hy H' K0 B0
  go_wp2_with fail
  rw [← hW2, ← hqx]
  clear hW2 hqx
  refine CY.out.mono ?_
  rintro z w3 ⟨rfl, b3⟩
  have K3 := Lib.hid (K1.out.below b3)
  have X3 := Lib.hid (X1.out.below b3)
  have B3 := Lib.hid (B1.out.trans (b3.mono B1.out.size))
  have hqs := X3.out.1
  have hws := K3.out.1
  clear b3 CY K1 X1 B1
  have x0 := X3.out.2.1 0
  have x1 := X3.out.2.1 1
  have x2 := X3.out.2.1 2
  have x3 := X3.out.2.1 3
  have e1 := K3.out.2.1 1
  have e2 := K3.out.2.1 2
  have e3 := K3.out.2.1 3
  have e4 := K3.out.2.1 4
  simp at x0 x1 x2 x3 e1 e2 e3 e4
  go_wp2_with fail
  refine (CP.out _).mono ?_
  rintro z w5 ⟨rfl, b5⟩
  have K5 := Lib.hid ((K3.out.alloc (.cells #[.int .i64 y.x0, .int .i64 y.y0, .int .i64 y.x1, .int .i64 y.y1] 61)).below b5)
  have X5 := Lib.hid ((X3.out.alloc (.cells #[.int .i64 y.x0, .int .i64 y.y0, .int .i64 y.x1, .int .i64 y.y1] 61)).below b5)
  have Y5 := Lib.hid ((Loc.new w3 #[.int .i64 y.x0, .int .i64 y.y0, .int .i64 y.x1, .int .i64 y.y1] 61).below b5)
  have B5 := Lib.hid ((B3.out.alloc B3.out.size (.cells #[.int .i64 y.x0, .int .i64 y.y0, .int .i64 y.x1, .int .i64 y.y1] 61)).trans (b5.mono (B3.out.alloc B3.out.size (.cells #[.int .i64 y.x0, .int .i64 y.y0, .int .i64 y.x1, .int .i64 y.y1] 61)).size))
  clear b5 x0 x1 x2 x3 e1 e2 e3 e4 hqs hws K3 X3 B3
  by_cases h0 : p = 0
  · have hd : ((p : Int) != 0) = false := by rw [bne_eq_false_iff_eq]; exact h0
    have x0 := X5.out.2.1 0
    have x1 := X5.out.2.1 1
    have x2 := X5.out.2.1 2
    have x3 := X5.out.2.1 3
    have y0 := Y5.out.2.1 0
    have y1 := Y5.out.2.1 1
    have y2 := Y5.out.2.1 2
    have y3 := Y5.out.2.1 3
    have e1 := K5.out.2.1 1
    have e2 := K5.out.2.1 2
    have e3 := K5.out.2.1 3
    have e4 := K5.out.2.1 4
    go_wp2
    by_cases h1 : ax = ay
    · have hd2 : (ax != ay) = false := by rw [bne_eq_false_iff_eq]; exact h1
      have qx0 := cellq x0
      have qx1 := cellq x1
      have qx2 := cellq x2
      have qx3 := cellq x3
      have qy0 := cellq y0
      have qy1 := cellq y1
      have qy2 := cellq y2
      have qy3 := cellq y3
      refine wp_region_quiet_below (by kernel_rfl) (by kernel_rfl) ?_
      repeat (go_big_quiet_step (first | (with_reducible exact C1.out _ _ _) | (with_reducible exact C2.out _ _ _)))
      refine wpQuiet_nil (quiet_end fun w6 b6 => ?_)
      clear qx0 qx1 qx2 qx3 qy0 qy1 qy2 qy3
      clear x0 x1 x2 x3 y0 y1 y2 y3 e1 e2 e3 e4
      have K6 := Lib.hid (K5.out.below b6)
      have X6 := Lib.hid (X5.out.below b6)
      have Y6 := Lib.hid (Y5.out.below b6)
      have B6 := Lib.hid (B5.out.trans (b6.mono B5.out.size))
      clear b6
      go_wp2
      go_ret
      exact ⟨ret_bool (by rw [hv.out, if_pos h0, if_pos h1]), B6.out⟩
    · have hd2 : (ax != ay) = true := by rw [bne_iff_ne]; exact h1
      have qx0 := cellq x0
      have qx1 := cellq x1
      have qx2 := cellq x2
      have qx3 := cellq x3
      have qy0 := cellq y0
      have qy1 := cellq y1
      have qy2 := cellq y2
      have qy3 := cellq y3
      refine wp_region_quiet_below (by kernel_rfl) (by kernel_rfl) ?_
      repeat (go_big_quiet_step (first | (with_reducible exact C1.out _ _ _) | (with_reducible exact C2.out _ _ _)))
      refine wpQuiet_nil (quiet_end fun w6 b6 => ?_)
      clear qx0 qx1 qx2 qx3 qy0 qy1 qy2 qy3
      clear x0 x1 x2 x3 y0 y1 y2 y3 e1 e2 e3 e4
      have K6 := Lib.hid (K5.out.below b6)
      have X6 := Lib.hid (X5.out.below b6)
      have Y6 := Lib.hid (Y5.out.below b6)
      have B6 := Lib.hid (B5.out.trans (b6.mono B5.out.size))
      clear b6
      have x0 := X6.out.2.1 0
      have x1 := X6.out.2.1 1
      have x2 := X6.out.2.1 2
      have x3 := X6.out.2.1 3
      have y0 := Y6.out.2.1 0
      have y1 := Y6.out.2.1 1
      have y2 := Y6.out.2.1 2
      have y3 := Y6.out.2.1 3
      have e1 := K6.out.2.1 1
      have e2 := K6.out.2.1 2
      have e3 := K6.out.2.1 3
      have e4 := K6.out.2.1 4
      go_wp2_with fail
      have qx0 := cellq x0
      have qx1 := cellq x1
      have qx2 := cellq x2
      have qx3 := cellq x3
      have qy0 := cellq y0
      have qy1 := cellq y1
      have qy2 := cellq y2
      have qy3 := cellq y3
      refine wp_region_quiet_below (by kernel_rfl) (by kernel_rfl) ?_
      repeat (go_big_quiet_step (first | (with_reducible exact C1.out _ _ _) | (with_reducible exact C2.out _ _ _)))
      refine wpQuiet_nil (quiet_end fun w7 b7 => ?_)
      clear qx0 qx1 qx2 qx3 qy0 qy1 qy2 qy3
      clear x0 x1 x2 x3 y0 y1 y2 y3 e1 e2 e3 e4
      have K7 := Lib.hid (K6.out.below b7)
      have X7 := Lib.hid (X6.out.below b7)
      have Y7 := Lib.hid (Y6.out.below b7)
      have B7 := Lib.hid (B6.out.trans (b7.mono B6.out.size))
      clear b7
      go_wp2
      go_ret
      exact ⟨ret_bool (by rw [hv.out, if_pos h0, if_neg h1]), B7.out⟩
  · have hd : ((p : Int) != 0) = true := by rw [bne_iff_ne]; exact h0
    go_wp2
    go_ret
    exact ⟨ret_bool (by rw [hv.out, if_neg h0]), B5.out⟩
end Go.Proofs.Ytfefggcfeppeiaa
