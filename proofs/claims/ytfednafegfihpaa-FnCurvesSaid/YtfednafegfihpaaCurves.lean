/- The law FnCurves: every point has its position on the curve and vice versa; consecutive positions are adjacent points. -/
import Derived.Test.YtfednafegfihpaaCurveI
import Derived.Test.YtfednafegfihpaaDrawCurve
import Derived.Test.YtfednafegfihpaaBig
namespace Go.Proofs.Ytfednafegfihpaa
open Go.RowKit

theorem alongV_in {x y : Int} (hx : 0 ≤ x ∧ x ≤ 255) (hy : 0 ≤ y ∧ y ≤ 255) : alongV x y = pos 8 x y := if_pos ⟨decide_eq_true hx, decide_eq_true hy⟩
theorem alongV_out {x y : Int} (h : ¬ ((0 ≤ x ∧ x ≤ 255) ∧ 0 ≤ y ∧ y ≤ 255)) : alongV x y = -1 := if_neg fun h' => h ⟨of_decide_eq_true h'.1, of_decide_eq_true h'.2⟩
theorem pointV_on {d : Int} (h : 0 ≤ d ∧ d ≤ 65535) : pointV d = pnt 8 d := if_pos (decide_eq_true h)
/-- A point's position leads back to it. -/
theorem back_point {x y : Int} (hx : 0 ≤ x ∧ x ≤ 255) (hy : 0 ≤ y ∧ y ≤ 255) : (0 ≤ alongV x y ∧ alongV x y ≤ 65535) ∧ pointV (alongV x y) = (x, y) := by
  have e : pw 8 = 256 := rfl
  have q : sq 8 = 65536 := rfl
  have h := pos_in 8 x y
  rw [alongV_in hx hy]
  refine ⟨by omega, ?_⟩
  rw [pointV_on (by omega)]
  exact pnt_pos 8 (Nat.le_refl _) x y hx.1 (by omega) hy.1 (by omega)
/-- A position's point leads back to it. -/
theorem back_pos {d : Int} (h : 0 ≤ d ∧ d ≤ 65535) : alongV (pointV d).1 (pointV d).2 = d := by
  have q : sq 8 = 65536 := rfl
  have p := pointV_in d
  rw [alongV_in p.1 p.2, pointV_on h]
  exact pos_pnt 8 (Nat.le_refl _) d h.1 (by omega)
theorem next_door {n : Int} (h : 0 ≤ n ∧ n ≤ 65534) : apartV n (n + 1) = 1 := by
  have q : sq 8 = 65536 := rfl
  unfold apartV
  rw [pointV_on (by omega), pointV_on (by omega)]
  exact pnt_near 8 n h.1 (by omega)
theorem midV_small {a b : Int} (h : 0 ≤ a ∧ a ≤ 249) (h' : a ≤ b ∧ b ≤ 255) : a ≤ midV a b ∧ midV a b ≤ b := by
  unfold midV
  have e : wrap64 (a + b) = a + b := by rw [← IntWalk.i64_left]; exact IntWalk.i64_in _ (by omega)
  have e2 : (a + b).tdiv 2 = (a + b) / 2 := Int.tdiv_eq_ediv_of_nonneg (by omega)
  rw [e, e2]
  have e3 : wrap64 ((a + b) / 2) = (a + b) / 2 := by rw [← IntWalk.i64_left]; exact IntWalk.i64_in _ (by omega)
  rw [e3]
  omega

set_option maxHeartbeats 4000000 in
set_option maxRecDepth 100000 in
theorem fnCurves_walk (A : Option Addr) (n cap : Nat) (zs : List Int) (w : World) (h : RdI .u8 w A n cap zs) (hz : ∀ z ∈ zs, 0 ≤ z ∧ z ≤ 255) :
    Calls Try.prog 3 #[.slice A n cap] w fun e w' => e = .returned (.bool true) ∧ Below w.heap.size w w' := by
  have hln := h.1.1
  subst hln
  have HZ := Lib.hid hz
  clear hz
  by_cases hn : zs.length ≤ 1048576
  · go_enter Try.func3, Try.ntmps3
    go_wp2_with fail
    refine (big_no A _ cap _ hn).mono ?_
    rintro e w0 ⟨rfl, rfl⟩
    go_wp2_with fail
    refine (drawAlong_any A cap zs _ h HZ.out hn).mono ?_
    rintro e w1 ⟨x, y, rfl, ⟨⟨x0, x1⟩, y0, y1⟩, B⟩
    go_wp2_with fail
    refine (iAlong_any _ _ _).mono ?_
    rintro e w1' ⟨rfl, b1⟩
    replace B := B.trans (b1.mono B.size)
    clear b1
    go_wp2_with fail
    refine (drawPointAt_any A cap zs _ (h.below B) HZ.out hn).mono ?_
    rintro e w2 ⟨p, rfl, ⟨p0, p1⟩, b2⟩
    replace B := B.trans (b2.mono B.size)
    clear b2
    go_wp2_with fail
    refine (iPointAt_any _ _).mono ?_
    rintro e w2' ⟨rfl, rfl⟩
    go_wp2_with fail
    refine (sPointAt_any _ _).mono ?_
    rintro e w2' ⟨rfl, rfl⟩
    go_wp2_with fail
    refine (drawApart_any A cap zs _ (h.below B) HZ.out hn).mono ?_
    rintro e w3 ⟨a, b, rfl, ⟨a0, a1⟩, b3⟩
    replace B := B.trans (b3.mono B.size)
    clear b3
    go_wp2_with fail
    refine (drawMiddle_any A cap zs _ (h.below B) HZ.out hn).mono ?_
    rintro e w4 ⟨m0, m1, m2, m3, rfl, ⟨hm0, hm1, hm2, hm3⟩, b4⟩
    replace B := B.trans (b4.mono B.size)
    clear b4
    have hs := Lib.hid (midV_small hm0 hm2)
    have ht := Lib.hid (midV_small hm1 hm3)
    clear hm0 hm1 hm2 hm3
    have K := Lib.hid (blk_new w4 #[.int .i64 m0, .int .i64 m1, .int .i64 m2, .int .i64 m3] 30)
    replace B := B.alloc B.size (.cells #[.int .i64 m0, .int .i64 m1, .int .i64 m2, .int .i64 m3] 30)
    go_wp2_with fail
    refine (drawKeyOf_any A cap zs _ (h.below B) HZ.out hn).mono ?_
    rintro e w5 ⟨k0, k1, k2, k3, rfl, -, b5⟩
    have s5 := b5.size
    simp at s5
    replace K := Lib.hid (below_keep b5 (by simp) _ _ K.out)
    replace B := B.trans (b5.mono B.size)
    clear b5
    replace K := Lib.hid (blk_alloc (.cells #[.int .i64 k0, .int .i64 k1, .int .i64 k2, .int .i64 k3] 30) (by omega) _ _ K.out)
    have Q := Lib.hid (blk_new w5 #[.int .i64 k0, .int .i64 k1, .int .i64 k2, .int .i64 k3] 30)
    replace B := B.alloc B.size (.cells #[.int .i64 k0, .int .i64 k1, .int .i64 k2, .int .i64 k3] 30)
    obtain ⟨c0, -⟩ := K.out
    clear h
    go_wp2_with fail
    refine (iMiddle_any _ _ _ _ _).mono ?_
    rintro e w6 ⟨rfl, b6⟩
    have s6 := b6.size
    simp at s6
    replace K := Lib.hid (below_keep b6 (by simp; omega) _ _ K.out)
    replace Q := Lib.hid (below_keep b6 (by simp) _ _ Q.out)
    replace B := B.trans (b6.mono B.size)
    clear b6 c0
    go_upto_region 12 with (fail)
    have q0 := cellq (w := w6) (b := w5.heap.size) (j := 0) (v := .int .i64 k0) (Q.out.1 0)
    have q1 := cellq (w := w6) (b := w5.heap.size) (j := 1) (v := .int .i64 k1) (Q.out.1 1)
    have q2 := cellq (w := w6) (b := w5.heap.size) (j := 2) (v := .int .i64 k2) (Q.out.1 2)
    have q3 := cellq (w := w6) (b := w5.heap.size) (j := 3) (v := .int .i64 k3) (Q.out.1 3)
    have C1 := Lib.hid (fun V : World => (sAlong_any x y V).mono fun e w' (hh : e = _ ∧ V = w') => (⟨hh.1, hh.2 ▸ Below.refl _ _⟩ : e = _ ∧ Below V.heap.size V w'))
    have C2 := Lib.hid (fun V : World => (iApart_any a b V).mono fun e w' (hh : e = _ ∧ V = w') => (⟨hh.1, hh.2 ▸ Below.refl _ _⟩ : e = _ ∧ Below V.heap.size V w'))
    have C3 := Lib.hid (fun V : World => (sApart_any a b V).mono fun e w' (hh : e = _ ∧ V = w') => (⟨hh.1, hh.2 ▸ Below.refl _ _⟩ : e = _ ∧ Below V.heap.size V w'))
    have C4 := Lib.hid (fun V : World => iKeyOf_any k0 k1 k2 k3 V)
    have C5 := Lib.hid (fun V : World => sKeyOf_any k0 k1 k2 k3 V)
    refine wp_region_quiet_below (by kernel_rfl) (by kernel_rfl) ?_
    repeat (go_big_quiet_step (first | (go_at_call 19; with_reducible exact callr (C1.out _)) | (go_at_call 20; with_reducible exact callr (C2.out _)) | (go_at_call 21; with_reducible exact callr (C3.out _)) | (go_at_call 22; with_reducible exact callr (C4.out _)) | (go_at_call 23; with_reducible exact callr (C5.out _))))
    refine wpQuiet_nil (quiet_end fun W hW => ?_)
    have sW := hW.size
    replace K := Lib.hid (below_keep hW (by omega) _ _ K.out)
    replace B := B.trans (hW.mono B.size)
    clear hW Q q0 q1 q2 q3 C1 C2 C3 C4 C5
    obtain ⟨c0, -⟩ := K.out
    obtain ⟨s0, s1⟩ := hs.out
    obtain ⟨t0, t1⟩ := ht.out
    have hnd : 0 ≤ a % 65535 ∧ a % 65535 ≤ 65534 := by omega
    by_cases hin : (0 ≤ x ∧ x ≤ 255) ∧ 0 ≤ y ∧ y ≤ 255
    · obtain ⟨⟨hx0, hx1⟩, hy0, hy1⟩ := hin
      have hv : (!decide (x < 0) && !decide (255 < x) && !decide (y < 0) && !decide (255 < y)) = true := by simp; omega
      obtain ⟨⟨d0, d1⟩, hP⟩ := back_point ⟨hx0, hx1⟩ ⟨hy0, hy1⟩
      have HP := Lib.hid hP
      have hd1 : (alongV x y == -1) = false := by rw [beq_eq_false_iff_ne]; omega
      clear hP
      go_wp2_with fail
      refine (iPointAt_any _ _).mono ?_
      rintro e w9 ⟨rfl, rfl⟩
      rw [HP.out]
      rcases (by omega : p < 0 ∨ (0 ≤ p ∧ p ≤ 65535) ∨ 65535 < p) with hp | ⟨hp0, hp1⟩ | hp
      · go_wp2_with fail
        refine (iApart_any _ _ _).mono ?_
        rintro e w8 ⟨rfl, rfl⟩
        rw [next_door hnd]
        go_wp2
        go_ret
        exact ⟨rfl, B⟩
      · have hb := Lib.hid (back_pos ⟨hp0, hp1⟩)
        go_wp2_with fail
        refine (iAlong_any _ _ _).mono ?_
        rintro e w7 ⟨rfl, b7⟩
        replace K := Lib.hid (below_keep b7 (by omega) _ _ K.out)
        replace B := B.trans (b7.mono B.size)
        clear b7 c0
        obtain ⟨c0, -⟩ := K.out
        rw [hb.out]
        go_wp2_with fail
        refine (iApart_any _ _ _).mono ?_
        rintro e w8 ⟨rfl, rfl⟩
        rw [next_door hnd]
        go_wp2
        go_ret
        exact ⟨rfl, B⟩
      · have hp2 : 0 ≤ p := by omega
        go_wp2_with fail
        refine (iApart_any _ _ _).mono ?_
        rintro e w8 ⟨rfl, rfl⟩
        rw [next_door hnd]
        go_wp2
        go_ret
        exact ⟨rfl, B⟩
    · rw [alongV_out hin]
      rcases (by omega : x < 0 ∨ (0 ≤ x ∧ 255 < x) ∨ ((0 ≤ x ∧ x ≤ 255) ∧ y < 0) ∨ ((0 ≤ x ∧ x ≤ 255) ∧ (0 ≤ y ∧ 255 < y))) with ho | ⟨ho, ho1⟩ | ⟨⟨ho, ho1⟩, ho2⟩ | ⟨⟨ho, ho1⟩, ho2, ho3⟩
      all_goals
        clear hin
        rcases (by omega : p < 0 ∨ (0 ≤ p ∧ p ≤ 65535) ∨ 65535 < p) with hp | ⟨hp0, hp1⟩ | hp
        · go_wp2_with fail
          refine (iApart_any _ _ _).mono ?_
          rintro e w8 ⟨rfl, rfl⟩
          rw [next_door hnd]
          go_wp2
          go_ret
          exact ⟨rfl, B⟩
        · have hb := Lib.hid (back_pos ⟨hp0, hp1⟩)
          go_wp2_with fail
          refine (iAlong_any _ _ _).mono ?_
          rintro e w7 ⟨rfl, b7⟩
          replace K := Lib.hid (below_keep b7 (by omega) _ _ K.out)
          replace B := B.trans (b7.mono B.size)
          clear b7 c0
          obtain ⟨c0, -⟩ := K.out
          rw [hb.out]
          go_wp2_with fail
          refine (iApart_any _ _ _).mono ?_
          rintro e w8 ⟨rfl, rfl⟩
          rw [next_door hnd]
          go_wp2
          go_ret
          exact ⟨rfl, B⟩
        · have hp2 : 0 ≤ p := by omega
          go_wp2_with fail
          refine (iApart_any _ _ _).mono ?_
          rintro e w8 ⟨rfl, rfl⟩
          rw [next_door hnd]
          go_wp2
          go_ret
          exact ⟨rfl, B⟩
  · go_enter Try.func3, Try.ntmps3
    go_wp2_with fail
    refine (big_yes A _ cap _ hn (by have := h.1.2.1; have := h.1.2.2.1; omega)).mono ?_
    rintro e w0 ⟨rfl, rfl⟩
    go_wp2
    go_ret
    exact ⟨rfl, Below.refl _ _⟩
end Go.Proofs.Ytfednafegfihpaa
