/- The law FnBoxes: the join of two rectangles contains both and is not smaller; rectangles that meet have a common part. -/
import Derived.Test.YtdpkodemmfaglaaDrawHolds
import Derived.Test.YtdpkodemmfaglaaBox2
import Derived.Test.YtdpkodemmfaglaaQuiet
import Derived.Test.YtdpkodemmfaglaaBig
import Derived.Deep.DeepCutAuto
namespace Go.Proofs.Ytdpkodemmfaglaa
open Go.RowKit

theorem lst_comm (a b : Int) : lst a b = lst b a := by rw [lst_min, lst_min]; omega
theorem mst_comm (a b : Int) : mst a b = mst b a := by rw [mst_max, mst_max]; omega
theorem lst_self (a : Int) : lst a a = a := by rw [lst_min]; omega
theorem mst_self (a : Int) : mst a a = a := by rw [mst_max]; omega
theorem holds_left {x0 y0 x1 y1 u0 v0 u1 v1 : Int} : holdsB (lst x0 u0) (lst y0 v0) (mst x1 u1) (mst y1 v1) x0 y0 x1 y1 = true := (holdsB_iff _ _ _ _ _ _ _ _).2 (by simp only [lst_min, mst_max]; omega)
theorem holds_right {x0 y0 x1 y1 u0 v0 u1 v1 : Int} : holdsB (lst x0 u0) (lst y0 v0) (mst x1 u1) (mst y1 v1) u0 v0 u1 v1 = true := (holdsB_iff _ _ _ _ _ _ _ _).2 (by simp only [lst_min, mst_max]; omega)
theorem meetsB_comm (x0 y0 x1 y1 u0 v0 u1 v1 : Int) : meetsB x0 y0 x1 y1 u0 v0 u1 v1 = meetsB u0 v0 u1 v1 x0 y0 x1 y1 := by
  rw [Bool.eq_iff_iff]; unfold meetsB crossB; simp only [Bool.and_eq_true, decide_eq_true_eq]; constructor <;> (rintro ⟨⟨a, b⟩, ⟨⟨c, d⟩, e⟩, f⟩; exact ⟨⟨b, a⟩, ⟨⟨d, c⟩, f⟩, e⟩)
theorem meetsB_self {x0 y0 x1 y1 : Int} (h : okB x0 y0 x1 y1 = true) : meetsB x0 y0 x1 y1 x0 y0 x1 y1 = true := by
  obtain ⟨⟨a, b, c⟩, d, e, f⟩ := (okB_iff _ _ _ _).1 h
  unfold meetsB crossB; rw [h]; simp; omega
theorem okB_join {x0 y0 x1 y1 u0 v0 u1 v1 : Int} (h : okB x0 y0 x1 y1 = true) (h' : okB u0 v0 u1 v1 = true) : okB (lst x0 u0) (lst y0 v0) (mst x1 u1) (mst y1 v1) = true := by
  rw [okB_iff] at *; simp only [lst_min, mst_max]; omega
theorem areaB_join {x0 y0 x1 y1 u0 v0 u1 v1 : Int} (h : okB x0 y0 x1 y1 = true) (h' : okB u0 v0 u1 v1 = true) : areaB x0 y0 x1 y1 ≤ areaB (lst x0 u0) (lst y0 v0) (mst x1 u1) (mst y1 v1) := by
  rw [areaB_yes h, areaB_yes (okB_join h h')]
  obtain ⟨⟨a, b, c⟩, d, e, f⟩ := (okB_iff _ _ _ _).1 h
  simp only [lst_min, mst_max]
  exact Int.mul_le_mul (by omega) (by omega) (by omega) (by omega)
theorem areaB_pos {x0 y0 x1 y1 : Int} (h : okB x0 y0 x1 y1 = true) : 1 ≤ areaB x0 y0 x1 y1 := by
  rw [areaB_yes h]
  obtain ⟨⟨a, b, c⟩, d, e, f⟩ := (okB_iff _ _ _ _).1 h
  exact Int.mul_pos (by omega) (by omega)

set_option maxHeartbeats 4000000 in
set_option maxRecDepth 100000 in
theorem fnBoxes_walk (A : Option Addr) (n cap : Nat) (zs : List Int) (w : World) (h : RdI .u8 w A n cap zs) (hz : ∀ z ∈ zs, 0 ≤ z ∧ z ≤ 255) :
    Calls Try.prog 3 #[.slice A n cap] w fun e w' => e = .returned (.bool true) ∧ Below w.heap.size w w' := by
  have hln := h.1.1
  subst hln
  have HZ := Lib.hid hz
  clear hz
  by_cases hn : zs.length ≤ 1048576
  · have B := Below.refl w.heap.size w
    go_enter Try.func3, Try.ntmps3
    go_wp2_with fail
    refine (big_no A _ cap _ hn).mono ?_
    rintro e w0 ⟨rfl, rfl⟩
    go_wp2_with fail
    refine (drawJoin_any A cap zs _ (h.below B) HZ.out hn).mono ?_
    rintro e w1 ⟨a0, a1, a2, a3, b0, b1, b2, b3, rfl, -, -, bw1⟩
    have sw1 := bw1.size
    try simp at sw1
    replace B := B.trans (bw1.mono B.size)
    clear bw1
    have Ka := Lib.hid (blk_alloc (.cells #[.int .i64 b0, .int .i64 b1, .int .i64 b2, .int .i64 b3] 25) (by simp) _ _ (blk_new w1 #[.int .i64 a0, .int .i64 a1, .int .i64 a2, .int .i64 a3] 25))
    have Kb := Lib.hid (blk_new1 w1 (.cells #[.int .i64 a0, .int .i64 a1, .int .i64 a2, .int .i64 a3] 25) #[.int .i64 b0, .int .i64 b1, .int .i64 b2, .int .i64 b3] 25)
    replace B := B.alloc B.size (.cells #[.int .i64 a0, .int .i64 a1, .int .i64 a2, .int .i64 a3] 25)
    replace B := B.alloc B.size (.cells #[.int .i64 b0, .int .i64 b1, .int .i64 b2, .int .i64 b3] 25)
    go_wp2_with fail
    refine (iJoin_any _ _ _ _ _ _ _ _ _).mono ?_
    rintro e w2 ⟨rfl, bw2⟩
    have sw2 := bw2.size
    try simp at sw2
    replace Ka := Lib.hid (below_keep bw2 (by first | omega | (simp; done) | (simp; omega)) _ _ Ka.out)
    replace Kb := Lib.hid (below_keep bw2 (by first | omega | (simp; done) | (simp; omega)) _ _ Kb.out)
    replace B := B.trans (bw2.mono B.size)
    clear bw2
    replace Ka := Lib.hid (blk_alloc (.cells #[.int .i64 (lst a0 b0), .int .i64 (lst a1 b1), .int .i64 (mst a2 b2), .int .i64 (mst a3 b3)] 25) (by first | omega | (simp; omega)) _ _ Ka.out)
    replace Kb := Lib.hid (blk_alloc (.cells #[.int .i64 (lst a0 b0), .int .i64 (lst a1 b1), .int .i64 (mst a2 b2), .int .i64 (mst a3 b3)] 25) (by first | omega | (simp; omega)) _ _ Kb.out)
    have Kj := Lib.hid (blk_new w2 #[.int .i64 (lst a0 b0), .int .i64 (lst a1 b1), .int .i64 (mst a2 b2), .int .i64 (mst a3 b3)] 25)
    replace B := B.alloc B.size (.cells #[.int .i64 (lst a0 b0), .int .i64 (lst a1 b1), .int .i64 (mst a2 b2), .int .i64 (mst a3 b3)] 25)
    go_wp2_with fail
    refine (drawMeets_any A cap zs _ (h.below B) HZ.out hn).mono ?_
    rintro e w3 ⟨c0, c1, c2, c3, d0, d1, d2, d3, rfl, -, -, bw3⟩
    have sw3 := bw3.size
    try simp at sw3
    replace Ka := Lib.hid (below_keep bw3 (by first | omega | (simp; done) | (simp; omega)) _ _ Ka.out)
    replace Kb := Lib.hid (below_keep bw3 (by first | omega | (simp; done) | (simp; omega)) _ _ Kb.out)
    replace Kj := Lib.hid (below_keep bw3 (by first | omega | (simp; done) | (simp; omega)) _ _ Kj.out)
    replace B := B.trans (bw3.mono B.size)
    clear bw3
    replace Ka := Lib.hid (blk_alloc (.cells #[.int .i64 d0, .int .i64 d1, .int .i64 d2, .int .i64 d3] 25) (by first | omega | (simp; omega)) _ _ (blk_alloc (.cells #[.int .i64 c0, .int .i64 c1, .int .i64 c2, .int .i64 c3] 25) (by first | omega | (simp; omega)) _ _ Ka.out))
    replace Kb := Lib.hid (blk_alloc (.cells #[.int .i64 d0, .int .i64 d1, .int .i64 d2, .int .i64 d3] 25) (by first | omega | (simp; omega)) _ _ (blk_alloc (.cells #[.int .i64 c0, .int .i64 c1, .int .i64 c2, .int .i64 c3] 25) (by first | omega | (simp; omega)) _ _ Kb.out))
    replace Kj := Lib.hid (blk_alloc (.cells #[.int .i64 d0, .int .i64 d1, .int .i64 d2, .int .i64 d3] 25) (by first | omega | (simp; omega)) _ _ (blk_alloc (.cells #[.int .i64 c0, .int .i64 c1, .int .i64 c2, .int .i64 c3] 25) (by first | omega | (simp; omega)) _ _ Kj.out))
    have Kc := Lib.hid (blk_alloc (.cells #[.int .i64 d0, .int .i64 d1, .int .i64 d2, .int .i64 d3] 25) (by simp) _ _ (blk_new w3 #[.int .i64 c0, .int .i64 c1, .int .i64 c2, .int .i64 c3] 25))
    have Kd := Lib.hid (blk_new1 w3 (.cells #[.int .i64 c0, .int .i64 c1, .int .i64 c2, .int .i64 c3] 25) #[.int .i64 d0, .int .i64 d1, .int .i64 d2, .int .i64 d3] 25)
    replace B := B.alloc B.size (.cells #[.int .i64 c0, .int .i64 c1, .int .i64 c2, .int .i64 c3] 25)
    replace B := B.alloc B.size (.cells #[.int .i64 d0, .int .i64 d1, .int .i64 d2, .int .i64 d3] 25)
    go_wp2_with fail
    refine (drawHolds_any A cap zs _ (h.below B) HZ.out hn).mono ?_
    rintro e w4 ⟨e0, e1, e2, e3, f0, f1, f2, f3, rfl, -, -, bw4⟩
    have sw4 := bw4.size
    try simp at sw4
    replace Ka := Lib.hid (below_keep bw4 (by first | omega | (simp; done) | (simp; omega)) _ _ Ka.out)
    replace Kb := Lib.hid (below_keep bw4 (by first | omega | (simp; done) | (simp; omega)) _ _ Kb.out)
    replace Kj := Lib.hid (below_keep bw4 (by first | omega | (simp; done) | (simp; omega)) _ _ Kj.out)
    replace Kc := Lib.hid (below_keep bw4 (by first | omega | (simp; done) | (simp; omega)) _ _ Kc.out)
    replace Kd := Lib.hid (below_keep bw4 (by first | omega | (simp; done) | (simp; omega)) _ _ Kd.out)
    replace B := B.trans (bw4.mono B.size)
    clear bw4
    replace Ka := Lib.hid (blk_alloc (.cells #[.int .i64 f0, .int .i64 f1, .int .i64 f2, .int .i64 f3] 25) (by first | omega | (simp; omega)) _ _ (blk_alloc (.cells #[.int .i64 e0, .int .i64 e1, .int .i64 e2, .int .i64 e3] 25) (by first | omega | (simp; omega)) _ _ Ka.out))
    replace Kb := Lib.hid (blk_alloc (.cells #[.int .i64 f0, .int .i64 f1, .int .i64 f2, .int .i64 f3] 25) (by first | omega | (simp; omega)) _ _ (blk_alloc (.cells #[.int .i64 e0, .int .i64 e1, .int .i64 e2, .int .i64 e3] 25) (by first | omega | (simp; omega)) _ _ Kb.out))
    replace Kj := Lib.hid (blk_alloc (.cells #[.int .i64 f0, .int .i64 f1, .int .i64 f2, .int .i64 f3] 25) (by first | omega | (simp; omega)) _ _ (blk_alloc (.cells #[.int .i64 e0, .int .i64 e1, .int .i64 e2, .int .i64 e3] 25) (by first | omega | (simp; omega)) _ _ Kj.out))
    replace Kc := Lib.hid (blk_alloc (.cells #[.int .i64 f0, .int .i64 f1, .int .i64 f2, .int .i64 f3] 25) (by first | omega | (simp; omega)) _ _ (blk_alloc (.cells #[.int .i64 e0, .int .i64 e1, .int .i64 e2, .int .i64 e3] 25) (by first | omega | (simp; omega)) _ _ Kc.out))
    replace Kd := Lib.hid (blk_alloc (.cells #[.int .i64 f0, .int .i64 f1, .int .i64 f2, .int .i64 f3] 25) (by first | omega | (simp; omega)) _ _ (blk_alloc (.cells #[.int .i64 e0, .int .i64 e1, .int .i64 e2, .int .i64 e3] 25) (by first | omega | (simp; omega)) _ _ Kd.out))
    have Ke := Lib.hid (blk_alloc (.cells #[.int .i64 f0, .int .i64 f1, .int .i64 f2, .int .i64 f3] 25) (by simp) _ _ (blk_new w4 #[.int .i64 e0, .int .i64 e1, .int .i64 e2, .int .i64 e3] 25))
    have Kf := Lib.hid (blk_new1 w4 (.cells #[.int .i64 e0, .int .i64 e1, .int .i64 e2, .int .i64 e3] 25) #[.int .i64 f0, .int .i64 f1, .int .i64 f2, .int .i64 f3] 25)
    replace B := B.alloc B.size (.cells #[.int .i64 e0, .int .i64 e1, .int .i64 e2, .int .i64 e3] 25)
    replace B := B.alloc B.size (.cells #[.int .i64 f0, .int .i64 f1, .int .i64 f2, .int .i64 f3] 25)
    go_wp2_with fail
    refine (drawGrowth_any A cap zs _ (h.below B) HZ.out hn).mono ?_
    rintro e w5 ⟨g0, g1, g2, g3, h0, h1, h2, h3, rfl, -, -, bw5⟩
    have sw5 := bw5.size
    try simp at sw5
    replace Ka := Lib.hid (below_keep bw5 (by first | omega | (simp; done) | (simp; omega)) _ _ Ka.out)
    replace Kb := Lib.hid (below_keep bw5 (by first | omega | (simp; done) | (simp; omega)) _ _ Kb.out)
    replace Kj := Lib.hid (below_keep bw5 (by first | omega | (simp; done) | (simp; omega)) _ _ Kj.out)
    replace Kc := Lib.hid (below_keep bw5 (by first | omega | (simp; done) | (simp; omega)) _ _ Kc.out)
    replace Kd := Lib.hid (below_keep bw5 (by first | omega | (simp; done) | (simp; omega)) _ _ Kd.out)
    replace Ke := Lib.hid (below_keep bw5 (by first | omega | (simp; done) | (simp; omega)) _ _ Ke.out)
    replace Kf := Lib.hid (below_keep bw5 (by first | omega | (simp; done) | (simp; omega)) _ _ Kf.out)
    replace B := B.trans (bw5.mono B.size)
    clear bw5
    replace Ka := Lib.hid (blk_alloc (.cells #[.int .i64 h0, .int .i64 h1, .int .i64 h2, .int .i64 h3] 25) (by first | omega | (simp; omega)) _ _ (blk_alloc (.cells #[.int .i64 g0, .int .i64 g1, .int .i64 g2, .int .i64 g3] 25) (by first | omega | (simp; omega)) _ _ Ka.out))
    replace Kb := Lib.hid (blk_alloc (.cells #[.int .i64 h0, .int .i64 h1, .int .i64 h2, .int .i64 h3] 25) (by first | omega | (simp; omega)) _ _ (blk_alloc (.cells #[.int .i64 g0, .int .i64 g1, .int .i64 g2, .int .i64 g3] 25) (by first | omega | (simp; omega)) _ _ Kb.out))
    replace Kj := Lib.hid (blk_alloc (.cells #[.int .i64 h0, .int .i64 h1, .int .i64 h2, .int .i64 h3] 25) (by first | omega | (simp; omega)) _ _ (blk_alloc (.cells #[.int .i64 g0, .int .i64 g1, .int .i64 g2, .int .i64 g3] 25) (by first | omega | (simp; omega)) _ _ Kj.out))
    replace Kc := Lib.hid (blk_alloc (.cells #[.int .i64 h0, .int .i64 h1, .int .i64 h2, .int .i64 h3] 25) (by first | omega | (simp; omega)) _ _ (blk_alloc (.cells #[.int .i64 g0, .int .i64 g1, .int .i64 g2, .int .i64 g3] 25) (by first | omega | (simp; omega)) _ _ Kc.out))
    replace Kd := Lib.hid (blk_alloc (.cells #[.int .i64 h0, .int .i64 h1, .int .i64 h2, .int .i64 h3] 25) (by first | omega | (simp; omega)) _ _ (blk_alloc (.cells #[.int .i64 g0, .int .i64 g1, .int .i64 g2, .int .i64 g3] 25) (by first | omega | (simp; omega)) _ _ Kd.out))
    replace Ke := Lib.hid (blk_alloc (.cells #[.int .i64 h0, .int .i64 h1, .int .i64 h2, .int .i64 h3] 25) (by first | omega | (simp; omega)) _ _ (blk_alloc (.cells #[.int .i64 g0, .int .i64 g1, .int .i64 g2, .int .i64 g3] 25) (by first | omega | (simp; omega)) _ _ Ke.out))
    replace Kf := Lib.hid (blk_alloc (.cells #[.int .i64 h0, .int .i64 h1, .int .i64 h2, .int .i64 h3] 25) (by first | omega | (simp; omega)) _ _ (blk_alloc (.cells #[.int .i64 g0, .int .i64 g1, .int .i64 g2, .int .i64 g3] 25) (by first | omega | (simp; omega)) _ _ Kf.out))
    have Kg := Lib.hid (blk_alloc (.cells #[.int .i64 h0, .int .i64 h1, .int .i64 h2, .int .i64 h3] 25) (by simp) _ _ (blk_new w5 #[.int .i64 g0, .int .i64 g1, .int .i64 g2, .int .i64 g3] 25))
    have Kh := Lib.hid (blk_new1 w5 (.cells #[.int .i64 g0, .int .i64 g1, .int .i64 g2, .int .i64 g3] 25) #[.int .i64 h0, .int .i64 h1, .int .i64 h2, .int .i64 h3] 25)
    replace B := B.alloc B.size (.cells #[.int .i64 g0, .int .i64 g1, .int .i64 g2, .int .i64 g3] 25)
    replace B := B.alloc B.size (.cells #[.int .i64 h0, .int .i64 h1, .int .i64 h2, .int .i64 h3] 25)
    go_wp2_with fail
    refine (drawBoxOk_any A cap zs _ (h.below B) HZ.out hn).mono ?_
    rintro e w6 ⟨o0, o1, o2, o3, rfl, -, bw6⟩
    have sw6 := bw6.size
    try simp at sw6
    replace Ka := Lib.hid (below_keep bw6 (by first | omega | (simp; done) | (simp; omega)) _ _ Ka.out)
    replace Kb := Lib.hid (below_keep bw6 (by first | omega | (simp; done) | (simp; omega)) _ _ Kb.out)
    replace Kj := Lib.hid (below_keep bw6 (by first | omega | (simp; done) | (simp; omega)) _ _ Kj.out)
    replace Kc := Lib.hid (below_keep bw6 (by first | omega | (simp; done) | (simp; omega)) _ _ Kc.out)
    replace Kd := Lib.hid (below_keep bw6 (by first | omega | (simp; done) | (simp; omega)) _ _ Kd.out)
    replace Ke := Lib.hid (below_keep bw6 (by first | omega | (simp; done) | (simp; omega)) _ _ Ke.out)
    replace Kf := Lib.hid (below_keep bw6 (by first | omega | (simp; done) | (simp; omega)) _ _ Kf.out)
    replace Kg := Lib.hid (below_keep bw6 (by first | omega | (simp; done) | (simp; omega)) _ _ Kg.out)
    replace Kh := Lib.hid (below_keep bw6 (by first | omega | (simp; done) | (simp; omega)) _ _ Kh.out)
    replace B := B.trans (bw6.mono B.size)
    clear bw6
    replace Ka := Lib.hid (blk_alloc (.cells #[.int .i64 o0, .int .i64 o1, .int .i64 o2, .int .i64 o3] 25) (by first | omega | (simp; omega)) _ _ Ka.out)
    replace Kb := Lib.hid (blk_alloc (.cells #[.int .i64 o0, .int .i64 o1, .int .i64 o2, .int .i64 o3] 25) (by first | omega | (simp; omega)) _ _ Kb.out)
    replace Kj := Lib.hid (blk_alloc (.cells #[.int .i64 o0, .int .i64 o1, .int .i64 o2, .int .i64 o3] 25) (by first | omega | (simp; omega)) _ _ Kj.out)
    replace Kc := Lib.hid (blk_alloc (.cells #[.int .i64 o0, .int .i64 o1, .int .i64 o2, .int .i64 o3] 25) (by first | omega | (simp; omega)) _ _ Kc.out)
    replace Kd := Lib.hid (blk_alloc (.cells #[.int .i64 o0, .int .i64 o1, .int .i64 o2, .int .i64 o3] 25) (by first | omega | (simp; omega)) _ _ Kd.out)
    replace Ke := Lib.hid (blk_alloc (.cells #[.int .i64 o0, .int .i64 o1, .int .i64 o2, .int .i64 o3] 25) (by first | omega | (simp; omega)) _ _ Ke.out)
    replace Kf := Lib.hid (blk_alloc (.cells #[.int .i64 o0, .int .i64 o1, .int .i64 o2, .int .i64 o3] 25) (by first | omega | (simp; omega)) _ _ Kf.out)
    replace Kg := Lib.hid (blk_alloc (.cells #[.int .i64 o0, .int .i64 o1, .int .i64 o2, .int .i64 o3] 25) (by first | omega | (simp; omega)) _ _ Kg.out)
    replace Kh := Lib.hid (blk_alloc (.cells #[.int .i64 o0, .int .i64 o1, .int .i64 o2, .int .i64 o3] 25) (by first | omega | (simp; omega)) _ _ Kh.out)
    have Ko := Lib.hid (blk_new w6 #[.int .i64 o0, .int .i64 o1, .int .i64 o2, .int .i64 o3] 25)
    replace B := B.alloc B.size (.cells #[.int .i64 o0, .int .i64 o1, .int .i64 o2, .int .i64 o3] 25)
    go_wp2_with fail
    refine (drawArea_any A cap zs _ (h.below B) HZ.out hn).mono ?_
    rintro e w7 ⟨r0, r1, r2, r3, rfl, -, bw7⟩
    have sw7 := bw7.size
    try simp at sw7
    replace Ka := Lib.hid (below_keep bw7 (by first | omega | (simp; done) | (simp; omega)) _ _ Ka.out)
    replace Kb := Lib.hid (below_keep bw7 (by first | omega | (simp; done) | (simp; omega)) _ _ Kb.out)
    replace Kj := Lib.hid (below_keep bw7 (by first | omega | (simp; done) | (simp; omega)) _ _ Kj.out)
    replace Kc := Lib.hid (below_keep bw7 (by first | omega | (simp; done) | (simp; omega)) _ _ Kc.out)
    replace Kd := Lib.hid (below_keep bw7 (by first | omega | (simp; done) | (simp; omega)) _ _ Kd.out)
    replace Ke := Lib.hid (below_keep bw7 (by first | omega | (simp; done) | (simp; omega)) _ _ Ke.out)
    replace Kf := Lib.hid (below_keep bw7 (by first | omega | (simp; done) | (simp; omega)) _ _ Kf.out)
    replace Kg := Lib.hid (below_keep bw7 (by first | omega | (simp; done) | (simp; omega)) _ _ Kg.out)
    replace Kh := Lib.hid (below_keep bw7 (by first | omega | (simp; done) | (simp; omega)) _ _ Kh.out)
    replace Ko := Lib.hid (below_keep bw7 (by first | omega | (simp; done) | (simp; omega)) _ _ Ko.out)
    replace B := B.trans (bw7.mono B.size)
    clear bw7
    replace Ka := Lib.hid (blk_alloc (.cells #[.int .i64 r0, .int .i64 r1, .int .i64 r2, .int .i64 r3] 25) (by first | omega | (simp; omega)) _ _ Ka.out)
    replace Kb := Lib.hid (blk_alloc (.cells #[.int .i64 r0, .int .i64 r1, .int .i64 r2, .int .i64 r3] 25) (by first | omega | (simp; omega)) _ _ Kb.out)
    replace Kj := Lib.hid (blk_alloc (.cells #[.int .i64 r0, .int .i64 r1, .int .i64 r2, .int .i64 r3] 25) (by first | omega | (simp; omega)) _ _ Kj.out)
    replace Kc := Lib.hid (blk_alloc (.cells #[.int .i64 r0, .int .i64 r1, .int .i64 r2, .int .i64 r3] 25) (by first | omega | (simp; omega)) _ _ Kc.out)
    replace Kd := Lib.hid (blk_alloc (.cells #[.int .i64 r0, .int .i64 r1, .int .i64 r2, .int .i64 r3] 25) (by first | omega | (simp; omega)) _ _ Kd.out)
    replace Ke := Lib.hid (blk_alloc (.cells #[.int .i64 r0, .int .i64 r1, .int .i64 r2, .int .i64 r3] 25) (by first | omega | (simp; omega)) _ _ Ke.out)
    replace Kf := Lib.hid (blk_alloc (.cells #[.int .i64 r0, .int .i64 r1, .int .i64 r2, .int .i64 r3] 25) (by first | omega | (simp; omega)) _ _ Kf.out)
    replace Kg := Lib.hid (blk_alloc (.cells #[.int .i64 r0, .int .i64 r1, .int .i64 r2, .int .i64 r3] 25) (by first | omega | (simp; omega)) _ _ Kg.out)
    replace Kh := Lib.hid (blk_alloc (.cells #[.int .i64 r0, .int .i64 r1, .int .i64 r2, .int .i64 r3] 25) (by first | omega | (simp; omega)) _ _ Kh.out)
    replace Ko := Lib.hid (blk_alloc (.cells #[.int .i64 r0, .int .i64 r1, .int .i64 r2, .int .i64 r3] 25) (by first | omega | (simp; omega)) _ _ Ko.out)
    have Kr := Lib.hid (blk_new w7 #[.int .i64 r0, .int .i64 r1, .int .i64 r2, .int .i64 r3] 25)
    replace B := B.alloc B.size (.cells #[.int .i64 r0, .int .i64 r1, .int .i64 r2, .int .i64 r3] 25)
    go_upto_region 10 with (fail)
    obtain ⟨W, hW⟩ : ∃ W, W = w7.alloc (.cells #[.int .i64 r0, .int .i64 r1, .int .i64 r2, .int .i64 r3] 25) := ⟨_, rfl⟩
    rw [← hW] at B Ka Kb Kj Kc Kd Ke Kf Kg Kh Ko Kr
    rw [← hW]
    have hs : w7.heap.size + 1 ≤ W.heap.size := by rw [hW]; simp
    clear hW h
    have qa0 := cellq (w := W) (b := w1.heap.size) (j := 0) (v := .int .i64 a0) (Ka.out.1 0)
    have qa1 := cellq (w := W) (b := w1.heap.size) (j := 1) (v := .int .i64 a1) (Ka.out.1 1)
    have qa2 := cellq (w := W) (b := w1.heap.size) (j := 2) (v := .int .i64 a2) (Ka.out.1 2)
    have qa3 := cellq (w := W) (b := w1.heap.size) (j := 3) (v := .int .i64 a3) (Ka.out.1 3)
    have qb0 := cellq (w := W) (b := (w1.heap.size + 1)) (j := 0) (v := .int .i64 b0) (Kb.out.1 0)
    have qb1 := cellq (w := W) (b := (w1.heap.size + 1)) (j := 1) (v := .int .i64 b1) (Kb.out.1 1)
    have qb2 := cellq (w := W) (b := (w1.heap.size + 1)) (j := 2) (v := .int .i64 b2) (Kb.out.1 2)
    have qb3 := cellq (w := W) (b := (w1.heap.size + 1)) (j := 3) (v := .int .i64 b3) (Kb.out.1 3)
    have qj0 := cellq (w := W) (b := w2.heap.size) (j := 0) (v := .int .i64 (lst a0 b0)) (Kj.out.1 0)
    have qj1 := cellq (w := W) (b := w2.heap.size) (j := 1) (v := .int .i64 (lst a1 b1)) (Kj.out.1 1)
    have qj2 := cellq (w := W) (b := w2.heap.size) (j := 2) (v := .int .i64 (mst a2 b2)) (Kj.out.1 2)
    have qj3 := cellq (w := W) (b := w2.heap.size) (j := 3) (v := .int .i64 (mst a3 b3)) (Kj.out.1 3)
    have qc0 := cellq (w := W) (b := w3.heap.size) (j := 0) (v := .int .i64 c0) (Kc.out.1 0)
    have qc1 := cellq (w := W) (b := w3.heap.size) (j := 1) (v := .int .i64 c1) (Kc.out.1 1)
    have qc2 := cellq (w := W) (b := w3.heap.size) (j := 2) (v := .int .i64 c2) (Kc.out.1 2)
    have qc3 := cellq (w := W) (b := w3.heap.size) (j := 3) (v := .int .i64 c3) (Kc.out.1 3)
    have qd0 := cellq (w := W) (b := (w3.heap.size + 1)) (j := 0) (v := .int .i64 d0) (Kd.out.1 0)
    have qd1 := cellq (w := W) (b := (w3.heap.size + 1)) (j := 1) (v := .int .i64 d1) (Kd.out.1 1)
    have qd2 := cellq (w := W) (b := (w3.heap.size + 1)) (j := 2) (v := .int .i64 d2) (Kd.out.1 2)
    have qd3 := cellq (w := W) (b := (w3.heap.size + 1)) (j := 3) (v := .int .i64 d3) (Kd.out.1 3)
    have qe0 := cellq (w := W) (b := w4.heap.size) (j := 0) (v := .int .i64 e0) (Ke.out.1 0)
    have qe1 := cellq (w := W) (b := w4.heap.size) (j := 1) (v := .int .i64 e1) (Ke.out.1 1)
    have qe2 := cellq (w := W) (b := w4.heap.size) (j := 2) (v := .int .i64 e2) (Ke.out.1 2)
    have qe3 := cellq (w := W) (b := w4.heap.size) (j := 3) (v := .int .i64 e3) (Ke.out.1 3)
    have qf0 := cellq (w := W) (b := (w4.heap.size + 1)) (j := 0) (v := .int .i64 f0) (Kf.out.1 0)
    have qf1 := cellq (w := W) (b := (w4.heap.size + 1)) (j := 1) (v := .int .i64 f1) (Kf.out.1 1)
    have qf2 := cellq (w := W) (b := (w4.heap.size + 1)) (j := 2) (v := .int .i64 f2) (Kf.out.1 2)
    have qf3 := cellq (w := W) (b := (w4.heap.size + 1)) (j := 3) (v := .int .i64 f3) (Kf.out.1 3)
    have qg0 := cellq (w := W) (b := w5.heap.size) (j := 0) (v := .int .i64 g0) (Kg.out.1 0)
    have qg1 := cellq (w := W) (b := w5.heap.size) (j := 1) (v := .int .i64 g1) (Kg.out.1 1)
    have qg2 := cellq (w := W) (b := w5.heap.size) (j := 2) (v := .int .i64 g2) (Kg.out.1 2)
    have qg3 := cellq (w := W) (b := w5.heap.size) (j := 3) (v := .int .i64 g3) (Kg.out.1 3)
    have qh0 := cellq (w := W) (b := (w5.heap.size + 1)) (j := 0) (v := .int .i64 h0) (Kh.out.1 0)
    have qh1 := cellq (w := W) (b := (w5.heap.size + 1)) (j := 1) (v := .int .i64 h1) (Kh.out.1 1)
    have qh2 := cellq (w := W) (b := (w5.heap.size + 1)) (j := 2) (v := .int .i64 h2) (Kh.out.1 2)
    have qh3 := cellq (w := W) (b := (w5.heap.size + 1)) (j := 3) (v := .int .i64 h3) (Kh.out.1 3)
    have qo0 := cellq (w := W) (b := w6.heap.size) (j := 0) (v := .int .i64 o0) (Ko.out.1 0)
    have qo1 := cellq (w := W) (b := w6.heap.size) (j := 1) (v := .int .i64 o1) (Ko.out.1 1)
    have qo2 := cellq (w := W) (b := w6.heap.size) (j := 2) (v := .int .i64 o2) (Ko.out.1 2)
    have qo3 := cellq (w := W) (b := w6.heap.size) (j := 3) (v := .int .i64 o3) (Ko.out.1 3)
    have qr0 := cellq (w := W) (b := w7.heap.size) (j := 0) (v := .int .i64 r0) (Kr.out.1 0)
    have qr1 := cellq (w := W) (b := w7.heap.size) (j := 1) (v := .int .i64 r1) (Kr.out.1 1)
    have qr2 := cellq (w := W) (b := w7.heap.size) (j := 2) (v := .int .i64 r2) (Kr.out.1 2)
    have qr3 := cellq (w := W) (b := w7.heap.size) (j := 3) (v := .int .i64 r3) (Kr.out.1 3)
    have hN : ∀ W : World, (binOp .neq 25 (.agg #[.int .i64 (lst a0 b0), .int .i64 (lst a1 b1), .int .i64 (mst a2 b2), .int .i64 (mst a3 b3)]) (.agg #[.int .i64 (lst a0 b0), .int .i64 (lst a1 b1), .int .i64 (mst a2 b2), .int .i64 (mst a3 b3)])).run Try.prog W = .ok (.bool false) W := fun W => by
      rw [neBox_run, boxEq_self]; rfl
    have C1 := Lib.hid (callq (w := W) (v' := .agg #[.int .i64 (lst a0 b0), .int .i64 (lst a1 b1), .int .i64 (mst a2 b2), .int .i64 (mst a3 b3)]) (fun V _ => sJoin_any a0 a1 a2 a3 b0 b1 b2 b3 V) rfl)
    have C2 := Lib.hid (callq (w := W) (v' := .bool (meetsB c0 c1 c2 c3 d0 d1 d2 d3)) (fun V _ => iMeets_any c0 c1 c2 c3 d0 d1 d2 d3 V) rfl)
    have C3 := Lib.hid (callq (w := W) (v' := .bool (meetsB c0 c1 c2 c3 d0 d1 d2 d3)) (fun V _ => sMeets_any c0 c1 c2 c3 d0 d1 d2 d3 V) rfl)
    have C4 := Lib.hid (callq (w := W) (v' := .bool (holdsB e0 e1 e2 e3 f0 f1 f2 f3)) (fun V _ => iHolds_any e0 e1 e2 e3 f0 f1 f2 f3 V) rfl)
    have C5 := Lib.hid (callq (w := W) (v' := .bool (holdsB e0 e1 e2 e3 f0 f1 f2 f3)) (fun V _ => sHolds_any e0 e1 e2 e3 f0 f1 f2 f3 V) rfl)
    have C6 := Lib.hid (callq (w := W) (v' := .int .i64 (areaB (lst g0 h0) (lst g1 h1) (mst g2 h2) (mst g3 h3) - areaB g0 g1 g2 g3)) (fun V _ => iGrowth_any g0 g1 g2 g3 h0 h1 h2 h3 V) rfl)
    have C7 := Lib.hid (callq (w := W) (v' := .int .i64 (areaB (lst g0 h0) (lst g1 h1) (mst g2 h2) (mst g3 h3) - areaB g0 g1 g2 g3)) (fun V _ => sGrowth_any g0 g1 g2 g3 h0 h1 h2 h3 V) rfl)
    have C8 := Lib.hid (callq (w := W) (v' := .bool (okB o0 o1 o2 o3)) (fun V _ => iBoxOk_any o0 o1 o2 o3 V) rfl)
    have C9 := Lib.hid (callq (w := W) (v' := .bool (okB o0 o1 o2 o3)) (fun V _ => sBoxOk_any o0 o1 o2 o3 V) rfl)
    have C10 := Lib.hid (callq (w := W) (v' := .int .i64 (areaB r0 r1 r2 r3)) (fun V _ => iArea_any r0 r1 r2 r3 V) rfl)
    have C11 := Lib.hid (callq (w := W) (v' := .int .i64 (areaB r0 r1 r2 r3)) (fun V _ => sArea_any r0 r1 r2 r3 V) rfl)
    refine wp_region_quiet_below (by kernel_rfl) (by kernel_rfl) ?_
    repeat (go_big_quiet_step (first | (go_at_call 20; with_reducible exact C1.out _ _) | (go_at_call 21; with_reducible exact C2.out _ _) | (go_at_call 22; with_reducible exact C3.out _ _) | (go_at_call 23; with_reducible exact C4.out _ _) | (go_at_call 24; with_reducible exact C5.out _ _) | (go_at_call 25; with_reducible exact C6.out _ _) | (go_at_call 26; with_reducible exact C7.out _ _) | (go_at_call 27; with_reducible exact C8.out _ _) | (go_at_call 28; with_reducible exact C9.out _ _) | (go_at_call 29; with_reducible exact C10.out _ _) | (go_at_call 30; with_reducible exact C11.out _ _)))
    refine wpQuiet_nil (quiet_end fun W2 hW2 => ?_)
    clear qa0 qa1 qa2 qa3 qb0 qb1 qb2 qb3 qj0 qj1 qj2 qj3 qc0 qc1 qc2 qc3 qd0 qd1 qd2 qd3 qe0 qe1 qe2 qe3 qf0 qf1 qf2 qf3 qg0 qg1 qg2 qg3 qh0 qh1 qh2 qh3 qo0 qo1 qo2 qo3 qr0 qr1 qr2 qr3
    clear hN C1 C2 C3 C4 C5 C6 C7 C8 C9 C10 C11
    replace Ka := Lib.hid (below_keep hW2 (by omega) _ _ Ka.out)
    replace Kb := Lib.hid (below_keep hW2 (by omega) _ _ Kb.out)
    replace Kj := Lib.hid (below_keep hW2 (by omega) _ _ Kj.out)
    replace Kc := Lib.hid (below_keep hW2 (by omega) _ _ Kc.out)
    replace Kd := Lib.hid (below_keep hW2 (by omega) _ _ Kd.out)
    replace Ke := Lib.hid (below_keep hW2 (by omega) _ _ Ke.out)
    replace Kf := Lib.hid (below_keep hW2 (by omega) _ _ Kf.out)
    replace Kg := Lib.hid (below_keep hW2 (by omega) _ _ Kg.out)
    replace Kh := Lib.hid (below_keep hW2 (by omega) _ _ Kh.out)
    replace Ko := Lib.hid (below_keep hW2 (by omega) _ _ Ko.out)
    replace Kr := Lib.hid (below_keep hW2 (by omega) _ _ Kr.out)
    have hs2 := hW2.size
    replace B := B.trans (hW2.mono B.size)
    clear hW2
    go_upto_region 12 with (fail)
    have qa0 := cellq (w := W2) (b := w1.heap.size) (j := 0) (v := .int .i64 a0) (Ka.out.1 0)
    have qa1 := cellq (w := W2) (b := w1.heap.size) (j := 1) (v := .int .i64 a1) (Ka.out.1 1)
    have qa2 := cellq (w := W2) (b := w1.heap.size) (j := 2) (v := .int .i64 a2) (Ka.out.1 2)
    have qa3 := cellq (w := W2) (b := w1.heap.size) (j := 3) (v := .int .i64 a3) (Ka.out.1 3)
    have qb0 := cellq (w := W2) (b := (w1.heap.size + 1)) (j := 0) (v := .int .i64 b0) (Kb.out.1 0)
    have qb1 := cellq (w := W2) (b := (w1.heap.size + 1)) (j := 1) (v := .int .i64 b1) (Kb.out.1 1)
    have qb2 := cellq (w := W2) (b := (w1.heap.size + 1)) (j := 2) (v := .int .i64 b2) (Kb.out.1 2)
    have qb3 := cellq (w := W2) (b := (w1.heap.size + 1)) (j := 3) (v := .int .i64 b3) (Kb.out.1 3)
    have qj0 := cellq (w := W2) (b := w2.heap.size) (j := 0) (v := .int .i64 (lst a0 b0)) (Kj.out.1 0)
    have qj1 := cellq (w := W2) (b := w2.heap.size) (j := 1) (v := .int .i64 (lst a1 b1)) (Kj.out.1 1)
    have qj2 := cellq (w := W2) (b := w2.heap.size) (j := 2) (v := .int .i64 (mst a2 b2)) (Kj.out.1 2)
    have qj3 := cellq (w := W2) (b := w2.heap.size) (j := 3) (v := .int .i64 (mst a3 b3)) (Kj.out.1 3)
    have qc0 := cellq (w := W2) (b := w3.heap.size) (j := 0) (v := .int .i64 c0) (Kc.out.1 0)
    have qc1 := cellq (w := W2) (b := w3.heap.size) (j := 1) (v := .int .i64 c1) (Kc.out.1 1)
    have qc2 := cellq (w := W2) (b := w3.heap.size) (j := 2) (v := .int .i64 c2) (Kc.out.1 2)
    have qc3 := cellq (w := W2) (b := w3.heap.size) (j := 3) (v := .int .i64 c3) (Kc.out.1 3)
    have qd0 := cellq (w := W2) (b := (w3.heap.size + 1)) (j := 0) (v := .int .i64 d0) (Kd.out.1 0)
    have qd1 := cellq (w := W2) (b := (w3.heap.size + 1)) (j := 1) (v := .int .i64 d1) (Kd.out.1 1)
    have qd2 := cellq (w := W2) (b := (w3.heap.size + 1)) (j := 2) (v := .int .i64 d2) (Kd.out.1 2)
    have qd3 := cellq (w := W2) (b := (w3.heap.size + 1)) (j := 3) (v := .int .i64 d3) (Kd.out.1 3)
    have qe0 := cellq (w := W2) (b := w4.heap.size) (j := 0) (v := .int .i64 e0) (Ke.out.1 0)
    have qe1 := cellq (w := W2) (b := w4.heap.size) (j := 1) (v := .int .i64 e1) (Ke.out.1 1)
    have qe2 := cellq (w := W2) (b := w4.heap.size) (j := 2) (v := .int .i64 e2) (Ke.out.1 2)
    have qe3 := cellq (w := W2) (b := w4.heap.size) (j := 3) (v := .int .i64 e3) (Ke.out.1 3)
    have qf0 := cellq (w := W2) (b := (w4.heap.size + 1)) (j := 0) (v := .int .i64 f0) (Kf.out.1 0)
    have qf1 := cellq (w := W2) (b := (w4.heap.size + 1)) (j := 1) (v := .int .i64 f1) (Kf.out.1 1)
    have qf2 := cellq (w := W2) (b := (w4.heap.size + 1)) (j := 2) (v := .int .i64 f2) (Kf.out.1 2)
    have qf3 := cellq (w := W2) (b := (w4.heap.size + 1)) (j := 3) (v := .int .i64 f3) (Kf.out.1 3)
    have qg0 := cellq (w := W2) (b := w5.heap.size) (j := 0) (v := .int .i64 g0) (Kg.out.1 0)
    have qg1 := cellq (w := W2) (b := w5.heap.size) (j := 1) (v := .int .i64 g1) (Kg.out.1 1)
    have qg2 := cellq (w := W2) (b := w5.heap.size) (j := 2) (v := .int .i64 g2) (Kg.out.1 2)
    have qg3 := cellq (w := W2) (b := w5.heap.size) (j := 3) (v := .int .i64 g3) (Kg.out.1 3)
    have qh0 := cellq (w := W2) (b := (w5.heap.size + 1)) (j := 0) (v := .int .i64 h0) (Kh.out.1 0)
    have qh1 := cellq (w := W2) (b := (w5.heap.size + 1)) (j := 1) (v := .int .i64 h1) (Kh.out.1 1)
    have qh2 := cellq (w := W2) (b := (w5.heap.size + 1)) (j := 2) (v := .int .i64 h2) (Kh.out.1 2)
    have qh3 := cellq (w := W2) (b := (w5.heap.size + 1)) (j := 3) (v := .int .i64 h3) (Kh.out.1 3)
    have qo0 := cellq (w := W2) (b := w6.heap.size) (j := 0) (v := .int .i64 o0) (Ko.out.1 0)
    have qo1 := cellq (w := W2) (b := w6.heap.size) (j := 1) (v := .int .i64 o1) (Ko.out.1 1)
    have qo2 := cellq (w := W2) (b := w6.heap.size) (j := 2) (v := .int .i64 o2) (Ko.out.1 2)
    have qo3 := cellq (w := W2) (b := w6.heap.size) (j := 3) (v := .int .i64 o3) (Ko.out.1 3)
    have qr0 := cellq (w := W2) (b := w7.heap.size) (j := 0) (v := .int .i64 r0) (Kr.out.1 0)
    have qr1 := cellq (w := W2) (b := w7.heap.size) (j := 1) (v := .int .i64 r1) (Kr.out.1 1)
    have qr2 := cellq (w := W2) (b := w7.heap.size) (j := 2) (v := .int .i64 r2) (Kr.out.1 2)
    have qr3 := cellq (w := W2) (b := w7.heap.size) (j := 3) (v := .int .i64 r3) (Kr.out.1 3)
    have hE1 : ∀ W : World, (binOp .eql 25 (.agg #[.int .i64 (lst a0 b0), .int .i64 (lst a1 b1), .int .i64 (mst a2 b2), .int .i64 (mst a3 b3)]) (.agg #[.int .i64 (lst b0 a0), .int .i64 (lst b1 a1), .int .i64 (mst b2 a2), .int .i64 (mst b3 a3)])).run Try.prog W = .ok (.bool true) W := fun W => by
      rw [eqBox_run, lst_comm b0, lst_comm b1, mst_comm b2, mst_comm b3, boxEq_self]
    have hE2 : ∀ W : World, (binOp .eql 25 (.agg #[.int .i64 (lst a0 a0), .int .i64 (lst a1 a1), .int .i64 (mst a2 a2), .int .i64 (mst a3 a3)]) (.agg #[.int .i64 a0, .int .i64 a1, .int .i64 a2, .int .i64 a3])).run Try.prog W = .ok (.bool true) W := fun W => by
      rw [eqBox_run, lst_self, lst_self, mst_self, mst_self, boxEq_self]
    have D1 := Lib.hid (callv (v' := .bool true) (fun V => iHolds_any (lst a0 b0) (lst a1 b1) (mst a2 b2) (mst a3 b3) a0 a1 a2 a3 V) (by rw [holds_left]))
    have D2 := Lib.hid (callv (v' := .bool true) (fun V => iHolds_any (lst a0 b0) (lst a1 b1) (mst a2 b2) (mst a3 b3) b0 b1 b2 b3 V) (by rw [holds_right]))
    have D3 := Lib.hid (callv (v' := .agg #[.int .i64 (lst b0 a0), .int .i64 (lst b1 a1), .int .i64 (mst b2 a2), .int .i64 (mst b3 a3)]) (fun V => iJoin_any b0 b1 b2 b3 a0 a1 a2 a3 V) rfl)
    have D4 := Lib.hid (callv (v' := .agg #[.int .i64 (lst a0 a0), .int .i64 (lst a1 a1), .int .i64 (mst a2 a2), .int .i64 (mst a3 a3)]) (fun V => iJoin_any a0 a1 a2 a3 a0 a1 a2 a3 V) rfl)
    have D5 := Lib.hid (callv (v' := .bool (meetsB c0 c1 c2 c3 d0 d1 d2 d3)) (fun V => iMeets_any c0 c1 c2 c3 d0 d1 d2 d3 V) rfl)
    have D6 := Lib.hid (callv (v' := .bool (meetsB c0 c1 c2 c3 d0 d1 d2 d3)) (fun V => iMeets_any d0 d1 d2 d3 c0 c1 c2 c3 V) (by rw [meetsB_comm]))
    cases hO : okB o0 o1 o2 o3 with
    | true =>
      have E1 := Lib.hid (callv (v' := .bool true) (fun V => iBoxOk_any o0 o1 o2 o3 V) (by rw [hO]))
      have ho1 := areaB_pos hO
      have E2 := Lib.hid (callv (v' := .int .i64 (areaB o0 o1 o2 o3)) (fun V => iArea_any o0 o1 o2 o3 V) rfl)
      have E3 := Lib.hid (callv (v' := .bool true) (fun V => iMeets_any o0 o1 o2 o3 o0 o1 o2 o3 V) (by rw [meetsB_self hO]))
      cases hA : okB a0 a1 a2 a3 with
      | false =>
        have G1 := Lib.hid (callv (v' := .bool false) (fun V => iBoxOk_any a0 a1 a2 a3 V) (by rw [hA]))
        refine wp_plain_quiet_below ?_
        repeat (go_big_quiet_step (first | (go_at_call 27; with_reducible exact callr (G1.out _))))
        refine wpQuiet_nil (quiet_end fun W4 hW4 => ?_)
        clear qa0 qa1 qa2 qa3 qb0 qb1 qb2 qb3 qj0 qj1 qj2 qj3 qc0 qc1 qc2 qc3 qd0 qd1 qd2 qd3 qe0 qe1 qe2 qe3 qf0 qf1 qf2 qf3 qg0 qg1 qg2 qg3 qh0 qh1 qh2 qh3 qo0 qo1 qo2 qo3 qr0 qr1 qr2 qr3
        replace Ka := Lib.hid (below_keep hW4 (by omega) _ _ Ka.out)
        replace Kb := Lib.hid (below_keep hW4 (by omega) _ _ Kb.out)
        replace Kj := Lib.hid (below_keep hW4 (by omega) _ _ Kj.out)
        replace Kc := Lib.hid (below_keep hW4 (by omega) _ _ Kc.out)
        replace Kd := Lib.hid (below_keep hW4 (by omega) _ _ Kd.out)
        replace Ke := Lib.hid (below_keep hW4 (by omega) _ _ Ke.out)
        replace Kf := Lib.hid (below_keep hW4 (by omega) _ _ Kf.out)
        replace Kg := Lib.hid (below_keep hW4 (by omega) _ _ Kg.out)
        replace Kh := Lib.hid (below_keep hW4 (by omega) _ _ Kh.out)
        replace Ko := Lib.hid (below_keep hW4 (by omega) _ _ Ko.out)
        replace Kr := Lib.hid (below_keep hW4 (by omega) _ _ Kr.out)
        have qa0 := cellq (w := W4) (b := w1.heap.size) (j := 0) (v := .int .i64 a0) (Ka.out.1 0)
        have qa1 := cellq (w := W4) (b := w1.heap.size) (j := 1) (v := .int .i64 a1) (Ka.out.1 1)
        have qa2 := cellq (w := W4) (b := w1.heap.size) (j := 2) (v := .int .i64 a2) (Ka.out.1 2)
        have qa3 := cellq (w := W4) (b := w1.heap.size) (j := 3) (v := .int .i64 a3) (Ka.out.1 3)
        have qb0 := cellq (w := W4) (b := (w1.heap.size + 1)) (j := 0) (v := .int .i64 b0) (Kb.out.1 0)
        have qb1 := cellq (w := W4) (b := (w1.heap.size + 1)) (j := 1) (v := .int .i64 b1) (Kb.out.1 1)
        have qb2 := cellq (w := W4) (b := (w1.heap.size + 1)) (j := 2) (v := .int .i64 b2) (Kb.out.1 2)
        have qb3 := cellq (w := W4) (b := (w1.heap.size + 1)) (j := 3) (v := .int .i64 b3) (Kb.out.1 3)
        have qj0 := cellq (w := W4) (b := w2.heap.size) (j := 0) (v := .int .i64 (lst a0 b0)) (Kj.out.1 0)
        have qj1 := cellq (w := W4) (b := w2.heap.size) (j := 1) (v := .int .i64 (lst a1 b1)) (Kj.out.1 1)
        have qj2 := cellq (w := W4) (b := w2.heap.size) (j := 2) (v := .int .i64 (mst a2 b2)) (Kj.out.1 2)
        have qj3 := cellq (w := W4) (b := w2.heap.size) (j := 3) (v := .int .i64 (mst a3 b3)) (Kj.out.1 3)
        have qc0 := cellq (w := W4) (b := w3.heap.size) (j := 0) (v := .int .i64 c0) (Kc.out.1 0)
        have qc1 := cellq (w := W4) (b := w3.heap.size) (j := 1) (v := .int .i64 c1) (Kc.out.1 1)
        have qc2 := cellq (w := W4) (b := w3.heap.size) (j := 2) (v := .int .i64 c2) (Kc.out.1 2)
        have qc3 := cellq (w := W4) (b := w3.heap.size) (j := 3) (v := .int .i64 c3) (Kc.out.1 3)
        have qd0 := cellq (w := W4) (b := (w3.heap.size + 1)) (j := 0) (v := .int .i64 d0) (Kd.out.1 0)
        have qd1 := cellq (w := W4) (b := (w3.heap.size + 1)) (j := 1) (v := .int .i64 d1) (Kd.out.1 1)
        have qd2 := cellq (w := W4) (b := (w3.heap.size + 1)) (j := 2) (v := .int .i64 d2) (Kd.out.1 2)
        have qd3 := cellq (w := W4) (b := (w3.heap.size + 1)) (j := 3) (v := .int .i64 d3) (Kd.out.1 3)
        have qe0 := cellq (w := W4) (b := w4.heap.size) (j := 0) (v := .int .i64 e0) (Ke.out.1 0)
        have qe1 := cellq (w := W4) (b := w4.heap.size) (j := 1) (v := .int .i64 e1) (Ke.out.1 1)
        have qe2 := cellq (w := W4) (b := w4.heap.size) (j := 2) (v := .int .i64 e2) (Ke.out.1 2)
        have qe3 := cellq (w := W4) (b := w4.heap.size) (j := 3) (v := .int .i64 e3) (Ke.out.1 3)
        have qf0 := cellq (w := W4) (b := (w4.heap.size + 1)) (j := 0) (v := .int .i64 f0) (Kf.out.1 0)
        have qf1 := cellq (w := W4) (b := (w4.heap.size + 1)) (j := 1) (v := .int .i64 f1) (Kf.out.1 1)
        have qf2 := cellq (w := W4) (b := (w4.heap.size + 1)) (j := 2) (v := .int .i64 f2) (Kf.out.1 2)
        have qf3 := cellq (w := W4) (b := (w4.heap.size + 1)) (j := 3) (v := .int .i64 f3) (Kf.out.1 3)
        have qg0 := cellq (w := W4) (b := w5.heap.size) (j := 0) (v := .int .i64 g0) (Kg.out.1 0)
        have qg1 := cellq (w := W4) (b := w5.heap.size) (j := 1) (v := .int .i64 g1) (Kg.out.1 1)
        have qg2 := cellq (w := W4) (b := w5.heap.size) (j := 2) (v := .int .i64 g2) (Kg.out.1 2)
        have qg3 := cellq (w := W4) (b := w5.heap.size) (j := 3) (v := .int .i64 g3) (Kg.out.1 3)
        have qh0 := cellq (w := W4) (b := (w5.heap.size + 1)) (j := 0) (v := .int .i64 h0) (Kh.out.1 0)
        have qh1 := cellq (w := W4) (b := (w5.heap.size + 1)) (j := 1) (v := .int .i64 h1) (Kh.out.1 1)
        have qh2 := cellq (w := W4) (b := (w5.heap.size + 1)) (j := 2) (v := .int .i64 h2) (Kh.out.1 2)
        have qh3 := cellq (w := W4) (b := (w5.heap.size + 1)) (j := 3) (v := .int .i64 h3) (Kh.out.1 3)
        have qo0 := cellq (w := W4) (b := w6.heap.size) (j := 0) (v := .int .i64 o0) (Ko.out.1 0)
        have qo1 := cellq (w := W4) (b := w6.heap.size) (j := 1) (v := .int .i64 o1) (Ko.out.1 1)
        have qo2 := cellq (w := W4) (b := w6.heap.size) (j := 2) (v := .int .i64 o2) (Ko.out.1 2)
        have qo3 := cellq (w := W4) (b := w6.heap.size) (j := 3) (v := .int .i64 o3) (Ko.out.1 3)
        have qr0 := cellq (w := W4) (b := w7.heap.size) (j := 0) (v := .int .i64 r0) (Kr.out.1 0)
        have qr1 := cellq (w := W4) (b := w7.heap.size) (j := 1) (v := .int .i64 r1) (Kr.out.1 1)
        have qr2 := cellq (w := W4) (b := w7.heap.size) (j := 2) (v := .int .i64 r2) (Kr.out.1 2)
        have qr3 := cellq (w := W4) (b := w7.heap.size) (j := 3) (v := .int .i64 r3) (Kr.out.1 3)
        go_upto_region 13 with (fail)
        dsimp only [List.append]
        first | refine wp_region_quiet_below (by kernel_rfl) (by kernel_rfl) ?_ | refine wp_plain_quiet_below ?_
        repeat (go_big_quiet_step (first | (go_at_call 23; with_reducible exact callr (D1.out _)) | (go_at_call 23; with_reducible exact callr (D2.out _)) | (go_at_call 14; with_reducible exact callr (D3.out _)) | (go_at_call 14; with_reducible exact callr (D4.out _)) | (go_at_call 21; with_reducible exact callr (D5.out _)) | (go_at_call 21; with_reducible exact callr (D6.out _)) | (go_at_call 27; with_reducible exact callr (E1.out _)) | (go_at_call 29; with_reducible exact callr (E2.out _)) | (go_at_call 21; with_reducible exact callr (E3.out _)) | (go_at_call 27; with_reducible exact callr (G1.out _))))
        refine wpQuiet_nil ?_
        intro _ hw'
        obtain ⟨⟨dq, osq⟩, hw''⟩ := hw'
        subst hw''
        have hW5 := hW4.trans ((below_regrown W4 dq osq).mono hW4.size)
        go_wp2
        go_ret
        exact ⟨rfl, B.trans (hW5.mono B.size)⟩
      | true =>
        have G1 := Lib.hid (callv (v' := .bool true) (fun V => iBoxOk_any a0 a1 a2 a3 V) (by rw [hA]))
        cases hB : okB b0 b1 b2 b3 with
        | false =>
          have G2 := Lib.hid (callv (v' := .bool false) (fun V => iBoxOk_any b0 b1 b2 b3 V) (by rw [hB]))
          refine wp_plain_quiet_below ?_
          repeat (go_big_quiet_step (first | (go_at_call 27; with_reducible exact callr (G1.out _)) | (go_at_call 27; with_reducible exact callr (G2.out _))))
          refine wpQuiet_nil (quiet_end fun W4 hW4 => ?_)
          clear qa0 qa1 qa2 qa3 qb0 qb1 qb2 qb3 qj0 qj1 qj2 qj3 qc0 qc1 qc2 qc3 qd0 qd1 qd2 qd3 qe0 qe1 qe2 qe3 qf0 qf1 qf2 qf3 qg0 qg1 qg2 qg3 qh0 qh1 qh2 qh3 qo0 qo1 qo2 qo3 qr0 qr1 qr2 qr3
          replace Ka := Lib.hid (below_keep hW4 (by omega) _ _ Ka.out)
          replace Kb := Lib.hid (below_keep hW4 (by omega) _ _ Kb.out)
          replace Kj := Lib.hid (below_keep hW4 (by omega) _ _ Kj.out)
          replace Kc := Lib.hid (below_keep hW4 (by omega) _ _ Kc.out)
          replace Kd := Lib.hid (below_keep hW4 (by omega) _ _ Kd.out)
          replace Ke := Lib.hid (below_keep hW4 (by omega) _ _ Ke.out)
          replace Kf := Lib.hid (below_keep hW4 (by omega) _ _ Kf.out)
          replace Kg := Lib.hid (below_keep hW4 (by omega) _ _ Kg.out)
          replace Kh := Lib.hid (below_keep hW4 (by omega) _ _ Kh.out)
          replace Ko := Lib.hid (below_keep hW4 (by omega) _ _ Ko.out)
          replace Kr := Lib.hid (below_keep hW4 (by omega) _ _ Kr.out)
          have qa0 := cellq (w := W4) (b := w1.heap.size) (j := 0) (v := .int .i64 a0) (Ka.out.1 0)
          have qa1 := cellq (w := W4) (b := w1.heap.size) (j := 1) (v := .int .i64 a1) (Ka.out.1 1)
          have qa2 := cellq (w := W4) (b := w1.heap.size) (j := 2) (v := .int .i64 a2) (Ka.out.1 2)
          have qa3 := cellq (w := W4) (b := w1.heap.size) (j := 3) (v := .int .i64 a3) (Ka.out.1 3)
          have qb0 := cellq (w := W4) (b := (w1.heap.size + 1)) (j := 0) (v := .int .i64 b0) (Kb.out.1 0)
          have qb1 := cellq (w := W4) (b := (w1.heap.size + 1)) (j := 1) (v := .int .i64 b1) (Kb.out.1 1)
          have qb2 := cellq (w := W4) (b := (w1.heap.size + 1)) (j := 2) (v := .int .i64 b2) (Kb.out.1 2)
          have qb3 := cellq (w := W4) (b := (w1.heap.size + 1)) (j := 3) (v := .int .i64 b3) (Kb.out.1 3)
          have qj0 := cellq (w := W4) (b := w2.heap.size) (j := 0) (v := .int .i64 (lst a0 b0)) (Kj.out.1 0)
          have qj1 := cellq (w := W4) (b := w2.heap.size) (j := 1) (v := .int .i64 (lst a1 b1)) (Kj.out.1 1)
          have qj2 := cellq (w := W4) (b := w2.heap.size) (j := 2) (v := .int .i64 (mst a2 b2)) (Kj.out.1 2)
          have qj3 := cellq (w := W4) (b := w2.heap.size) (j := 3) (v := .int .i64 (mst a3 b3)) (Kj.out.1 3)
          have qc0 := cellq (w := W4) (b := w3.heap.size) (j := 0) (v := .int .i64 c0) (Kc.out.1 0)
          have qc1 := cellq (w := W4) (b := w3.heap.size) (j := 1) (v := .int .i64 c1) (Kc.out.1 1)
          have qc2 := cellq (w := W4) (b := w3.heap.size) (j := 2) (v := .int .i64 c2) (Kc.out.1 2)
          have qc3 := cellq (w := W4) (b := w3.heap.size) (j := 3) (v := .int .i64 c3) (Kc.out.1 3)
          have qd0 := cellq (w := W4) (b := (w3.heap.size + 1)) (j := 0) (v := .int .i64 d0) (Kd.out.1 0)
          have qd1 := cellq (w := W4) (b := (w3.heap.size + 1)) (j := 1) (v := .int .i64 d1) (Kd.out.1 1)
          have qd2 := cellq (w := W4) (b := (w3.heap.size + 1)) (j := 2) (v := .int .i64 d2) (Kd.out.1 2)
          have qd3 := cellq (w := W4) (b := (w3.heap.size + 1)) (j := 3) (v := .int .i64 d3) (Kd.out.1 3)
          have qe0 := cellq (w := W4) (b := w4.heap.size) (j := 0) (v := .int .i64 e0) (Ke.out.1 0)
          have qe1 := cellq (w := W4) (b := w4.heap.size) (j := 1) (v := .int .i64 e1) (Ke.out.1 1)
          have qe2 := cellq (w := W4) (b := w4.heap.size) (j := 2) (v := .int .i64 e2) (Ke.out.1 2)
          have qe3 := cellq (w := W4) (b := w4.heap.size) (j := 3) (v := .int .i64 e3) (Ke.out.1 3)
          have qf0 := cellq (w := W4) (b := (w4.heap.size + 1)) (j := 0) (v := .int .i64 f0) (Kf.out.1 0)
          have qf1 := cellq (w := W4) (b := (w4.heap.size + 1)) (j := 1) (v := .int .i64 f1) (Kf.out.1 1)
          have qf2 := cellq (w := W4) (b := (w4.heap.size + 1)) (j := 2) (v := .int .i64 f2) (Kf.out.1 2)
          have qf3 := cellq (w := W4) (b := (w4.heap.size + 1)) (j := 3) (v := .int .i64 f3) (Kf.out.1 3)
          have qg0 := cellq (w := W4) (b := w5.heap.size) (j := 0) (v := .int .i64 g0) (Kg.out.1 0)
          have qg1 := cellq (w := W4) (b := w5.heap.size) (j := 1) (v := .int .i64 g1) (Kg.out.1 1)
          have qg2 := cellq (w := W4) (b := w5.heap.size) (j := 2) (v := .int .i64 g2) (Kg.out.1 2)
          have qg3 := cellq (w := W4) (b := w5.heap.size) (j := 3) (v := .int .i64 g3) (Kg.out.1 3)
          have qh0 := cellq (w := W4) (b := (w5.heap.size + 1)) (j := 0) (v := .int .i64 h0) (Kh.out.1 0)
          have qh1 := cellq (w := W4) (b := (w5.heap.size + 1)) (j := 1) (v := .int .i64 h1) (Kh.out.1 1)
          have qh2 := cellq (w := W4) (b := (w5.heap.size + 1)) (j := 2) (v := .int .i64 h2) (Kh.out.1 2)
          have qh3 := cellq (w := W4) (b := (w5.heap.size + 1)) (j := 3) (v := .int .i64 h3) (Kh.out.1 3)
          have qo0 := cellq (w := W4) (b := w6.heap.size) (j := 0) (v := .int .i64 o0) (Ko.out.1 0)
          have qo1 := cellq (w := W4) (b := w6.heap.size) (j := 1) (v := .int .i64 o1) (Ko.out.1 1)
          have qo2 := cellq (w := W4) (b := w6.heap.size) (j := 2) (v := .int .i64 o2) (Ko.out.1 2)
          have qo3 := cellq (w := W4) (b := w6.heap.size) (j := 3) (v := .int .i64 o3) (Ko.out.1 3)
          have qr0 := cellq (w := W4) (b := w7.heap.size) (j := 0) (v := .int .i64 r0) (Kr.out.1 0)
          have qr1 := cellq (w := W4) (b := w7.heap.size) (j := 1) (v := .int .i64 r1) (Kr.out.1 1)
          have qr2 := cellq (w := W4) (b := w7.heap.size) (j := 2) (v := .int .i64 r2) (Kr.out.1 2)
          have qr3 := cellq (w := W4) (b := w7.heap.size) (j := 3) (v := .int .i64 r3) (Kr.out.1 3)
          go_upto_region 13 with (fail)
          dsimp only [List.append]
          first | refine wp_region_quiet_below (by kernel_rfl) (by kernel_rfl) ?_ | refine wp_plain_quiet_below ?_
          repeat (go_big_quiet_step (first | (go_at_call 23; with_reducible exact callr (D1.out _)) | (go_at_call 23; with_reducible exact callr (D2.out _)) | (go_at_call 14; with_reducible exact callr (D3.out _)) | (go_at_call 14; with_reducible exact callr (D4.out _)) | (go_at_call 21; with_reducible exact callr (D5.out _)) | (go_at_call 21; with_reducible exact callr (D6.out _)) | (go_at_call 27; with_reducible exact callr (E1.out _)) | (go_at_call 29; with_reducible exact callr (E2.out _)) | (go_at_call 21; with_reducible exact callr (E3.out _)) | (go_at_call 27; with_reducible exact callr (G1.out _)) | (go_at_call 27; with_reducible exact callr (G2.out _))))
          refine wpQuiet_nil ?_
          intro _ hw'
          obtain ⟨⟨dq, osq⟩, hw''⟩ := hw'
          subst hw''
          have hW5 := hW4.trans ((below_regrown W4 dq osq).mono hW4.size)
          go_wp2
          go_ret
          exact ⟨rfl, B.trans (hW5.mono B.size)⟩
        | true =>
          have G2 := Lib.hid (callv (v' := .bool true) (fun V => iBoxOk_any b0 b1 b2 b3 V) (by rw [hB]))
          have G3 := Lib.hid (callv (v' := .bool true) (fun V => iBoxOk_any (lst a0 b0) (lst a1 b1) (mst a2 b2) (mst a3 b3) V) (by rw [okB_join hA hB]))
          have G4 := Lib.hid (callv (v' := .int .i64 (areaB (lst a0 b0) (lst a1 b1) (mst a2 b2) (mst a3 b3))) (fun V => iArea_any (lst a0 b0) (lst a1 b1) (mst a2 b2) (mst a3 b3) V) rfl)
          have G5 := Lib.hid (callv (v' := .int .i64 (areaB a0 a1 a2 a3)) (fun V => iArea_any a0 a1 a2 a3 V) rfl)
          have G6 := Lib.hid (callv (v' := .int .i64 (areaB (lst a0 b0) (lst a1 b1) (mst a2 b2) (mst a3 b3) - areaB a0 a1 a2 a3)) (fun V => iGrowth_any a0 a1 a2 a3 b0 b1 b2 b3 V) rfl)
          have hle := areaB_join hA hB
          have hle0 : 0 ≤ areaB (lst a0 b0) (lst a1 b1) (mst a2 b2) (mst a3 b3) - areaB a0 a1 a2 a3 := by omega
          refine wp_plain_quiet_below ?_
          repeat (go_big_quiet_step (first | (go_at_call 27; with_reducible exact callr (G1.out _)) | (go_at_call 27; with_reducible exact callr (G2.out _))))
          refine wpQuiet_nil (quiet_end fun W4 hW4 => ?_)
          clear qa0 qa1 qa2 qa3 qb0 qb1 qb2 qb3 qj0 qj1 qj2 qj3 qc0 qc1 qc2 qc3 qd0 qd1 qd2 qd3 qe0 qe1 qe2 qe3 qf0 qf1 qf2 qf3 qg0 qg1 qg2 qg3 qh0 qh1 qh2 qh3 qo0 qo1 qo2 qo3 qr0 qr1 qr2 qr3
          replace Ka := Lib.hid (below_keep hW4 (by omega) _ _ Ka.out)
          replace Kb := Lib.hid (below_keep hW4 (by omega) _ _ Kb.out)
          replace Kj := Lib.hid (below_keep hW4 (by omega) _ _ Kj.out)
          replace Kc := Lib.hid (below_keep hW4 (by omega) _ _ Kc.out)
          replace Kd := Lib.hid (below_keep hW4 (by omega) _ _ Kd.out)
          replace Ke := Lib.hid (below_keep hW4 (by omega) _ _ Ke.out)
          replace Kf := Lib.hid (below_keep hW4 (by omega) _ _ Kf.out)
          replace Kg := Lib.hid (below_keep hW4 (by omega) _ _ Kg.out)
          replace Kh := Lib.hid (below_keep hW4 (by omega) _ _ Kh.out)
          replace Ko := Lib.hid (below_keep hW4 (by omega) _ _ Ko.out)
          replace Kr := Lib.hid (below_keep hW4 (by omega) _ _ Kr.out)
          have qa0 := cellq (w := W4) (b := w1.heap.size) (j := 0) (v := .int .i64 a0) (Ka.out.1 0)
          have qa1 := cellq (w := W4) (b := w1.heap.size) (j := 1) (v := .int .i64 a1) (Ka.out.1 1)
          have qa2 := cellq (w := W4) (b := w1.heap.size) (j := 2) (v := .int .i64 a2) (Ka.out.1 2)
          have qa3 := cellq (w := W4) (b := w1.heap.size) (j := 3) (v := .int .i64 a3) (Ka.out.1 3)
          have qb0 := cellq (w := W4) (b := (w1.heap.size + 1)) (j := 0) (v := .int .i64 b0) (Kb.out.1 0)
          have qb1 := cellq (w := W4) (b := (w1.heap.size + 1)) (j := 1) (v := .int .i64 b1) (Kb.out.1 1)
          have qb2 := cellq (w := W4) (b := (w1.heap.size + 1)) (j := 2) (v := .int .i64 b2) (Kb.out.1 2)
          have qb3 := cellq (w := W4) (b := (w1.heap.size + 1)) (j := 3) (v := .int .i64 b3) (Kb.out.1 3)
          have qj0 := cellq (w := W4) (b := w2.heap.size) (j := 0) (v := .int .i64 (lst a0 b0)) (Kj.out.1 0)
          have qj1 := cellq (w := W4) (b := w2.heap.size) (j := 1) (v := .int .i64 (lst a1 b1)) (Kj.out.1 1)
          have qj2 := cellq (w := W4) (b := w2.heap.size) (j := 2) (v := .int .i64 (mst a2 b2)) (Kj.out.1 2)
          have qj3 := cellq (w := W4) (b := w2.heap.size) (j := 3) (v := .int .i64 (mst a3 b3)) (Kj.out.1 3)
          have qc0 := cellq (w := W4) (b := w3.heap.size) (j := 0) (v := .int .i64 c0) (Kc.out.1 0)
          have qc1 := cellq (w := W4) (b := w3.heap.size) (j := 1) (v := .int .i64 c1) (Kc.out.1 1)
          have qc2 := cellq (w := W4) (b := w3.heap.size) (j := 2) (v := .int .i64 c2) (Kc.out.1 2)
          have qc3 := cellq (w := W4) (b := w3.heap.size) (j := 3) (v := .int .i64 c3) (Kc.out.1 3)
          have qd0 := cellq (w := W4) (b := (w3.heap.size + 1)) (j := 0) (v := .int .i64 d0) (Kd.out.1 0)
          have qd1 := cellq (w := W4) (b := (w3.heap.size + 1)) (j := 1) (v := .int .i64 d1) (Kd.out.1 1)
          have qd2 := cellq (w := W4) (b := (w3.heap.size + 1)) (j := 2) (v := .int .i64 d2) (Kd.out.1 2)
          have qd3 := cellq (w := W4) (b := (w3.heap.size + 1)) (j := 3) (v := .int .i64 d3) (Kd.out.1 3)
          have qe0 := cellq (w := W4) (b := w4.heap.size) (j := 0) (v := .int .i64 e0) (Ke.out.1 0)
          have qe1 := cellq (w := W4) (b := w4.heap.size) (j := 1) (v := .int .i64 e1) (Ke.out.1 1)
          have qe2 := cellq (w := W4) (b := w4.heap.size) (j := 2) (v := .int .i64 e2) (Ke.out.1 2)
          have qe3 := cellq (w := W4) (b := w4.heap.size) (j := 3) (v := .int .i64 e3) (Ke.out.1 3)
          have qf0 := cellq (w := W4) (b := (w4.heap.size + 1)) (j := 0) (v := .int .i64 f0) (Kf.out.1 0)
          have qf1 := cellq (w := W4) (b := (w4.heap.size + 1)) (j := 1) (v := .int .i64 f1) (Kf.out.1 1)
          have qf2 := cellq (w := W4) (b := (w4.heap.size + 1)) (j := 2) (v := .int .i64 f2) (Kf.out.1 2)
          have qf3 := cellq (w := W4) (b := (w4.heap.size + 1)) (j := 3) (v := .int .i64 f3) (Kf.out.1 3)
          have qg0 := cellq (w := W4) (b := w5.heap.size) (j := 0) (v := .int .i64 g0) (Kg.out.1 0)
          have qg1 := cellq (w := W4) (b := w5.heap.size) (j := 1) (v := .int .i64 g1) (Kg.out.1 1)
          have qg2 := cellq (w := W4) (b := w5.heap.size) (j := 2) (v := .int .i64 g2) (Kg.out.1 2)
          have qg3 := cellq (w := W4) (b := w5.heap.size) (j := 3) (v := .int .i64 g3) (Kg.out.1 3)
          have qh0 := cellq (w := W4) (b := (w5.heap.size + 1)) (j := 0) (v := .int .i64 h0) (Kh.out.1 0)
          have qh1 := cellq (w := W4) (b := (w5.heap.size + 1)) (j := 1) (v := .int .i64 h1) (Kh.out.1 1)
          have qh2 := cellq (w := W4) (b := (w5.heap.size + 1)) (j := 2) (v := .int .i64 h2) (Kh.out.1 2)
          have qh3 := cellq (w := W4) (b := (w5.heap.size + 1)) (j := 3) (v := .int .i64 h3) (Kh.out.1 3)
          have qo0 := cellq (w := W4) (b := w6.heap.size) (j := 0) (v := .int .i64 o0) (Ko.out.1 0)
          have qo1 := cellq (w := W4) (b := w6.heap.size) (j := 1) (v := .int .i64 o1) (Ko.out.1 1)
          have qo2 := cellq (w := W4) (b := w6.heap.size) (j := 2) (v := .int .i64 o2) (Ko.out.1 2)
          have qo3 := cellq (w := W4) (b := w6.heap.size) (j := 3) (v := .int .i64 o3) (Ko.out.1 3)
          have qr0 := cellq (w := W4) (b := w7.heap.size) (j := 0) (v := .int .i64 r0) (Kr.out.1 0)
          have qr1 := cellq (w := W4) (b := w7.heap.size) (j := 1) (v := .int .i64 r1) (Kr.out.1 1)
          have qr2 := cellq (w := W4) (b := w7.heap.size) (j := 2) (v := .int .i64 r2) (Kr.out.1 2)
          have qr3 := cellq (w := W4) (b := w7.heap.size) (j := 3) (v := .int .i64 r3) (Kr.out.1 3)
          go_upto_region 13 with (fail)
          dsimp only [List.append]
          first | refine wp_region_quiet_below (by kernel_rfl) (by kernel_rfl) ?_ | refine wp_plain_quiet_below ?_
          repeat (go_big_quiet_step (first | (go_at_call 23; with_reducible exact callr (D1.out _)) | (go_at_call 23; with_reducible exact callr (D2.out _)) | (go_at_call 14; with_reducible exact callr (D3.out _)) | (go_at_call 14; with_reducible exact callr (D4.out _)) | (go_at_call 21; with_reducible exact callr (D5.out _)) | (go_at_call 21; with_reducible exact callr (D6.out _)) | (go_at_call 27; with_reducible exact callr (E1.out _)) | (go_at_call 29; with_reducible exact callr (E2.out _)) | (go_at_call 21; with_reducible exact callr (E3.out _)) | (go_at_call 27; with_reducible exact callr (G1.out _)) | (go_at_call 27; with_reducible exact callr (G2.out _)) | (go_at_call 27; with_reducible exact callr (G3.out _)) | (go_at_call 29; with_reducible exact callr (G4.out _)) | (go_at_call 29; with_reducible exact callr (G5.out _)) | (go_at_call 25; with_reducible exact callr (G6.out _))))
          refine wpQuiet_nil ?_
          intro _ hw'
          obtain ⟨⟨dq, osq⟩, hw''⟩ := hw'
          subst hw''
          have hW5 := hW4.trans ((below_regrown W4 dq osq).mono hW4.size)
          go_wp2
          go_ret
          exact ⟨rfl, B.trans (hW5.mono B.size)⟩
    | false =>
      have E1 := Lib.hid (callv (v' := .bool false) (fun V => iBoxOk_any o0 o1 o2 o3 V) (by rw [hO]))
      cases hA : okB a0 a1 a2 a3 with
      | false =>
        have G1 := Lib.hid (callv (v' := .bool false) (fun V => iBoxOk_any a0 a1 a2 a3 V) (by rw [hA]))
        refine wp_plain_quiet_below ?_
        repeat (go_big_quiet_step (first | (go_at_call 27; with_reducible exact callr (G1.out _))))
        refine wpQuiet_nil (quiet_end fun W4 hW4 => ?_)
        clear qa0 qa1 qa2 qa3 qb0 qb1 qb2 qb3 qj0 qj1 qj2 qj3 qc0 qc1 qc2 qc3 qd0 qd1 qd2 qd3 qe0 qe1 qe2 qe3 qf0 qf1 qf2 qf3 qg0 qg1 qg2 qg3 qh0 qh1 qh2 qh3 qo0 qo1 qo2 qo3 qr0 qr1 qr2 qr3
        replace Ka := Lib.hid (below_keep hW4 (by omega) _ _ Ka.out)
        replace Kb := Lib.hid (below_keep hW4 (by omega) _ _ Kb.out)
        replace Kj := Lib.hid (below_keep hW4 (by omega) _ _ Kj.out)
        replace Kc := Lib.hid (below_keep hW4 (by omega) _ _ Kc.out)
        replace Kd := Lib.hid (below_keep hW4 (by omega) _ _ Kd.out)
        replace Ke := Lib.hid (below_keep hW4 (by omega) _ _ Ke.out)
        replace Kf := Lib.hid (below_keep hW4 (by omega) _ _ Kf.out)
        replace Kg := Lib.hid (below_keep hW4 (by omega) _ _ Kg.out)
        replace Kh := Lib.hid (below_keep hW4 (by omega) _ _ Kh.out)
        replace Ko := Lib.hid (below_keep hW4 (by omega) _ _ Ko.out)
        replace Kr := Lib.hid (below_keep hW4 (by omega) _ _ Kr.out)
        have qa0 := cellq (w := W4) (b := w1.heap.size) (j := 0) (v := .int .i64 a0) (Ka.out.1 0)
        have qa1 := cellq (w := W4) (b := w1.heap.size) (j := 1) (v := .int .i64 a1) (Ka.out.1 1)
        have qa2 := cellq (w := W4) (b := w1.heap.size) (j := 2) (v := .int .i64 a2) (Ka.out.1 2)
        have qa3 := cellq (w := W4) (b := w1.heap.size) (j := 3) (v := .int .i64 a3) (Ka.out.1 3)
        have qb0 := cellq (w := W4) (b := (w1.heap.size + 1)) (j := 0) (v := .int .i64 b0) (Kb.out.1 0)
        have qb1 := cellq (w := W4) (b := (w1.heap.size + 1)) (j := 1) (v := .int .i64 b1) (Kb.out.1 1)
        have qb2 := cellq (w := W4) (b := (w1.heap.size + 1)) (j := 2) (v := .int .i64 b2) (Kb.out.1 2)
        have qb3 := cellq (w := W4) (b := (w1.heap.size + 1)) (j := 3) (v := .int .i64 b3) (Kb.out.1 3)
        have qj0 := cellq (w := W4) (b := w2.heap.size) (j := 0) (v := .int .i64 (lst a0 b0)) (Kj.out.1 0)
        have qj1 := cellq (w := W4) (b := w2.heap.size) (j := 1) (v := .int .i64 (lst a1 b1)) (Kj.out.1 1)
        have qj2 := cellq (w := W4) (b := w2.heap.size) (j := 2) (v := .int .i64 (mst a2 b2)) (Kj.out.1 2)
        have qj3 := cellq (w := W4) (b := w2.heap.size) (j := 3) (v := .int .i64 (mst a3 b3)) (Kj.out.1 3)
        have qc0 := cellq (w := W4) (b := w3.heap.size) (j := 0) (v := .int .i64 c0) (Kc.out.1 0)
        have qc1 := cellq (w := W4) (b := w3.heap.size) (j := 1) (v := .int .i64 c1) (Kc.out.1 1)
        have qc2 := cellq (w := W4) (b := w3.heap.size) (j := 2) (v := .int .i64 c2) (Kc.out.1 2)
        have qc3 := cellq (w := W4) (b := w3.heap.size) (j := 3) (v := .int .i64 c3) (Kc.out.1 3)
        have qd0 := cellq (w := W4) (b := (w3.heap.size + 1)) (j := 0) (v := .int .i64 d0) (Kd.out.1 0)
        have qd1 := cellq (w := W4) (b := (w3.heap.size + 1)) (j := 1) (v := .int .i64 d1) (Kd.out.1 1)
        have qd2 := cellq (w := W4) (b := (w3.heap.size + 1)) (j := 2) (v := .int .i64 d2) (Kd.out.1 2)
        have qd3 := cellq (w := W4) (b := (w3.heap.size + 1)) (j := 3) (v := .int .i64 d3) (Kd.out.1 3)
        have qe0 := cellq (w := W4) (b := w4.heap.size) (j := 0) (v := .int .i64 e0) (Ke.out.1 0)
        have qe1 := cellq (w := W4) (b := w4.heap.size) (j := 1) (v := .int .i64 e1) (Ke.out.1 1)
        have qe2 := cellq (w := W4) (b := w4.heap.size) (j := 2) (v := .int .i64 e2) (Ke.out.1 2)
        have qe3 := cellq (w := W4) (b := w4.heap.size) (j := 3) (v := .int .i64 e3) (Ke.out.1 3)
        have qf0 := cellq (w := W4) (b := (w4.heap.size + 1)) (j := 0) (v := .int .i64 f0) (Kf.out.1 0)
        have qf1 := cellq (w := W4) (b := (w4.heap.size + 1)) (j := 1) (v := .int .i64 f1) (Kf.out.1 1)
        have qf2 := cellq (w := W4) (b := (w4.heap.size + 1)) (j := 2) (v := .int .i64 f2) (Kf.out.1 2)
        have qf3 := cellq (w := W4) (b := (w4.heap.size + 1)) (j := 3) (v := .int .i64 f3) (Kf.out.1 3)
        have qg0 := cellq (w := W4) (b := w5.heap.size) (j := 0) (v := .int .i64 g0) (Kg.out.1 0)
        have qg1 := cellq (w := W4) (b := w5.heap.size) (j := 1) (v := .int .i64 g1) (Kg.out.1 1)
        have qg2 := cellq (w := W4) (b := w5.heap.size) (j := 2) (v := .int .i64 g2) (Kg.out.1 2)
        have qg3 := cellq (w := W4) (b := w5.heap.size) (j := 3) (v := .int .i64 g3) (Kg.out.1 3)
        have qh0 := cellq (w := W4) (b := (w5.heap.size + 1)) (j := 0) (v := .int .i64 h0) (Kh.out.1 0)
        have qh1 := cellq (w := W4) (b := (w5.heap.size + 1)) (j := 1) (v := .int .i64 h1) (Kh.out.1 1)
        have qh2 := cellq (w := W4) (b := (w5.heap.size + 1)) (j := 2) (v := .int .i64 h2) (Kh.out.1 2)
        have qh3 := cellq (w := W4) (b := (w5.heap.size + 1)) (j := 3) (v := .int .i64 h3) (Kh.out.1 3)
        have qo0 := cellq (w := W4) (b := w6.heap.size) (j := 0) (v := .int .i64 o0) (Ko.out.1 0)
        have qo1 := cellq (w := W4) (b := w6.heap.size) (j := 1) (v := .int .i64 o1) (Ko.out.1 1)
        have qo2 := cellq (w := W4) (b := w6.heap.size) (j := 2) (v := .int .i64 o2) (Ko.out.1 2)
        have qo3 := cellq (w := W4) (b := w6.heap.size) (j := 3) (v := .int .i64 o3) (Ko.out.1 3)
        have qr0 := cellq (w := W4) (b := w7.heap.size) (j := 0) (v := .int .i64 r0) (Kr.out.1 0)
        have qr1 := cellq (w := W4) (b := w7.heap.size) (j := 1) (v := .int .i64 r1) (Kr.out.1 1)
        have qr2 := cellq (w := W4) (b := w7.heap.size) (j := 2) (v := .int .i64 r2) (Kr.out.1 2)
        have qr3 := cellq (w := W4) (b := w7.heap.size) (j := 3) (v := .int .i64 r3) (Kr.out.1 3)
        go_upto_region 13 with (fail)
        dsimp only [List.append]
        first | refine wp_region_quiet_below (by kernel_rfl) (by kernel_rfl) ?_ | refine wp_plain_quiet_below ?_
        repeat (go_big_quiet_step (first | (go_at_call 23; with_reducible exact callr (D1.out _)) | (go_at_call 23; with_reducible exact callr (D2.out _)) | (go_at_call 14; with_reducible exact callr (D3.out _)) | (go_at_call 14; with_reducible exact callr (D4.out _)) | (go_at_call 21; with_reducible exact callr (D5.out _)) | (go_at_call 21; with_reducible exact callr (D6.out _)) | (go_at_call 27; with_reducible exact callr (E1.out _)) | (go_at_call 27; with_reducible exact callr (G1.out _))))
        refine wpQuiet_nil ?_
        intro _ hw'
        obtain ⟨⟨dq, osq⟩, hw''⟩ := hw'
        subst hw''
        have hW5 := hW4.trans ((below_regrown W4 dq osq).mono hW4.size)
        go_wp2
        go_ret
        exact ⟨rfl, B.trans (hW5.mono B.size)⟩
      | true =>
        have G1 := Lib.hid (callv (v' := .bool true) (fun V => iBoxOk_any a0 a1 a2 a3 V) (by rw [hA]))
        cases hB : okB b0 b1 b2 b3 with
        | false =>
          have G2 := Lib.hid (callv (v' := .bool false) (fun V => iBoxOk_any b0 b1 b2 b3 V) (by rw [hB]))
          refine wp_plain_quiet_below ?_
          repeat (go_big_quiet_step (first | (go_at_call 27; with_reducible exact callr (G1.out _)) | (go_at_call 27; with_reducible exact callr (G2.out _))))
          refine wpQuiet_nil (quiet_end fun W4 hW4 => ?_)
          clear qa0 qa1 qa2 qa3 qb0 qb1 qb2 qb3 qj0 qj1 qj2 qj3 qc0 qc1 qc2 qc3 qd0 qd1 qd2 qd3 qe0 qe1 qe2 qe3 qf0 qf1 qf2 qf3 qg0 qg1 qg2 qg3 qh0 qh1 qh2 qh3 qo0 qo1 qo2 qo3 qr0 qr1 qr2 qr3
          replace Ka := Lib.hid (below_keep hW4 (by omega) _ _ Ka.out)
          replace Kb := Lib.hid (below_keep hW4 (by omega) _ _ Kb.out)
          replace Kj := Lib.hid (below_keep hW4 (by omega) _ _ Kj.out)
          replace Kc := Lib.hid (below_keep hW4 (by omega) _ _ Kc.out)
          replace Kd := Lib.hid (below_keep hW4 (by omega) _ _ Kd.out)
          replace Ke := Lib.hid (below_keep hW4 (by omega) _ _ Ke.out)
          replace Kf := Lib.hid (below_keep hW4 (by omega) _ _ Kf.out)
          replace Kg := Lib.hid (below_keep hW4 (by omega) _ _ Kg.out)
          replace Kh := Lib.hid (below_keep hW4 (by omega) _ _ Kh.out)
          replace Ko := Lib.hid (below_keep hW4 (by omega) _ _ Ko.out)
          replace Kr := Lib.hid (below_keep hW4 (by omega) _ _ Kr.out)
          have qa0 := cellq (w := W4) (b := w1.heap.size) (j := 0) (v := .int .i64 a0) (Ka.out.1 0)
          have qa1 := cellq (w := W4) (b := w1.heap.size) (j := 1) (v := .int .i64 a1) (Ka.out.1 1)
          have qa2 := cellq (w := W4) (b := w1.heap.size) (j := 2) (v := .int .i64 a2) (Ka.out.1 2)
          have qa3 := cellq (w := W4) (b := w1.heap.size) (j := 3) (v := .int .i64 a3) (Ka.out.1 3)
          have qb0 := cellq (w := W4) (b := (w1.heap.size + 1)) (j := 0) (v := .int .i64 b0) (Kb.out.1 0)
          have qb1 := cellq (w := W4) (b := (w1.heap.size + 1)) (j := 1) (v := .int .i64 b1) (Kb.out.1 1)
          have qb2 := cellq (w := W4) (b := (w1.heap.size + 1)) (j := 2) (v := .int .i64 b2) (Kb.out.1 2)
          have qb3 := cellq (w := W4) (b := (w1.heap.size + 1)) (j := 3) (v := .int .i64 b3) (Kb.out.1 3)
          have qj0 := cellq (w := W4) (b := w2.heap.size) (j := 0) (v := .int .i64 (lst a0 b0)) (Kj.out.1 0)
          have qj1 := cellq (w := W4) (b := w2.heap.size) (j := 1) (v := .int .i64 (lst a1 b1)) (Kj.out.1 1)
          have qj2 := cellq (w := W4) (b := w2.heap.size) (j := 2) (v := .int .i64 (mst a2 b2)) (Kj.out.1 2)
          have qj3 := cellq (w := W4) (b := w2.heap.size) (j := 3) (v := .int .i64 (mst a3 b3)) (Kj.out.1 3)
          have qc0 := cellq (w := W4) (b := w3.heap.size) (j := 0) (v := .int .i64 c0) (Kc.out.1 0)
          have qc1 := cellq (w := W4) (b := w3.heap.size) (j := 1) (v := .int .i64 c1) (Kc.out.1 1)
          have qc2 := cellq (w := W4) (b := w3.heap.size) (j := 2) (v := .int .i64 c2) (Kc.out.1 2)
          have qc3 := cellq (w := W4) (b := w3.heap.size) (j := 3) (v := .int .i64 c3) (Kc.out.1 3)
          have qd0 := cellq (w := W4) (b := (w3.heap.size + 1)) (j := 0) (v := .int .i64 d0) (Kd.out.1 0)
          have qd1 := cellq (w := W4) (b := (w3.heap.size + 1)) (j := 1) (v := .int .i64 d1) (Kd.out.1 1)
          have qd2 := cellq (w := W4) (b := (w3.heap.size + 1)) (j := 2) (v := .int .i64 d2) (Kd.out.1 2)
          have qd3 := cellq (w := W4) (b := (w3.heap.size + 1)) (j := 3) (v := .int .i64 d3) (Kd.out.1 3)
          have qe0 := cellq (w := W4) (b := w4.heap.size) (j := 0) (v := .int .i64 e0) (Ke.out.1 0)
          have qe1 := cellq (w := W4) (b := w4.heap.size) (j := 1) (v := .int .i64 e1) (Ke.out.1 1)
          have qe2 := cellq (w := W4) (b := w4.heap.size) (j := 2) (v := .int .i64 e2) (Ke.out.1 2)
          have qe3 := cellq (w := W4) (b := w4.heap.size) (j := 3) (v := .int .i64 e3) (Ke.out.1 3)
          have qf0 := cellq (w := W4) (b := (w4.heap.size + 1)) (j := 0) (v := .int .i64 f0) (Kf.out.1 0)
          have qf1 := cellq (w := W4) (b := (w4.heap.size + 1)) (j := 1) (v := .int .i64 f1) (Kf.out.1 1)
          have qf2 := cellq (w := W4) (b := (w4.heap.size + 1)) (j := 2) (v := .int .i64 f2) (Kf.out.1 2)
          have qf3 := cellq (w := W4) (b := (w4.heap.size + 1)) (j := 3) (v := .int .i64 f3) (Kf.out.1 3)
          have qg0 := cellq (w := W4) (b := w5.heap.size) (j := 0) (v := .int .i64 g0) (Kg.out.1 0)
          have qg1 := cellq (w := W4) (b := w5.heap.size) (j := 1) (v := .int .i64 g1) (Kg.out.1 1)
          have qg2 := cellq (w := W4) (b := w5.heap.size) (j := 2) (v := .int .i64 g2) (Kg.out.1 2)
          have qg3 := cellq (w := W4) (b := w5.heap.size) (j := 3) (v := .int .i64 g3) (Kg.out.1 3)
          have qh0 := cellq (w := W4) (b := (w5.heap.size + 1)) (j := 0) (v := .int .i64 h0) (Kh.out.1 0)
          have qh1 := cellq (w := W4) (b := (w5.heap.size + 1)) (j := 1) (v := .int .i64 h1) (Kh.out.1 1)
          have qh2 := cellq (w := W4) (b := (w5.heap.size + 1)) (j := 2) (v := .int .i64 h2) (Kh.out.1 2)
          have qh3 := cellq (w := W4) (b := (w5.heap.size + 1)) (j := 3) (v := .int .i64 h3) (Kh.out.1 3)
          have qo0 := cellq (w := W4) (b := w6.heap.size) (j := 0) (v := .int .i64 o0) (Ko.out.1 0)
          have qo1 := cellq (w := W4) (b := w6.heap.size) (j := 1) (v := .int .i64 o1) (Ko.out.1 1)
          have qo2 := cellq (w := W4) (b := w6.heap.size) (j := 2) (v := .int .i64 o2) (Ko.out.1 2)
          have qo3 := cellq (w := W4) (b := w6.heap.size) (j := 3) (v := .int .i64 o3) (Ko.out.1 3)
          have qr0 := cellq (w := W4) (b := w7.heap.size) (j := 0) (v := .int .i64 r0) (Kr.out.1 0)
          have qr1 := cellq (w := W4) (b := w7.heap.size) (j := 1) (v := .int .i64 r1) (Kr.out.1 1)
          have qr2 := cellq (w := W4) (b := w7.heap.size) (j := 2) (v := .int .i64 r2) (Kr.out.1 2)
          have qr3 := cellq (w := W4) (b := w7.heap.size) (j := 3) (v := .int .i64 r3) (Kr.out.1 3)
          go_upto_region 13 with (fail)
          dsimp only [List.append]
          first | refine wp_region_quiet_below (by kernel_rfl) (by kernel_rfl) ?_ | refine wp_plain_quiet_below ?_
          repeat (go_big_quiet_step (first | (go_at_call 23; with_reducible exact callr (D1.out _)) | (go_at_call 23; with_reducible exact callr (D2.out _)) | (go_at_call 14; with_reducible exact callr (D3.out _)) | (go_at_call 14; with_reducible exact callr (D4.out _)) | (go_at_call 21; with_reducible exact callr (D5.out _)) | (go_at_call 21; with_reducible exact callr (D6.out _)) | (go_at_call 27; with_reducible exact callr (E1.out _)) | (go_at_call 27; with_reducible exact callr (G1.out _)) | (go_at_call 27; with_reducible exact callr (G2.out _))))
          refine wpQuiet_nil ?_
          intro _ hw'
          obtain ⟨⟨dq, osq⟩, hw''⟩ := hw'
          subst hw''
          have hW5 := hW4.trans ((below_regrown W4 dq osq).mono hW4.size)
          go_wp2
          go_ret
          exact ⟨rfl, B.trans (hW5.mono B.size)⟩
        | true =>
          have G2 := Lib.hid (callv (v' := .bool true) (fun V => iBoxOk_any b0 b1 b2 b3 V) (by rw [hB]))
          have G3 := Lib.hid (callv (v' := .bool true) (fun V => iBoxOk_any (lst a0 b0) (lst a1 b1) (mst a2 b2) (mst a3 b3) V) (by rw [okB_join hA hB]))
          have G4 := Lib.hid (callv (v' := .int .i64 (areaB (lst a0 b0) (lst a1 b1) (mst a2 b2) (mst a3 b3))) (fun V => iArea_any (lst a0 b0) (lst a1 b1) (mst a2 b2) (mst a3 b3) V) rfl)
          have G5 := Lib.hid (callv (v' := .int .i64 (areaB a0 a1 a2 a3)) (fun V => iArea_any a0 a1 a2 a3 V) rfl)
          have G6 := Lib.hid (callv (v' := .int .i64 (areaB (lst a0 b0) (lst a1 b1) (mst a2 b2) (mst a3 b3) - areaB a0 a1 a2 a3)) (fun V => iGrowth_any a0 a1 a2 a3 b0 b1 b2 b3 V) rfl)
          have hle := areaB_join hA hB
          have hle0 : 0 ≤ areaB (lst a0 b0) (lst a1 b1) (mst a2 b2) (mst a3 b3) - areaB a0 a1 a2 a3 := by omega
          refine wp_plain_quiet_below ?_
          repeat (go_big_quiet_step (first | (go_at_call 27; with_reducible exact callr (G1.out _)) | (go_at_call 27; with_reducible exact callr (G2.out _))))
          refine wpQuiet_nil (quiet_end fun W4 hW4 => ?_)
          clear qa0 qa1 qa2 qa3 qb0 qb1 qb2 qb3 qj0 qj1 qj2 qj3 qc0 qc1 qc2 qc3 qd0 qd1 qd2 qd3 qe0 qe1 qe2 qe3 qf0 qf1 qf2 qf3 qg0 qg1 qg2 qg3 qh0 qh1 qh2 qh3 qo0 qo1 qo2 qo3 qr0 qr1 qr2 qr3
          replace Ka := Lib.hid (below_keep hW4 (by omega) _ _ Ka.out)
          replace Kb := Lib.hid (below_keep hW4 (by omega) _ _ Kb.out)
          replace Kj := Lib.hid (below_keep hW4 (by omega) _ _ Kj.out)
          replace Kc := Lib.hid (below_keep hW4 (by omega) _ _ Kc.out)
          replace Kd := Lib.hid (below_keep hW4 (by omega) _ _ Kd.out)
          replace Ke := Lib.hid (below_keep hW4 (by omega) _ _ Ke.out)
          replace Kf := Lib.hid (below_keep hW4 (by omega) _ _ Kf.out)
          replace Kg := Lib.hid (below_keep hW4 (by omega) _ _ Kg.out)
          replace Kh := Lib.hid (below_keep hW4 (by omega) _ _ Kh.out)
          replace Ko := Lib.hid (below_keep hW4 (by omega) _ _ Ko.out)
          replace Kr := Lib.hid (below_keep hW4 (by omega) _ _ Kr.out)
          have qa0 := cellq (w := W4) (b := w1.heap.size) (j := 0) (v := .int .i64 a0) (Ka.out.1 0)
          have qa1 := cellq (w := W4) (b := w1.heap.size) (j := 1) (v := .int .i64 a1) (Ka.out.1 1)
          have qa2 := cellq (w := W4) (b := w1.heap.size) (j := 2) (v := .int .i64 a2) (Ka.out.1 2)
          have qa3 := cellq (w := W4) (b := w1.heap.size) (j := 3) (v := .int .i64 a3) (Ka.out.1 3)
          have qb0 := cellq (w := W4) (b := (w1.heap.size + 1)) (j := 0) (v := .int .i64 b0) (Kb.out.1 0)
          have qb1 := cellq (w := W4) (b := (w1.heap.size + 1)) (j := 1) (v := .int .i64 b1) (Kb.out.1 1)
          have qb2 := cellq (w := W4) (b := (w1.heap.size + 1)) (j := 2) (v := .int .i64 b2) (Kb.out.1 2)
          have qb3 := cellq (w := W4) (b := (w1.heap.size + 1)) (j := 3) (v := .int .i64 b3) (Kb.out.1 3)
          have qj0 := cellq (w := W4) (b := w2.heap.size) (j := 0) (v := .int .i64 (lst a0 b0)) (Kj.out.1 0)
          have qj1 := cellq (w := W4) (b := w2.heap.size) (j := 1) (v := .int .i64 (lst a1 b1)) (Kj.out.1 1)
          have qj2 := cellq (w := W4) (b := w2.heap.size) (j := 2) (v := .int .i64 (mst a2 b2)) (Kj.out.1 2)
          have qj3 := cellq (w := W4) (b := w2.heap.size) (j := 3) (v := .int .i64 (mst a3 b3)) (Kj.out.1 3)
          have qc0 := cellq (w := W4) (b := w3.heap.size) (j := 0) (v := .int .i64 c0) (Kc.out.1 0)
          have qc1 := cellq (w := W4) (b := w3.heap.size) (j := 1) (v := .int .i64 c1) (Kc.out.1 1)
          have qc2 := cellq (w := W4) (b := w3.heap.size) (j := 2) (v := .int .i64 c2) (Kc.out.1 2)
          have qc3 := cellq (w := W4) (b := w3.heap.size) (j := 3) (v := .int .i64 c3) (Kc.out.1 3)
          have qd0 := cellq (w := W4) (b := (w3.heap.size + 1)) (j := 0) (v := .int .i64 d0) (Kd.out.1 0)
          have qd1 := cellq (w := W4) (b := (w3.heap.size + 1)) (j := 1) (v := .int .i64 d1) (Kd.out.1 1)
          have qd2 := cellq (w := W4) (b := (w3.heap.size + 1)) (j := 2) (v := .int .i64 d2) (Kd.out.1 2)
          have qd3 := cellq (w := W4) (b := (w3.heap.size + 1)) (j := 3) (v := .int .i64 d3) (Kd.out.1 3)
          have qe0 := cellq (w := W4) (b := w4.heap.size) (j := 0) (v := .int .i64 e0) (Ke.out.1 0)
          have qe1 := cellq (w := W4) (b := w4.heap.size) (j := 1) (v := .int .i64 e1) (Ke.out.1 1)
          have qe2 := cellq (w := W4) (b := w4.heap.size) (j := 2) (v := .int .i64 e2) (Ke.out.1 2)
          have qe3 := cellq (w := W4) (b := w4.heap.size) (j := 3) (v := .int .i64 e3) (Ke.out.1 3)
          have qf0 := cellq (w := W4) (b := (w4.heap.size + 1)) (j := 0) (v := .int .i64 f0) (Kf.out.1 0)
          have qf1 := cellq (w := W4) (b := (w4.heap.size + 1)) (j := 1) (v := .int .i64 f1) (Kf.out.1 1)
          have qf2 := cellq (w := W4) (b := (w4.heap.size + 1)) (j := 2) (v := .int .i64 f2) (Kf.out.1 2)
          have qf3 := cellq (w := W4) (b := (w4.heap.size + 1)) (j := 3) (v := .int .i64 f3) (Kf.out.1 3)
          have qg0 := cellq (w := W4) (b := w5.heap.size) (j := 0) (v := .int .i64 g0) (Kg.out.1 0)
          have qg1 := cellq (w := W4) (b := w5.heap.size) (j := 1) (v := .int .i64 g1) (Kg.out.1 1)
          have qg2 := cellq (w := W4) (b := w5.heap.size) (j := 2) (v := .int .i64 g2) (Kg.out.1 2)
          have qg3 := cellq (w := W4) (b := w5.heap.size) (j := 3) (v := .int .i64 g3) (Kg.out.1 3)
          have qh0 := cellq (w := W4) (b := (w5.heap.size + 1)) (j := 0) (v := .int .i64 h0) (Kh.out.1 0)
          have qh1 := cellq (w := W4) (b := (w5.heap.size + 1)) (j := 1) (v := .int .i64 h1) (Kh.out.1 1)
          have qh2 := cellq (w := W4) (b := (w5.heap.size + 1)) (j := 2) (v := .int .i64 h2) (Kh.out.1 2)
          have qh3 := cellq (w := W4) (b := (w5.heap.size + 1)) (j := 3) (v := .int .i64 h3) (Kh.out.1 3)
          have qo0 := cellq (w := W4) (b := w6.heap.size) (j := 0) (v := .int .i64 o0) (Ko.out.1 0)
          have qo1 := cellq (w := W4) (b := w6.heap.size) (j := 1) (v := .int .i64 o1) (Ko.out.1 1)
          have qo2 := cellq (w := W4) (b := w6.heap.size) (j := 2) (v := .int .i64 o2) (Ko.out.1 2)
          have qo3 := cellq (w := W4) (b := w6.heap.size) (j := 3) (v := .int .i64 o3) (Ko.out.1 3)
          have qr0 := cellq (w := W4) (b := w7.heap.size) (j := 0) (v := .int .i64 r0) (Kr.out.1 0)
          have qr1 := cellq (w := W4) (b := w7.heap.size) (j := 1) (v := .int .i64 r1) (Kr.out.1 1)
          have qr2 := cellq (w := W4) (b := w7.heap.size) (j := 2) (v := .int .i64 r2) (Kr.out.1 2)
          have qr3 := cellq (w := W4) (b := w7.heap.size) (j := 3) (v := .int .i64 r3) (Kr.out.1 3)
          go_upto_region 13 with (fail)
          dsimp only [List.append]
          first | refine wp_region_quiet_below (by kernel_rfl) (by kernel_rfl) ?_ | refine wp_plain_quiet_below ?_
          repeat (go_big_quiet_step (first | (go_at_call 23; with_reducible exact callr (D1.out _)) | (go_at_call 23; with_reducible exact callr (D2.out _)) | (go_at_call 14; with_reducible exact callr (D3.out _)) | (go_at_call 14; with_reducible exact callr (D4.out _)) | (go_at_call 21; with_reducible exact callr (D5.out _)) | (go_at_call 21; with_reducible exact callr (D6.out _)) | (go_at_call 27; with_reducible exact callr (E1.out _)) | (go_at_call 27; with_reducible exact callr (G1.out _)) | (go_at_call 27; with_reducible exact callr (G2.out _)) | (go_at_call 27; with_reducible exact callr (G3.out _)) | (go_at_call 29; with_reducible exact callr (G4.out _)) | (go_at_call 29; with_reducible exact callr (G5.out _)) | (go_at_call 25; with_reducible exact callr (G6.out _))))
          refine wpQuiet_nil ?_
          intro _ hw'
          obtain ⟨⟨dq, osq⟩, hw''⟩ := hw'
          subst hw''
          have hW5 := hW4.trans ((below_regrown W4 dq osq).mono hW4.size)
          go_wp2
          go_ret
          exact ⟨rfl, B.trans (hW5.mono B.size)⟩
  · go_enter Try.func3, Try.ntmps3
    go_wp2_with fail
    refine (big_yes A _ cap _ hn (by have := h.1.2.1; have := h.1.2.2.1; omega)).mono ?_
    rintro e w0 ⟨rfl, rfl⟩
    go_wp2
    go_ret
    exact ⟨rfl, Below.refl _ _⟩
end Go.Proofs.Ytdpkodemmfaglaa
