/- The model's draws of two rectangles. -/
import Derived.Test.YtdpkodemmfaglaaDrawBox
namespace Go.Proofs.Ytdpkodemmfaglaa
open Go.RowKit

/-- Two rectangles, drawn. -/
def DrawnTwo (g : Nat) (zs : List Int) (w : World) (e : Ending) (w' : World) : Prop :=
  ∃ a b c d p q r s, e = .returned (.tuple #[.agg #[.int .i64 a, .int .i64 b, .int .i64 c, .int .i64 d], .agg #[.int .i64 p, .int .i64 q, .int .i64 r, .int .i64 s]]) ∧ Any4 a b c d ∧ Any4 p q r s ∧ Cur g zs w' ∧ w.grownBy w' (some g)

theorem cur_drew {g : Nat} {zs : List Int} {W : World} (h : Cur g zs W) : Cur g zs W.drew := cur_kept (row := none) h ⟨rfl, rfl, rfl, Nat.le_refl _, fun _ _ _ => rfl⟩ (fun _ hk => by cases hk)
theorem grown_drew {w W : World} {row : Option Nat} (h : w.grownBy W row) : w.grownBy W.drew row := ⟨h.os, h.tape, h.output, h.size, h.block⟩

theorem i64_mst {a b : Int} (h : I64 a) (h' : I64 b) : I64 (mst a b) := by unfold mst; split <;> assumption

set_option maxHeartbeats 1600000 in
theorem l2Pair_any (g : Nat) (zs : List Int) (w : World) (h : Cur g zs w) :
    Calls Try.prog 40 #[.pointer (some ⟨g, 0, none⟩)] w (DrawnTwo g zs w) := by
  have hlt := cur_lt h
  have hne : w.heap.size ≠ g := by omega
  have hne' : w.heap.size + 1 ≠ g := by omega
  have K0 := blk_alloc (.cells #[.int .i64 0, .int .i64 0, .int .i64 0, .int .i64 0] 25) (by simp) _ _ (blk_new w #[.int .i64 0, .int .i64 0, .int .i64 0, .int .i64 0] 25)
  have K1 := blk_new1 w (.cells #[.int .i64 0, .int .i64 0, .int .i64 0, .int .i64 0] 25) #[.int .i64 0, .int .i64 0, .int .i64 0, .int .i64 0] 25
  replace K0 := Lib.hid K0
  replace K1 := Lib.hid K1
  go_enter Try.func40, Try.ntmps40
  go_wp2_with fail
  refine (l2Any_any g zs _ (cur_alloc (cur_alloc h _) _)).mono ?_
  rintro e w1 ⟨a, b, c, d, rfl, A4, cu, G⟩
  have s1 := G.size
  simp at s1
  replace A4 := Lib.hid A4
  replace K0 := Lib.hid (blk_keep G (by simp; omega) hne _ _ K0.out)
  replace K1 := Lib.hid (blk_keep G (by simp) hne' _ _ K1.out)
  replace G := grown_trans (grown_alloc (World.grownBy_alloc w _ (some g)) _) G
  replace K0 := Lib.hid (blk_alloc (.cells #[.int .i64 a, .int .i64 b, .int .i64 c, .int .i64 d] 25) (by omega) _ _ K0.out)
  replace K1 := Lib.hid (blk_alloc (.cells #[.int .i64 a, .int .i64 b, .int .i64 c, .int .i64 d] 25) (by omega) _ _ K1.out)
  have K2 := Lib.hid (blk_new w1 #[.int .i64 a, .int .i64 b, .int .i64 c, .int .i64 d] 25)
  go_wp2_with fail
  refine (l2Any_any g zs _ (cur_alloc cu _)).mono ?_
  rintro e w2 ⟨p, q, r, s, rfl, B4, cu, g2⟩
  replace B4 := Lib.hid B4
  have s2 := g2.size
  simp at s2
  replace K0 := Lib.hid (blk_alloc (.cells #[.int .i64 p, .int .i64 q, .int .i64 r, .int .i64 s] 25) (by omega) _ _ (blk_keep g2 (by simp; omega) hne _ _ K0.out))
  replace K1 := Lib.hid (blk_alloc (.cells #[.int .i64 p, .int .i64 q, .int .i64 r, .int .i64 s] 25) (by omega) _ _ (blk_keep g2 (by simp; omega) hne' _ _ K1.out))
  replace K2 := Lib.hid (blk_alloc (.cells #[.int .i64 p, .int .i64 q, .int .i64 r, .int .i64 s] 25) (by omega) _ _ (blk_keep g2 (by simp) (by omega) _ _ K2.out))
  have K3 := Lib.hid (blk_new w2 #[.int .i64 p, .int .i64 q, .int .i64 r, .int .i64 s] 25)
  replace G := grown_alloc (grown_trans (grown_alloc G _) g2) (.cells #[.int .i64 p, .int .i64 q, .int .i64 r, .int .i64 s] 25)
  clear g2
  go_wp2_with fail
  refine (l1Once_any g zs 3 _ (cur_alloc cu _) (by omega)).mono ?_
  rintro e w3 ⟨t, rfl, cu, g2⟩
  have s3 := g2.size
  simp at s3
  obtain ⟨k0, f0⟩ := blk_keep g2 (by simp; omega) hne _ _ K0.out
  obtain ⟨k1, f1⟩ := blk_keep g2 (by simp; omega) hne' _ _ K1.out
  obtain ⟨k2, f2⟩ := blk_keep g2 (by simp; omega) (by omega) _ _ K2.out
  obtain ⟨k3, f3⟩ := blk_keep g2 (by simp) (by omega) _ _ K3.out
  replace G := grown_trans G g2
  clear g2 K0 K1 K2 K3
  have n1 : w.heap.size ≠ w1.heap.size := by omega
  have n2 : w.heap.size ≠ w2.heap.size := by omega
  have n3 : w.heap.size + 1 ≠ w1.heap.size := by omega
  have n4 : w.heap.size + 1 ≠ w2.heap.size := by omega
  have n5 : w1.heap.size ≠ w2.heap.size := by omega
  cases t
  case' true =>
    go_wp2_with fail
    refine (sMost_any _ _ _).mono ?_
    rintro e w4 ⟨rfl, rfl⟩
  all_goals
    go_wp2
    go_region
    go_wp2
  · refine bodyPost_ret (v := .tuple #[.agg #[.int .i64 a, .int .i64 b, .int .i64 c, .int .i64 d], .agg #[.int .i64 c, .int .i64 q, .int .i64 (mst c r), .int .i64 s]]) (by simp [results, Try.results40, go_sem, k0, k1]) rfl ⟨_, _, _, _, _, _, _, _, rfl, A4.out, ?_, ?_, ?_⟩
    · exact ⟨A4.out.2.2.1, B4.out.2.1, i64_mst A4.out.2.2.1 B4.out.2.2.1, B4.out.2.2.2⟩
    · exact cur_drew (cur_set (cur_set (cur_set (cur_set (cur_set (cur_set (cur_set (cur_set (cur_set (cur_set (cu) (show g < w2.heap.size by omega) 0 _) (show g < w2.heap.size by omega) 2 _) (show g < w.heap.size by omega) 0 _) (show g < w.heap.size by omega) 1 _) (show g < w.heap.size by omega) 2 _) (show g < w.heap.size by omega) 3 _) (show g < (w.heap.size + 1) by omega) 0 _) (show g < (w.heap.size + 1) by omega) 1 _) (show g < (w.heap.size + 1) by omega) 2 _) (show g < (w.heap.size + 1) by omega) 3 _)
    · exact grown_drew (grown_new (grown_new (grown_new (grown_new (grown_new (grown_new (grown_new (grown_new (grown_new (grown_new (G) (show w.heap.size ≤ w2.heap.size by omega) 0 _) (show w.heap.size ≤ w2.heap.size by omega) 2 _) (show w.heap.size ≤ w.heap.size by omega) 0 _) (show w.heap.size ≤ w.heap.size by omega) 1 _) (show w.heap.size ≤ w.heap.size by omega) 2 _) (show w.heap.size ≤ w.heap.size by omega) 3 _) (show w.heap.size ≤ (w.heap.size + 1) by omega) 0 _) (show w.heap.size ≤ (w.heap.size + 1) by omega) 1 _) (show w.heap.size ≤ (w.heap.size + 1) by omega) 2 _) (show w.heap.size ≤ (w.heap.size + 1) by omega) 3 _)
  · refine bodyPost_ret (v := .tuple #[.agg #[.int .i64 a, .int .i64 b, .int .i64 c, .int .i64 d], .agg #[.int .i64 p, .int .i64 q, .int .i64 r, .int .i64 s]]) (by simp [results, Try.results40, go_sem, k0, k1]) rfl ⟨_, _, _, _, _, _, _, _, rfl, A4.out, B4.out, ?_, ?_⟩
    · exact cur_drew (cur_set (cur_set (cur_set (cur_set (cur_set (cur_set (cur_set (cur_set (cu) (show g < w.heap.size by omega) 0 _) (show g < w.heap.size by omega) 1 _) (show g < w.heap.size by omega) 2 _) (show g < w.heap.size by omega) 3 _) (show g < (w.heap.size + 1) by omega) 0 _) (show g < (w.heap.size + 1) by omega) 1 _) (show g < (w.heap.size + 1) by omega) 2 _) (show g < (w.heap.size + 1) by omega) 3 _)
    · exact grown_drew (grown_new (grown_new (grown_new (grown_new (grown_new (grown_new (grown_new (grown_new (G) (show w.heap.size ≤ w.heap.size by omega) 0 _) (show w.heap.size ≤ w.heap.size by omega) 1 _) (show w.heap.size ≤ w.heap.size by omega) 2 _) (show w.heap.size ≤ w.heap.size by omega) 3 _) (show w.heap.size ≤ (w.heap.size + 1) by omega) 0 _) (show w.heap.size ≤ (w.heap.size + 1) by omega) 1 _) (show w.heap.size ≤ (w.heap.size + 1) by omega) 2 _) (show w.heap.size ≤ (w.heap.size + 1) by omega) 3 _)
end Go.Proofs.Ytdpkodemmfaglaa
