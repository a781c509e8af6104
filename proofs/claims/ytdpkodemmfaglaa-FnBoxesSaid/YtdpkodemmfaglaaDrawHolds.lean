/- What the law of containment draws: two rectangles, at times the first one's join with the second in its place. -/
import Derived.Test.YtdpkodemmfaglaaDrawBoxes
namespace Go.Proofs.Ytdpkodemmfaglaa
open Go.RowKit

theorem i64_lst {a b : Int} (h : I64 a) (h' : I64 b) : I64 (lst a b) := by unfold lst; split <;> assumption

set_option maxHeartbeats 800000 in
theorem drawHolds_any (A : Option Addr) (cap : Nat) (zs : List Int) (w : World) (h : RdI .u8 w A zs.length cap zs) (hz : ∀ z ∈ zs, 0 ≤ z ∧ z ≤ 255) (hn : zs.length ≤ 1048576) :
    Calls Try.prog 16 #[.slice A zs.length cap] w (DrawnPair w) := by
  have HR := Lib.hid h
  have HZ := Lib.hid hz
  clear h hz
  have K0 := Lib.hid (blk_alloc (.cells #[.int .i64 0, .int .i64 0, .int .i64 0, .int .i64 0] 25) (by simp) _ _ (blk_new w #[.int .i64 0, .int .i64 0, .int .i64 0, .int .i64 0] 25))
  have K1 := Lib.hid (blk_new1 w (.cells #[.int .i64 0, .int .i64 0, .int .i64 0, .int .i64 0] 25) #[.int .i64 0, .int .i64 0, .int .i64 0, .int .i64 0] 25)
  have hne : w.heap.size ≠ w.heap.size + 1 := by omega
  go_enter Try.func16, Try.ntmps16
  go_wp2_with fail
  refine (l1New_any A cap zs _ (HR.out.below (((Below.refl _ _).alloc (Nat.le_refl _) _).alloc (by simp) _)) HZ.out hn).mono ?_
  rintro e w1 ⟨g, rfl, cu, hb, hg⟩
  have cu0 := cu
  simp at hg
  replace K0 := Lib.hid (below_keep hb (by simp; omega) _ _ K0.out)
  replace K1 := Lib.hid (below_keep hb (by simp) _ _ K1.out)
  have s1 := hb.size
  simp at s1
  replace hb := (((Below.refl _ _).alloc (Nat.le_refl _) _).alloc (by simp) _).trans (hb.mono (show w.heap.size ≤ _ by simp; omega))
  go_wp2_with fail
  refine (l2Pair_any g zs _ cu).mono ?_
  rintro e w2 ⟨a, b, c, d, p, q, r, s, rfl, A4, B4, cu, g2⟩
  replace A4 := Lib.hid A4
  replace B4 := Lib.hid B4
  have K0' := Lib.hid (blk_keep g2 (by omega) (by omega) _ _ K0.out)
  have K1' := Lib.hid (blk_keep g2 (by omega) (by omega) _ _ K1.out)
  have s2 := g2.size
  have hgl : g < w1.heap.size := cur_lt cu0
  have hgw : w2.heap.size ≠ g := by omega
  have hgw' : w2.heap.size + 1 ≠ g := by omega
  replace hb := below_blk hb g2 (by omega) (by omega)
  clear g2 K0 K1
  have K0 := Lib.hid (blk_alloc (.cells #[.int .i64 p, .int .i64 q, .int .i64 r, .int .i64 s] 25) (by simp; omega) _ _ (blk_alloc (.cells #[.int .i64 a, .int .i64 b, .int .i64 c, .int .i64 d] 25) (by omega) _ _ K0'.out))
  have K1 := Lib.hid (blk_alloc (.cells #[.int .i64 p, .int .i64 q, .int .i64 r, .int .i64 s] 25) (by simp; omega) _ _ (blk_alloc (.cells #[.int .i64 a, .int .i64 b, .int .i64 c, .int .i64 d] 25) (by omega) _ _ K1'.out))
  have K2 := Lib.hid (blk_alloc (.cells #[.int .i64 p, .int .i64 q, .int .i64 r, .int .i64 s] 25) (by simp) _ _ (blk_new w2 #[.int .i64 a, .int .i64 b, .int .i64 c, .int .i64 d] 25))
  have K3 := Lib.hid (blk_new1 w2 (.cells #[.int .i64 a, .int .i64 b, .int .i64 c, .int .i64 d] 25) #[.int .i64 p, .int .i64 q, .int .i64 r, .int .i64 s] 25)
  clear K0' K1'
  replace hb := (hb.alloc (by omega) (.cells #[.int .i64 a, .int .i64 b, .int .i64 c, .int .i64 d] 25)).alloc (by simp; omega) (.cells #[.int .i64 p, .int .i64 q, .int .i64 r, .int .i64 s] 25)
  go_wp2_with fail
  refine (l1Once_any g zs 2 _ (cur_alloc (cur_alloc cu _) _) (by omega)).mono ?_
  rintro e w3 ⟨t, rfl, cu, g3⟩
  have s3 := g3.size
  simp at s3
  have hg2 := cur_lt cu
  obtain ⟨k0, f0⟩ := blk_keep g3 (by simp; omega) (by omega) _ _ K0.out
  obtain ⟨k1, f1⟩ := blk_keep g3 (by simp; omega) (by omega) _ _ K1.out
  obtain ⟨k2, f2⟩ := blk_keep g3 (by simp; omega) hgw _ _ K2.out
  obtain ⟨k3, f3⟩ := blk_keep g3 (by simp) hgw' _ _ K3.out
  replace hb := below_blk hb g3 (by omega) (by simp; omega)
  clear g3 K0 K1 K2 K3
  have n0 : w.heap.size ≠ w2.heap.size := by omega
  have n1 : w.heap.size ≠ w2.heap.size + 1 := by omega
  have n2 : w.heap.size + 1 ≠ w2.heap.size := by omega
  have n3 : w.heap.size + 1 ≠ w2.heap.size + 1 := by omega
  cases t with
  | true =>
    go_wp2_with fail
    go_region_held3 (fun w' => (w'.cell? ⟨w2.heap.size, 0, none⟩ = some (.int .i64 a) ∧ w'.cell? ⟨w2.heap.size, 1, none⟩ = some (.int .i64 b) ∧ w'.cell? ⟨w2.heap.size, 2, none⟩ = some (.int .i64 c) ∧ w'.cell? ⟨w2.heap.size, 3, none⟩ = some (.int .i64 d)) ∧
        (w'.cell? ⟨w2.heap.size + 1, 0, none⟩ = some (.int .i64 p) ∧ w'.cell? ⟨w2.heap.size + 1, 1, none⟩ = some (.int .i64 q) ∧ w'.cell? ⟨w2.heap.size + 1, 2, none⟩ = some (.int .i64 r) ∧ w'.cell? ⟨w2.heap.size + 1, 3, none⟩ = some (.int .i64 s)))
      (first | (simp [k2, k3]; done) | (simp [j2, j3]; done) | (simp [j2, j3, World.cell?_setCell_far, n0, n1, n2]; done))
      (first | ((with_reducible refine (sJoin_any _ _ _ _ _ _ _ _ _).mono ?_); rintro e w4 ⟨rfl, hj⟩;
                 obtain ⟨j0, i0⟩ := below_keep hj (show w.heap.size < w3.heap.size by omega) _ _ ⟨k0, f0⟩; obtain ⟨j1, i1⟩ := below_keep hj (show w.heap.size + 1 < w3.heap.size by omega) _ _ ⟨k1, f1⟩;
                 obtain ⟨j2, i2⟩ := below_keep hj (show w2.heap.size < w3.heap.size by omega) _ _ ⟨k2, f2⟩; obtain ⟨j3, i3⟩ := below_keep hj (show w2.heap.size + 1 < w3.heap.size by omega) _ _ ⟨k3, f3⟩))
    all_goals
      rename_i hH
      clear hH
      go_wp2
      refine bodyPost_ret (v := .tuple #[.agg #[.int .i64 (lst a p), .int .i64 (lst b q), .int .i64 (mst c r), .int .i64 (mst d s)], .agg #[.int .i64 p, .int .i64 q, .int .i64 r, .int .i64 s]]) (by simp [results, Try.results16, go_sem, j0, j1]) rfl ⟨_, _, _, _, _, _, _, _, rfl, ?_, B4.out, ?_⟩
      · exact ⟨i64_lst A4.out.1 B4.out.1, i64_lst A4.out.2.1 B4.out.2.1, i64_mst A4.out.2.2.1 B4.out.2.2.1, i64_mst A4.out.2.2.2 B4.out.2.2.2⟩
      · exact ((((((((hb.drew.trans (hj.mono (show w.heap.size ≤ w3.heap.size by omega))).setCell (p := ⟨w.heap.size, 0, none⟩) (Nat.le_refl _) _).setCell (p := ⟨w.heap.size, 1, none⟩) (Nat.le_refl _) _).setCell (p := ⟨w.heap.size, 2, none⟩) (Nat.le_refl _) _).setCell (p := ⟨w.heap.size, 3, none⟩) (Nat.le_refl _) _).setCell (p := ⟨w.heap.size + 1, 0, none⟩) (Nat.le_succ _) _).setCell (p := ⟨w.heap.size + 1, 1, none⟩) (Nat.le_succ _) _).setCell (p := ⟨w.heap.size + 1, 2, none⟩) (Nat.le_succ _) _).setCell (p := ⟨w.heap.size + 1, 3, none⟩) (Nat.le_succ _) _
  | false =>
    go_wp2
    go_region
    all_goals
      go_wp2
      refine bodyPost_ret (v := .tuple #[.agg #[.int .i64 a, .int .i64 b, .int .i64 c, .int .i64 d], .agg #[.int .i64 p, .int .i64 q, .int .i64 r, .int .i64 s]]) (by simp [results, Try.results16, go_sem, k0, k1]) rfl ⟨_, _, _, _, _, _, _, _, rfl, A4.out, B4.out, ?_⟩
      exact (((((((((hb).setCell (p := ⟨w.heap.size, 0, none⟩) (Nat.le_refl _) _).setCell (p := ⟨w.heap.size, 1, none⟩) (Nat.le_refl _) _).setCell (p := ⟨w.heap.size, 2, none⟩) (Nat.le_refl _) _).setCell (p := ⟨w.heap.size, 3, none⟩) (Nat.le_refl _) _).setCell (p := ⟨w.heap.size + 1, 0, none⟩) (Nat.le_succ _) _).setCell (p := ⟨w.heap.size + 1, 1, none⟩) (Nat.le_succ _) _).setCell (p := ⟨w.heap.size + 1, 2, none⟩) (Nat.le_succ _) _).setCell (p := ⟨w.heap.size + 1, 3, none⟩) (Nat.le_succ _) _).drew
end Go.Proofs.Ytdpkodemmfaglaa
