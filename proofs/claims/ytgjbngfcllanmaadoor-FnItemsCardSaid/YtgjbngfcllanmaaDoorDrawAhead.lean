/- The law of items' draw of two items. -/
import Derived.Test.YtgjbngfcllanmaaDoorDrawItems2
namespace Go.Proofs.YtgjbngfcllanmaaDoor
open Go.RowKit

set_option maxHeartbeats 1600000 in
set_option maxRecDepth 100000 in
theorem drawAhead_any (A : Option Addr) (cap : Nat) (zs : List Int) (w : World) (h : RdI .u8 w A zs.length cap zs) (hz : ∀ z ∈ zs, 0 ≤ z ∧ z ≤ 255) (hn : zs.length ≤ 1048576) :
    Calls Tryd.prog 11 #[.slice A zs.length cap] w (DrawnIts w) := by
  have HR := Lib.hid h
  have HZ := Lib.hid hz
  clear h hz
  have K0 := Lib.hid (blk_alloc (.cells #[.int .i64 0, .int .i64 0, .int .i64 0, .int .i64 0, .int .i64 0] 30) (by simp) _ _ (blk_new w #[.int .i64 0, .int .i64 0, .int .i64 0, .int .i64 0, .int .i64 0] 30))
  have K1 := Lib.hid (blk_new1 w (.cells #[.int .i64 0, .int .i64 0, .int .i64 0, .int .i64 0, .int .i64 0] 30) #[.int .i64 0, .int .i64 0, .int .i64 0, .int .i64 0, .int .i64 0] 30)
  have hne : w.heap.size ≠ w.heap.size + 1 := by omega
  go_enter Tryd.func11, Tryd.ntmps11
  go_wp2_with fail
  refine (l1New_any A cap zs _ (HR.out.below (((Below.refl _ _).alloc (Nat.le_refl _) _).alloc (by simp) _)) HZ.out hn).mono ?_
  rintro e w1 ⟨g, rfl, cu, hb, hg⟩
  simp at hg
  replace K0 := Lib.hid (below_keep hb (by simp; omega) _ _ K0.out)
  replace K1 := Lib.hid (below_keep hb (by simp) _ _ K1.out)
  have s1 := hb.size
  simp at s1
  replace hb := (((Below.refl _ _).alloc (Nat.le_refl _) _).alloc (by simp) _).trans (hb.mono (show w.heap.size ≤ _ by simp; omega))
  have hlt := cur_lt cu
  go_wp2_with fail
  refine (l4Draw_any g zs _ cu).mono ?_
  rintro e w2 ⟨a, rfl, cu, g2⟩
  have s2 := g2.size
  replace K0 := Lib.hid (blk_alloc (.cells #[.int .i64 a.id, .int .i64 a.x0, .int .i64 a.y0, .int .i64 a.x1, .int .i64 a.y1] 30) (by omega) _ _ (blk_keep g2 (by omega) (by omega) _ _ K0.out))
  replace K1 := Lib.hid (blk_alloc (.cells #[.int .i64 a.id, .int .i64 a.x0, .int .i64 a.y0, .int .i64 a.x1, .int .i64 a.y1] 30) (by omega) _ _ (blk_keep g2 (by omega) (by omega) _ _ K1.out))
  have K2 := Lib.hid (blk_new w2 #[.int .i64 a.id, .int .i64 a.x0, .int .i64 a.y0, .int .i64 a.x1, .int .i64 a.y1] 30)
  replace hb := (below_blk hb g2 (by omega) (by omega)).alloc (by omega) (.cells #[.int .i64 a.id, .int .i64 a.x0, .int .i64 a.y0, .int .i64 a.x1, .int .i64 a.y1] 30)
  clear g2
  go_wp2_with fail
  refine (l4Draw_any g zs _ (cur_alloc cu _)).mono ?_
  rintro e w3 ⟨b, rfl, cu, g3⟩
  have s3 := g3.size
  simp at s3
  replace K0 := Lib.hid (blk_alloc (.cells #[.int .i64 b.id, .int .i64 b.x0, .int .i64 b.y0, .int .i64 b.x1, .int .i64 b.y1] 30) (by omega) _ _ (blk_keep g3 (by simp; omega) (by omega) _ _ K0.out))
  replace K1 := Lib.hid (blk_alloc (.cells #[.int .i64 b.id, .int .i64 b.x0, .int .i64 b.y0, .int .i64 b.x1, .int .i64 b.y1] 30) (by omega) _ _ (blk_keep g3 (by simp; omega) (by omega) _ _ K1.out))
  replace K2 := Lib.hid (blk_alloc (.cells #[.int .i64 b.id, .int .i64 b.x0, .int .i64 b.y0, .int .i64 b.x1, .int .i64 b.y1] 30) (by omega) _ _ (blk_keep g3 (by simp) (by omega) _ _ K2.out))
  have K3 := Lib.hid (blk_new w3 #[.int .i64 b.id, .int .i64 b.x0, .int .i64 b.y0, .int .i64 b.x1, .int .i64 b.y1] 30)
  replace hb := (below_blk hb g3 (by omega) (by simp; omega)).alloc (by omega) (.cells #[.int .i64 b.id, .int .i64 b.x0, .int .i64 b.y0, .int .i64 b.x1, .int .i64 b.y1] 30)
  clear g3
  go_wp2_with fail
  refine (l1Once_any g zs 2 _ (cur_alloc cu _) (by omega)).mono ?_
  rintro e w4 ⟨t, rfl, cu, g4⟩
  have s4 := g4.size
  simp at s4
  obtain ⟨k0, f0⟩ := blk_keep g4 (by simp; omega) (by omega) _ _ K0.out
  obtain ⟨k1, f1⟩ := blk_keep g4 (by simp; omega) (by omega) _ _ K1.out
  obtain ⟨k2, f2⟩ := blk_keep g4 (by simp; omega) (by omega) _ _ K2.out
  obtain ⟨k3, f3⟩ := blk_keep g4 (by simp) (by omega) _ _ K3.out
  replace hb := below_blk hb g4 (by omega) (by simp; omega)
  clear g4 K0 K1 K2 K3
  have n1 : w.heap.size ≠ w2.heap.size := by omega
  have n2 : w.heap.size ≠ w3.heap.size := by omega
  have n3 : w.heap.size + 1 ≠ w2.heap.size := by omega
  have n4 : w.heap.size + 1 ≠ w3.heap.size := by omega
  have n5 : w2.heap.size ≠ w3.heap.size := by omega
  cases t
  all_goals
    go_wp2
    go_region
    go_wp2
  · refine bodyPost_ret (v := .tuple #[.agg #[.int .i64 a.id, .int .i64 a.x0, .int .i64 a.y0, .int .i64 a.x1, .int .i64 a.y1], .agg #[.int .i64 b.id, .int .i64 b.x0, .int .i64 b.y0, .int .i64 b.x1, .int .i64 b.y1]]) (by simp [results, Tryd.results11, go_sem, k0, k1]) rfl ⟨a, b, rfl, ?_⟩
    exact ((((((((((hb.setCell (p := ⟨w.heap.size, 0, none⟩) (show w.heap.size ≤ w.heap.size by omega) _).setCell (p := ⟨w.heap.size, 1, none⟩) (show w.heap.size ≤ w.heap.size by omega) _).setCell (p := ⟨w.heap.size, 2, none⟩) (show w.heap.size ≤ w.heap.size by omega) _).setCell (p := ⟨w.heap.size, 3, none⟩) (show w.heap.size ≤ w.heap.size by omega) _).setCell (p := ⟨w.heap.size, 4, none⟩) (show w.heap.size ≤ w.heap.size by omega) _).setCell (p := ⟨w.heap.size + 1, 0, none⟩) (show w.heap.size ≤ w.heap.size + 1 by omega) _).setCell (p := ⟨w.heap.size + 1, 1, none⟩) (show w.heap.size ≤ w.heap.size + 1 by omega) _).setCell (p := ⟨w.heap.size + 1, 2, none⟩) (show w.heap.size ≤ w.heap.size + 1 by omega) _).setCell (p := ⟨w.heap.size + 1, 3, none⟩) (show w.heap.size ≤ w.heap.size + 1 by omega) _).setCell (p := ⟨w.heap.size + 1, 4, none⟩) (show w.heap.size ≤ w.heap.size + 1 by omega) _).drew
  · refine bodyPost_ret (v := .tuple #[.agg #[.int .i64 a.id, .int .i64 a.x0, .int .i64 a.y0, .int .i64 a.x1, .int .i64 a.y1], .agg #[.int .i64 b.id, .int .i64 a.x0, .int .i64 a.y0, .int .i64 a.x1, .int .i64 a.y1]]) (by simp [results, Tryd.results11, go_sem, k0, k1]) rfl ⟨a, ⟨b.id, a.x0, a.y0, a.x1, a.y1⟩, rfl, ?_⟩
    exact ((((((((((((((hb.setCell (p := ⟨w3.heap.size, 1, none⟩) (show w.heap.size ≤ w3.heap.size by omega) _).setCell (p := ⟨w3.heap.size, 2, none⟩) (show w.heap.size ≤ w3.heap.size by omega) _).setCell (p := ⟨w3.heap.size, 3, none⟩) (show w.heap.size ≤ w3.heap.size by omega) _).setCell (p := ⟨w3.heap.size, 4, none⟩) (show w.heap.size ≤ w3.heap.size by omega) _).setCell (p := ⟨w.heap.size, 0, none⟩) (show w.heap.size ≤ w.heap.size by omega) _).setCell (p := ⟨w.heap.size, 1, none⟩) (show w.heap.size ≤ w.heap.size by omega) _).setCell (p := ⟨w.heap.size, 2, none⟩) (show w.heap.size ≤ w.heap.size by omega) _).setCell (p := ⟨w.heap.size, 3, none⟩) (show w.heap.size ≤ w.heap.size by omega) _).setCell (p := ⟨w.heap.size, 4, none⟩) (show w.heap.size ≤ w.heap.size by omega) _).setCell (p := ⟨w.heap.size + 1, 0, none⟩) (show w.heap.size ≤ w.heap.size + 1 by omega) _).setCell (p := ⟨w.heap.size + 1, 1, none⟩) (show w.heap.size ≤ w.heap.size + 1 by omega) _).setCell (p := ⟨w.heap.size + 1, 2, none⟩) (show w.heap.size ≤ w.heap.size + 1 by omega) _).setCell (p := ⟨w.heap.size + 1, 3, none⟩) (show w.heap.size ≤ w.heap.size + 1 by omega) _).setCell (p := ⟨w.heap.size + 1, 4, none⟩) (show w.heap.size ≤ w.heap.size + 1 by omega) _).drew
end Go.Proofs.YtgjbngfcllanmaaDoor
