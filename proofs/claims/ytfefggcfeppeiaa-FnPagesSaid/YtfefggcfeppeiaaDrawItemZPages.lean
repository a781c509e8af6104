/- The model's draws of items and of lists of items. -/
import Derived.Test.YtfefggcfeppeiaaDrawBoxesZPages
import Derived.Test.YtfefggcfeppeiaaQPagesd
namespace Go.Proofs.Ytfefggcfeppeiaa
open Go.RowKit

/-- What the draw of an item leaves: whatever its numbers are. -/
def DrawnItem (g : Nat) (zs : List Int) (w : World) (e : Ending) (w' : World) : Prop :=
  ∃ x : It, e = .returned (.agg #[.int .i64 x.id, .int .i64 x.x0, .int .i64 x.y0, .int .i64 x.x1, .int .i64 x.y1]) ∧ Cur g zs w' ∧ w.grownBy w' (some g)

set_option maxRecDepth 100000 in
set_option maxHeartbeats 800000 in
theorem l4Draw_any (g : Nat) (zs : List Int) (w : World) (h : Cur g zs w) :
    Calls Try.prog 114 #[.pointer (some ⟨g, 0, none⟩)] w (DrawnItem g zs w) := by
  have hlt := cur_lt h
  have hne : w.heap.size ≠ g := by omega
  go_enter Try.func114, Try.ntmps114
  go_wp2_with fail
  refine (l1Below_any g zs 30 _ (cur_alloc h _) (by omega)).mono ?_
  rintro e w1 ⟨x, rfl, x0, x1, c, G⟩
  simp at x1
  have hs := G.size
  simp at hs
  go_wp2_with fail
  refine (l2Draw_any g zs _ c).mono ?_
  rintro e w2 ⟨p0, p1, p2, p3, rfl, -, c, g2⟩
  replace G := grown_trans G g2
  clear g2
  have k := grown_cell G (b := w.heap.size) (by simp) hne
  have f := grown_frozen G (b := w.heap.size) (by simp) hne
  go_wp2
  refine bodyPost_ret (v := .agg #[.int .i64 (1 + x), .int .i64 p0, .int .i64 p1, .int .i64 p2, .int .i64 p3]) (by simp [results, Try.results114, go_sem, k]) rfl ⟨⟨1 + x, p0, p1, p2, p3⟩, rfl, ?_, ?_⟩
  · exact cur_set (cur_set (cur_set (cur_set (cur_set (c) hlt 0 _) hlt 1 _) hlt 2 _) hlt 3 _) hlt 4 _
  · exact grown_new (grown_new (grown_new (grown_new (grown_new (grown_trans (World.grownBy_alloc w _ (some g)) G) (Nat.le_refl _) 0 _) (Nat.le_refl _) 1 _) (Nat.le_refl _) 2 _) (Nat.le_refl _) 3 _) (Nat.le_refl _) 4 _

end Go.Proofs.Ytfefggcfeppeiaa
