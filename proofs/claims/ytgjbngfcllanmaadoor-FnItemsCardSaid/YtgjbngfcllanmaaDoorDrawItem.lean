/- The model's draws of items and of lists of items. -/
import Derived.Test.YtgjbngfcllanmaaDoorDrawBoxes
import Derived.Test.YtgjbngfcllanmaaDoorSlice
import Derived.Test.YtgjbngfcllanmaaDoorApart
import Derived.Test.YtgjbngfcllanmaaDoorItemAt
namespace Go.Proofs.YtgjbngfcllanmaaDoor
open Go.RowKit

/-- What the draw of an item leaves: whatever its numbers are. -/
def DrawnItem (g : Nat) (zs : List Int) (w : World) (e : Ending) (w' : World) : Prop :=
  ∃ x : It, e = .returned (.agg #[.int .i64 x.id, .int .i64 x.x0, .int .i64 x.y0, .int .i64 x.x1, .int .i64 x.y1]) ∧ Cur g zs w' ∧ w.grownBy w' (some g)

set_option maxHeartbeats 800000 in
theorem l4Draw_any (g : Nat) (zs : List Int) (w : World) (h : Cur g zs w) :
    Calls Tryd.prog 36 #[.pointer (some ⟨g, 0, none⟩)] w (DrawnItem g zs w) := by
  have hlt := cur_lt h
  have hne : w.heap.size ≠ g := by omega
  go_enter Tryd.func36, Tryd.ntmps36
  go_wp2_with fail
  refine (l1Below_any g zs 30 _ (cur_alloc h _) (by omega)).mono ?_
  rintro e w1 ⟨x, rfl, x0, x1, c, G⟩
  simp at x1
  have hs := G.size
  simp at hs
  go_wp2_with fail
  refine (l2Draw_any g zs _ c).mono ?_
  rintro e w2 ⟨p0, p1, p2, p3, rfl, -, c, g2⟩
  replace G := grown_trans G g2
  clear g2
  have k := grown_cell G (b := w.heap.size) (by simp) hne
  have f := grown_frozen G (b := w.heap.size) (by simp) hne
  go_wp2
  refine bodyPost_ret (v := .agg #[.int .i64 (1 + x), .int .i64 p0, .int .i64 p1, .int .i64 p2, .int .i64 p3]) (by simp [results, Tryd.results36, go_sem, k]) rfl ⟨⟨1 + x, p0, p1, p2, p3⟩, rfl, ?_, ?_⟩
  · exact cur_set (cur_set (cur_set (cur_set (cur_set (c) hlt 0 _) hlt 1 _) hlt 2 _) hlt 3 _) hlt 4 _
  · exact grown_new (grown_new (grown_new (grown_new (grown_new (grown_trans (World.grownBy_alloc w _ (some g)) G) (Nat.le_refl _) 0 _) (Nat.le_refl _) 1 _) (Nat.le_refl _) 2 _) (Nat.le_refl _) 3 _) (Nat.le_refl _) 4 _

set_option maxHeartbeats 1600000 in
theorem l4Any_any (g : Nat) (zs : List Int) (w : World) (h : Cur g zs w) :
    Calls Tryd.prog 35 #[.pointer (some ⟨g, 0, none⟩)] w (DrawnItem g zs w) := by
  have hlt := cur_lt h
  have hne : w.heap.size ≠ g := by omega
  go_enter Tryd.func35, Tryd.ntmps35
  go_wp2_with fail
  refine (l4Draw_any g zs _ (cur_alloc h _)).mono ?_
  rintro e w1 ⟨⟨a, b, c, d, i⟩, rfl, cu, G⟩
  have g0 := G
  go_wp2_with fail
  replace G := grown_alloc (grown_trans (World.grownBy_alloc w _ (some g)) G) (.cells #[.int .i64 a, .int .i64 b, .int .i64 c, .int .i64 d, .int .i64 i] 30)
  have S := G.size
  have hq : w.heap.size ≤ w1.heap.size := by have := g0.size; simp at this; omega
  have hqg : g < w1.heap.size := by omega
  have hq1 : w1.heap.size ≠ g := by omega
  have hq0 : w.heap.size ≠ w1.heap.size := by have := g0.size; simp at this; omega
  have p0 := grown_cell g0 (b := w.heap.size) (by simp) hne
  have q0 := grown_frozen g0 (b := w.heap.size) (by simp) hne
  clear g0
  refine (l1Below_any g zs 8 _ (cur_alloc cu _) (by omega)).mono ?_
  rintro e w2 ⟨x, rfl, x0, x1, cu, g2⟩
  simp at x1
  have k1 := grown_cell g2 (b := w1.heap.size) (by simp) hq1
  have f1 := grown_frozen g2 (b := w1.heap.size) (by simp) hq1
  have k0 : ∀ o, w2.cell? ⟨w.heap.size, o, none⟩ = _ := fun o => (grown_cell g2 (b := w.heap.size) (by simp; omega) hne o).trans ((World.cell?_alloc_lt w1 _ ⟨w.heap.size, o, none⟩ (by show w.heap.size < w1.heap.size; omega)).trans (p0 o))
  have f0 : ∀ o, w2.frozen? ⟨w.heap.size, o, none⟩ = _ := fun o => (grown_frozen g2 (b := w.heap.size) (by simp; omega) hne o).trans ((World.frozen?_alloc_old w1 _ ⟨w.heap.size, o, none⟩ (by show w.heap.size ≠ w1.heap.size; omega)).trans (q0 o))
  clear p0 q0
  have s2 := g2.size
  simp at s2
  replace G := grown_trans G g2
  clear g2
  rcases (by omega : x = 0 ∨ x = 1 ∨ 2 ≤ x) with rfl | rfl | hx
  · go_wp2_with fail
    refine (l1Int_any g zs [0, 999, 1000, -1] (some ⟨w2.heap.size, 0, none⟩) 4 4 _ (cur_alloc cu _) (rdI_new w2 .i64 [0, 999, 1000, -1] _ _ 4 rfl rfl (by simp [maxLen])) (by omega) (by omega) (fun x hx => by cases hx; simp; omega)).mono ?_
    intro e w3 hd
    obtain ⟨y, rfl, -, cu, g3⟩ := drawnOf_lit hd
    clear hd
    have k1' := grown_cell g3 (b := w1.heap.size) (by omega) hq1
    have f1' := grown_frozen g3 (b := w1.heap.size) (by omega) hq1
    have k0' := grown_cell g3 (b := w.heap.size) (by omega) hne
    have f0' := grown_frozen g3 (b := w.heap.size) (by omega) hne
    replace G := grown_trans G g3
    clear g3
    go_wp2
    refine bodyPost_ret (v := .agg #[.int .i64 y, .int .i64 b, .int .i64 c, .int .i64 d, .int .i64 i]) (by simp [results, Tryd.results35, go_sem, k0', k0]) rfl ⟨⟨y, b, c, d, i⟩, rfl, ?_, ?_⟩
    · exact cur_set (cur_set (cur_set (cur_set (cur_set (cur_set (cu) hqg 0 _) hlt 0 _) hlt 1 _) hlt 2 _) hlt 3 _) hlt 4 _
    · exact grown_new (grown_new (grown_new (grown_new (grown_new (grown_new (G) hq 0 _) (Nat.le_refl _) 0 _) (Nat.le_refl _) 1 _) (Nat.le_refl _) 2 _) (Nat.le_refl _) 3 _) (Nat.le_refl _) 4 _
  · go_wp2_with fail
    refine (l2Any_any g zs _ cu).mono ?_
    rintro e w3 ⟨r0, r1, r2, r3, rfl, -, cu, g3⟩
    have k1' := grown_cell g3 (b := w1.heap.size) (by omega) hq1
    have f1' := grown_frozen g3 (b := w1.heap.size) (by omega) hq1
    have k0' := grown_cell g3 (b := w.heap.size) (by omega) hne
    have f0' := grown_frozen g3 (b := w.heap.size) (by omega) hne
    replace G := grown_trans G g3
    clear g3
    go_wp2
    refine bodyPost_ret (v := .agg #[.int .i64 a, .int .i64 r0, .int .i64 r1, .int .i64 r2, .int .i64 r3]) (by simp [results, Tryd.results35, go_sem, k0', k0]) rfl ⟨⟨a, r0, r1, r2, r3⟩, rfl, ?_, ?_⟩
    · exact cur_set (cur_set (cur_set (cur_set (cur_set (cur_set (cur_set (cur_set (cur_set (cu) hqg 1 _) hqg 2 _) hqg 3 _) hqg 4 _) hlt 0 _) hlt 1 _) hlt 2 _) hlt 3 _) hlt 4 _
    · exact grown_new (grown_new (grown_new (grown_new (grown_new (grown_new (grown_new (grown_new (grown_new (G) hq 1 _) hq 2 _) hq 3 _) hq 4 _) (Nat.le_refl _) 0 _) (Nat.le_refl _) 1 _) (Nat.le_refl _) 2 _) (Nat.le_refl _) 3 _) (Nat.le_refl _) 4 _
  · have h0 : (x == 0) = false := by rw [beq_eq_false_iff_ne]; omega
    have h1 : (x == 1) = false := by rw [beq_eq_false_iff_ne]; omega
    go_wp2
    refine bodyPost_ret (v := .agg #[.int .i64 a, .int .i64 b, .int .i64 c, .int .i64 d, .int .i64 i]) (by simp [results, Tryd.results35, go_sem, k0]) rfl ⟨⟨a, b, c, d, i⟩, rfl, ?_, ?_⟩
    · exact cur_set (cur_set (cur_set (cur_set (cur_set (cu) hlt 0 _) hlt 1 _) hlt 2 _) hlt 3 _) hlt 4 _
    · exact grown_new (grown_new (grown_new (grown_new (grown_new (G) (Nat.le_refl _) 0 _) (Nat.le_refl _) 1 _) (Nat.le_refl _) 2 _) (Nat.le_refl _) 3 _) (Nat.le_refl _) 4 _
end Go.Proofs.YtgjbngfcllanmaaDoor
