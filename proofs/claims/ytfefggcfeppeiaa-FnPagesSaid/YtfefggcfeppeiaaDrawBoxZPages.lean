/- The model's draws of rectangles: four integers that fit, whatever they are. -/
import Derived.Test.YtfefggcfeppeiaaQPagesd
namespace Go.Proofs.Ytfefggcfeppeiaa
open Go.RowKit

def I64 (x : Int) : Prop := -9223372036854775808 ≤ x ∧ x ≤ 9223372036854775807
theorem i64_wf {x : Int} (h : (Lit.int .i64 x).wf = true) : I64 x := bounds_i64 h
theorem wf_i64 {x : Int} (h : I64 x) : (Lit.int .i64 x).wf = true := by
  obtain ⟨a, b⟩ := h
  simp [Lit.wf, IntKind.min, IntKind.max, IntKind.signed, IntKind.bits]; omega

/-- What the draw of a rectangle leaves. -/
def DrawnBox (R : Int → Int → Int → Int → Prop) (g : Nat) (zs : List Int) (w : World) (e : Ending) (w' : World) : Prop :=
  ∃ x0 y0 x1 y1, e = .returned (.agg #[.int .i64 x0, .int .i64 y0, .int .i64 x1, .int .i64 y1]) ∧ R x0 y0 x1 y1 ∧ Cur g zs w' ∧ w.grownBy w' (some g)
def Small4 (x0 y0 x1 y1 : Int) : Prop := (0 ≤ x0 ∧ x0 ≤ 249) ∧ (0 ≤ y0 ∧ y0 ≤ 249) ∧ (x0 ≤ x1 ∧ x1 ≤ 255) ∧ (y0 ≤ y1 ∧ y1 ≤ 255)
def Any4 (x0 y0 x1 y1 : Int) : Prop := I64 x0 ∧ I64 y0 ∧ I64 x1 ∧ I64 y1

/-- A draw out of a list that was laid for it. -/
theorem drawnOf_lit {g : Nat} {zs l : List Int} {w : World} {o : Obj} {e : Ending} {w' : World} (h : DrawnOf g zs l (w.alloc o) e w') :
    ∃ x : Int, e = .returned (.int .i64 x) ∧ x ∈ l ∧ Cur g zs w' ∧ w.grownBy w' (some g) := by
  obtain ⟨x, he, hx, hc, hw⟩ := h
  refine ⟨x, he, hx, hc, ⟨hw.os, hw.tape, hw.output, by have := hw.size; simp at this; omega, fun i hi hne => ?_⟩⟩
  rw [hw.block i (by simp; omega) hne]
  exact heap_alloc_old w o hi

theorem lst_bd (a b : Int) : lst a b ≤ a ∧ lst a b ≤ b ∧ (lst a b = a ∨ lst a b = b) := by unfold lst; split <;> omega

theorem xs_mem {x : Int} (h : x ∈ [0, 1, 5, 9, 40]) : 0 ≤ x ∧ x ≤ 40 := by simp at h; omega
theorem ys_mem {x : Int} (h : x ∈ [0, 1, 3, 12]) : 0 ≤ x ∧ x ≤ 12 := by simp at h; omega

theorem add_in (a b : Int) (h : -1000000 ≤ a ∧ a ≤ 1000000) (h' : -1000000 ≤ b ∧ b ≤ 1000000) : IntKind.i64.wrap (a + b) = a + b := IntWalk.i64_in _ (by omega)

theorem grown_set (W : World) (b j : Nat) (u : Value) : W.grownBy (W.setCell ⟨b, j, none⟩ u) (some b) := grown_setCell (World.grownBy.refl _ _) b j u rfl

set_option maxRecDepth 100000 in
set_option maxHeartbeats 800000 in
theorem l2Draw_any (g : Nat) (zs : List Int) (w : World) (h : Cur g zs w) :
    Calls Try.prog 116 #[.pointer (some ⟨g, 0, none⟩)] w (DrawnBox Small4 g zs w) := by
  have hlt := cur_lt h
  have hne : w.heap.size ≠ g := by omega
  go_enter Try.func116, Try.ntmps116
  go_wp2_with fail
  refine (l1Below_any g zs 250 _ (cur_alloc h _) (by omega)).mono ?_
  rintro e w1 ⟨x, rfl, x0, x1, c, G⟩
  simp at x1
  go_wp2_with fail
  refine (l1Below_any g zs 250 _ c (by omega)).mono ?_
  rintro e w2 ⟨y, rfl, y0, y1, c, g2⟩
  replace G := grown_trans G g2
  clear g2
  simp at y1
  go_wp2_with fail
  refine (l1Once_any g zs 2 _ c (by omega)).mono ?_
  rintro e w3 ⟨b, rfl, c, g2⟩
  replace G := grown_trans G g2
  clear g2
  cases b
  case' true =>
    go_wp2_with fail
    refine (l1Below_any g zs 20 _ c (by omega)).mono ?_
    rintro e w4 ⟨x, rfl, x0, x1, c, g2⟩
    replace G := grown_trans G g2
    clear g2
    simp at x1
    go_wp2_with fail
    refine (l1Below_any g zs 20 _ c (by omega)).mono ?_
    rintro e w3 ⟨y, rfl, y0, y1, c, g2⟩
    replace G := grown_trans G g2
    clear g2
    simp at y1
  all_goals
    have s := G.size
    simp at s
    go_wp2_with fail
    refine (l1Int_any g zs [0, 1, 5, 9, 40] (some ⟨w3.heap.size, 0, none⟩) 5 5 _ (cur_alloc c _) (rdI_new w3 .i64 [0, 1, 5, 9, 40] _ _ 5 rfl rfl (by simp [maxLen])) (by omega) (by omega) (fun x hx => by cases hx; simp; omega)).mono ?_
    intro e w5 hd
    obtain ⟨u, rfl, hu, c, g2⟩ := drawnOf_lit hd
    clear hd
    obtain ⟨u0, u1⟩ := xs_mem hu
    clear hu
    replace G := grown_trans G g2
    clear g2
    have s := G.size
    simp at s
    go_wp2_with fail
    refine (sLeast_any _ _ _).mono ?_
    rintro e w6 ⟨rfl, rfl⟩
    go_wp2_with fail
    refine (l1Int_any g zs [0, 1, 3, 12] (some ⟨w5.heap.size, 0, none⟩) 4 4 _ (cur_alloc c _) (rdI_new w5 .i64 [0, 1, 3, 12] _ _ 4 rfl rfl (by simp [maxLen])) (by omega) (by omega) (fun x hx => by cases hx; simp; omega)).mono ?_
    intro e w7 hd
    obtain ⟨v, rfl, hv, c, g2⟩ := drawnOf_lit hd
    clear hd
    obtain ⟨v0, v1⟩ := ys_mem hv
    clear hv
    replace G := grown_trans G g2
    clear g2
    go_wp2_with fail
    refine (sLeast_any _ _ _).mono ?_
    rintro e w8 ⟨rfl, rfl⟩
    have k := grown_cell G (b := w.heap.size) (by simp) hne
    have f := grown_frozen G (b := w.heap.size) (by simp) hne
    go_wp2
    have K := grown_trans (grown_trans (grown_trans (grown_set w7 w.heap.size 0 (.int .i64 x)) (grown_set _ w.heap.size 1 (.int .i64 y))) (grown_set _ w.heap.size 2 (.int .i64 (lst 255 (x + u))))) (grown_set _ w.heap.size 3 (.int .i64 (lst 255 (y + v))))
    refine bodyPost_ret (v := .agg #[.int .i64 x, .int .i64 y, .int .i64 (lst 255 (x + u)), .int .i64 (lst 255 (y + v))]) (by simp [results, Try.results116, go_sem, k]) rfl ⟨_, _, _, _, rfl, ?_, ?_, ?_⟩
    · have := lst_bd 255 (x + u)
      have := lst_bd 255 (y + v)
      exact ⟨⟨by omega, by omega⟩, ⟨by omega, by omega⟩, ⟨by omega, by omega⟩, by omega, by omega⟩
    · exact cur_kept c K (fun j hj => by cases hj; exact hlt)
    · exact grown_own (grown_trans (World.grownBy_alloc w _ (some g)) G) (World.grownBy.refl _ none) K (fun j hj => by cases hj; exact Nat.le_refl _)

theorem cur_set {g : Nat} {zs : List Int} {W : World} (h : Cur g zs W) {b : Nat} (hb : g < b) (j : Nat) (u : Value) : Cur g zs (W.setCell ⟨b, j, none⟩ u) := cur_kept h (grown_set W b j u) (fun k hk => by cases hk; exact hb)
theorem grown_new {w W : World} {row : Option Nat} (h : w.grownBy W row) {b : Nat} (hb : w.heap.size ≤ b) (j : Nat) (u : Value) : w.grownBy (W.setCell ⟨b, j, none⟩ u) row :=
  grown_own h (World.grownBy.refl _ none) (grown_set W b j u) (fun k hk => by cases hk; exact hb)
theorem grown_alloc {w W : World} {row : Option Nat} (h : w.grownBy W row) (o : Obj) : w.grownBy (W.alloc o) row := grown_trans h (World.grownBy_alloc W o row)

set_option maxRecDepth 100000 in
set_option maxHeartbeats 1600000 in
theorem l2Any_any (g : Nat) (zs : List Int) (w : World) (h : Cur g zs w) :
    Calls Try.prog 115 #[.pointer (some ⟨g, 0, none⟩)] w (DrawnBox Any4 g zs w) := by
  have hlt := cur_lt h
  have hne : w.heap.size ≠ g := by omega
  have hne' : w.heap.size + 1 ≠ g := by omega
  go_enter Try.func115, Try.ntmps115
  go_wp2_with fail
  refine (l2Draw_any g zs _ (cur_alloc h _)).mono ?_
  rintro e w1 ⟨a, b, c, d, rfl, ⟨⟨a0, a1⟩, ⟨b0, b1⟩, ⟨c0, c1⟩, d0, d1⟩, cu, G⟩
  have g0 := G
  go_wp2_with fail
  replace G := grown_alloc (grown_trans (World.grownBy_alloc w _ (some g)) G) (.cells #[.int .i64 a, .int .i64 b, .int .i64 c, .int .i64 d] 61)
  have S := G.size
  have hq : w.heap.size ≤ w1.heap.size := by have := g0.size; simp at this; omega
  have hqg : g < w1.heap.size := by omega
  have hq1 : w1.heap.size ≠ g := by omega
  have hq0 : w.heap.size ≠ w1.heap.size := by have := g0.size; simp at this; omega
  have p0 := grown_cell g0 (b := w.heap.size) (by simp) hne
  have q0 := grown_frozen g0 (b := w.heap.size) (by simp) hne
  clear g0
  refine (l1Below_any g zs 12 _ (cur_alloc cu _) (by omega)).mono ?_
  rintro e w2 ⟨x, rfl, x0, x1, cu, g2⟩
  simp at x1
  have k1 := grown_cell g2 (b := w1.heap.size) (by simp) hq1
  have f1 := grown_frozen g2 (b := w1.heap.size) (by simp) hq1
  have k0 : ∀ o, w2.cell? ⟨w.heap.size, o, none⟩ = _ := fun o => (grown_cell g2 (b := w.heap.size) (by simp; omega) hne o).trans ((World.cell?_alloc_lt w1 _ ⟨w.heap.size, o, none⟩ (by show w.heap.size < w1.heap.size; omega)).trans (p0 o))
  have f0 : ∀ o, w2.frozen? ⟨w.heap.size, o, none⟩ = _ := fun o => (grown_frozen g2 (b := w.heap.size) (by simp; omega) hne o).trans ((World.frozen?_alloc_old w1 _ ⟨w.heap.size, o, none⟩ (by show w.heap.size ≠ w1.heap.size; omega)).trans (q0 o))
  clear p0 q0
  have s2 := g2.size
  simp at s2
  replace G := grown_trans G g2
  clear g2
  rcases (by omega : x = 0 ∨ x = 1 ∨ x = 2 ∨ x = 3 ∨ 4 ≤ x) with rfl | rfl | rfl | rfl | hx
  · go_wp2_with fail
    refine (l1Raw_any g zs _ cu).mono ?_
    rintro e w3 ⟨y, rfl, hy, cu, g3⟩
    replace hy := Lib.hid (i64_wf hy)
    have k1' := grown_cell g3 (b := w1.heap.size) (by omega) hq1
    have f1' := grown_frozen g3 (b := w1.heap.size) (by omega) hq1
    have k0' := grown_cell g3 (b := w.heap.size) (by omega) hne
    have f0' := grown_frozen g3 (b := w.heap.size) (by omega) hne
    replace G := grown_trans G g3
    clear g3
    go_wp2
    refine bodyPost_ret (v := .agg #[.int .i64 y, .int .i64 b, .int .i64 c, .int .i64 d]) (by simp [results, Try.results115, go_sem, k0', k0]) rfl ⟨_, _, _, _, rfl, ?_, ?_, ?_⟩
    · exact ⟨hy.out, ⟨by omega, by omega⟩, ⟨by omega, by omega⟩, by omega, by omega⟩
    · exact cur_set (cur_set (cur_set (cur_set (cur_set (cu) hqg 0 _) hlt 0 _) hlt 1 _) hlt 2 _) hlt 3 _
    · exact grown_new (grown_new (grown_new (grown_new (grown_new (G) hq 0 _) (Nat.le_refl _) 0 _) (Nat.le_refl _) 1 _) (Nat.le_refl _) 2 _) (Nat.le_refl _) 3 _
  · go_wp2_with fail
    refine (l1Raw_any g zs _ cu).mono ?_
    rintro e w3 ⟨y, rfl, hy, cu, g3⟩
    replace hy := Lib.hid (i64_wf hy)
    have k1' := grown_cell g3 (b := w1.heap.size) (by omega) hq1
    have f1' := grown_frozen g3 (b := w1.heap.size) (by omega) hq1
    have k0' := grown_cell g3 (b := w.heap.size) (by omega) hne
    have f0' := grown_frozen g3 (b := w.heap.size) (by omega) hne
    replace G := grown_trans G g3
    clear g3
    go_wp2
    refine bodyPost_ret (v := .agg #[.int .i64 a, .int .i64 b, .int .i64 c, .int .i64 y]) (by simp [results, Try.results115, go_sem, k0', k0]) rfl ⟨_, _, _, _, rfl, ?_, ?_, ?_⟩
    · exact ⟨⟨by omega, by omega⟩, ⟨by omega, by omega⟩, ⟨by omega, by omega⟩, hy.out⟩
    · exact cur_set (cur_set (cur_set (cur_set (cur_set (cu) hqg 3 _) hlt 0 _) hlt 1 _) hlt 2 _) hlt 3 _
    · exact grown_new (grown_new (grown_new (grown_new (grown_new (G) hq 3 _) (Nat.le_refl _) 0 _) (Nat.le_refl _) 1 _) (Nat.le_refl _) 2 _) (Nat.le_refl _) 3 _
  · go_wp2
    refine bodyPost_ret (v := .agg #[.int .i64 a, .int .i64 b, .int .i64 (a - 1), .int .i64 d]) (by simp [results, Try.results115, go_sem, k0]) rfl ⟨_, _, _, _, rfl, ?_, ?_, ?_⟩
    · exact ⟨⟨by omega, by omega⟩, ⟨by omega, by omega⟩, ⟨by omega, by omega⟩, by omega, by omega⟩
    · exact cur_set (cur_set (cur_set (cur_set (cur_set (cu) hqg 2 _) hlt 0 _) hlt 1 _) hlt 2 _) hlt 3 _
    · exact grown_new (grown_new (grown_new (grown_new (grown_new (G) hq 2 _) (Nat.le_refl _) 0 _) (Nat.le_refl _) 1 _) (Nat.le_refl _) 2 _) (Nat.le_refl _) 3 _
  · go_wp2
    refine bodyPost_ret (v := .agg #[.int .i64 a, .int .i64 0, .int .i64 c, .int .i64 255]) (by simp [results, Try.results115, go_sem, k0]) rfl ⟨_, _, _, _, rfl, ?_, ?_, ?_⟩
    · exact ⟨⟨by omega, by omega⟩, ⟨by omega, by omega⟩, ⟨by omega, by omega⟩, by omega, by omega⟩
    · exact cur_set (cur_set (cur_set (cur_set (cur_set (cur_set (cu) hqg 1 _) hqg 3 _) hlt 0 _) hlt 1 _) hlt 2 _) hlt 3 _
    · exact grown_new (grown_new (grown_new (grown_new (grown_new (grown_new (G) hq 1 _) hq 3 _) (Nat.le_refl _) 0 _) (Nat.le_refl _) 1 _) (Nat.le_refl _) 2 _) (Nat.le_refl _) 3 _
  · have h0 : (x == 0) = false := by rw [beq_eq_false_iff_ne]; omega
    have h1 : (x == 1) = false := by rw [beq_eq_false_iff_ne]; omega
    have h2 : (x == 2) = false := by rw [beq_eq_false_iff_ne]; omega
    have h3 : (x == 3) = false := by rw [beq_eq_false_iff_ne]; omega
    go_wp2
    refine bodyPost_ret (v := .agg #[.int .i64 a, .int .i64 b, .int .i64 c, .int .i64 d]) (by simp [results, Try.results115, go_sem, k0]) rfl ⟨_, _, _, _, rfl, ?_, ?_, ?_⟩
    · exact ⟨⟨by omega, by omega⟩, ⟨by omega, by omega⟩, ⟨by omega, by omega⟩, by omega, by omega⟩
    · exact cur_set (cur_set (cur_set (cur_set (cu) hlt 0 _) hlt 1 _) hlt 2 _) hlt 3 _
    · exact grown_new (grown_new (grown_new (grown_new (G) (Nat.le_refl _) 0 _) (Nat.le_refl _) 1 _) (Nat.le_refl _) 2 _) (Nat.le_refl _) 3 _
end Go.Proofs.Ytfefggcfeppeiaa
