/- The model's l4Into: a slice with one element more, in new memory. -/
import Derived.Test.YtgjbngfcllanmaaDoorItemS
import Derived.Test.YtgjbngfcllanmaaDoorSlice
namespace Go.Proofs.YtgjbngfcllanmaaDoor
open Go.RowKit

theorem new_at2 (w : World) (a b c : Obj) : (((w.alloc a).alloc b).alloc c).drew.heap[w.heap.size + 2]? = some c := by
  have := heap_alloc_new ((w.alloc a).alloc b) c
  rw [show ((w.alloc a).alloc b).heap.size = w.heap.size + 2 by simp] at this
  exact this
theorem new_at1 (w : World) (a b c : Obj) : (((w.alloc a).alloc b).alloc c).drew.heap[w.heap.size + 1]? = some b := by
  show (((w.alloc a).alloc b).alloc c).heap[w.heap.size + 1]? = some b
  rw [Below.heap_alloc _ _ _ (by simp)]
  have := heap_alloc_new (w.alloc a) b
  rw [show (w.alloc a).heap.size = w.heap.size + 1 by simp] at this
  exact this
theorem into_end {w w3 : World} {v : Value} {n k : Nat} {xs : List It} {x : It} {O : Obj} (hl : xs.length = n) (hk : k ≤ n) (o : w3.ownsRow (w.heap.size + 1) 30 5 v (0 + k + 1 + (n - k)) ([] ++ (xs.take k).flatMap itLay.cells ++ [.int .i64 x.id, .int .i64 x.x0, .int .i64 x.y0, .int .i64 x.x1, .int .i64 x.y1] ++ (xs.drop k).flatMap itLay.cells))
    (b : Below (w.heap.size + 1) (w.alloc O) w3) : NewItems (xs.take k ++ x :: xs.drop k) w (.returned v) w3 := by
  refine ⟨v, rfl, ?_, (new_below w O).trans (b.mono (by omega))⟩
  refine OwnS.mono (L := itLay) (base' := w.heap.size + 1) ?_ (by omega)
  unfold OwnS
  have e1 : (xs.take k ++ x :: xs.drop k).length = 0 + k + 1 + (n - k) := by simp; omega
  have e2 : (xs.take k ++ x :: xs.drop k).flatMap itLay.cells = [] ++ (xs.take k).flatMap itLay.cells ++ [.int .i64 x.id, .int .i64 x.x0, .int .i64 x.y0, .int .i64 x.x1, .int .i64 x.y1] ++ (xs.drop k).flatMap itLay.cells := by
    rw [List.flatMap_append, List.flatMap_cons]
    simp [itLay]
  rw [e1, e2]
  exact o

set_option maxHeartbeats 3200000 in
set_option maxRecDepth 100000 in
theorem l4Into_any (a : Option Addr) (n cap k : Nat) (xs : List It) (x : It) (w : World) (h : RdS itLay w a n cap xs) (hk : k ≤ n) (hn : n ≤ 1099511627776) :
    Calls Tryd.prog 40 #[.slice a n cap, .int .i64 k, .agg #[.int .i64 x.id, .int .i64 x.x0, .int .i64 x.y0, .int .i64 x.x1, .int .i64 x.y1]] w (NewItems (xs.take k ++ x :: xs.drop k) w) := by
  obtain ⟨i0, hi, hz0, hz1, hz2⟩ := info_parts Tryd.infoItem
  have K0 := blk_new w #[.int .i64 x.id, .int .i64 x.x0, .int .i64 x.y0, .int .i64 x.x1, .int .i64 x.y1] 30
  obtain ⟨c0, -⟩ := K0
  have BL1 : ∀ O, Below (w.heap.size + 1) (w.alloc (.cells #[.int .i64 x.id, .int .i64 x.x0, .int .i64 x.y0, .int .i64 x.x1, .int .i64 x.y1] 30)) ((w.alloc (.cells #[.int .i64 x.id, .int .i64 x.x0, .int .i64 x.y0, .int .i64 x.x1, .int .i64 x.y1] 30)).alloc O).drew := fun O => ((Below.refl _ _).alloc (by simp) O).drew
  have BL2 : ∀ O O', Below (w.heap.size + 1) (w.alloc (.cells #[.int .i64 x.id, .int .i64 x.x0, .int .i64 x.y0, .int .i64 x.x1, .int .i64 x.y1] 30)) (((w.alloc (.cells #[.int .i64 x.id, .int .i64 x.x0, .int .i64 x.y0, .int .i64 x.x1, .int .i64 x.y1] 30)).alloc O).alloc O').drew := fun O O' => (((Below.refl _ _).alloc (by simp) O).alloc (by simp) O').drew
  have KB : ∀ W', Below (w.heap.size + 1) (w.alloc (.cells #[.int .i64 x.id, .int .i64 x.x0, .int .i64 x.y0, .int .i64 x.x1, .int .i64 x.y1] 30)) W' → W'.cell? ⟨w.heap.size, 0, none⟩ = some (.int .i64 x.id) ∧ W'.cell? ⟨w.heap.size, 1, none⟩ = some (.int .i64 x.x0) ∧ W'.cell? ⟨w.heap.size, 2, none⟩ = some (.int .i64 x.y0) ∧ W'.cell? ⟨w.heap.size, 3, none⟩ = some (.int .i64 x.x1) ∧ W'.cell? ⟨w.heap.size, 4, none⟩ = some (.int .i64 x.y1) := fun W' b =>
    ⟨(b.cell (p := ⟨w.heap.size, 0, none⟩) (by simp)).trans (c0 0), (b.cell (p := ⟨w.heap.size, 1, none⟩) (by simp)).trans (c0 1), (b.cell (p := ⟨w.heap.size, 2, none⟩) (by simp)).trans (c0 2), (b.cell (p := ⟨w.heap.size, 3, none⟩) (by simp)).trans (c0 3), (b.cell (p := ⟨w.heap.size, 4, none⟩) (by simp)).trans (c0 4)⟩
  clear c0
  have T := Lib.hid (h.take k hk)
  have D := Lib.hid (h.drop k hk)
  have hl := h.1.1
  replace hi := Lib.hid hi
  replace hz0 := Lib.hid hz0
  replace hz1 := Lib.hid hz1
  replace hz2 := Lib.hid hz2
  have z0 : (0 : Int) ≤ (k : Int) := by omega
  have z1 : (k : Int) ≤ (n : Int) := by omega
  have z2 : (n : Int) ≤ (cap : Int) := by have := h.1.2.1; omega
  have z3 : (k : Int) ≤ (cap : Int) := by omega
  clear h
  go_enter Tryd.func40, Tryd.ntmps40
  go_wp2_with fail
  go_region_held3 (fun w' => w'.cell? ⟨w.heap.size, 0, none⟩ = some (.int .i64 x.id) ∧ w'.cell? ⟨w.heap.size, 1, none⟩ = some (.int .i64 x.x0) ∧ w'.cell? ⟨w.heap.size, 2, none⟩ = some (.int .i64 x.y0) ∧ w'.cell? ⟨w.heap.size, 3, none⟩ = some (.int .i64 x.x1) ∧ w'.cell? ⟨w.heap.size, 4, none⟩ = some (.int .i64 x.y1))
    (first | exact KB _ (BL1 _) | exact KB _ (BL2 _ _) | exact KB _ b1 | exact KB _ (b1.alloc (by have := b1.size; simp at this; omega) _) | exact KB _ b2 | exact KB _ b3 | go_keep)
    (first
      | ((refine step_append_src rfl (.tmp 7) (.tmp 10) 24 rfl (w.heap.size + 1) 30 i0 _ 5 40 Tryd.underlying24 hi.out hz0.out hz1.out hz2.out rfl (by decide) (.slice (some ⟨w.heap.size + 1, 0, none⟩) 0 0) (0) ([]) rfl ((own_nil (w.alloc (.cells #[.int .i64 x.id, .int .i64 x.x0, .int .i64 x.y0, .int .i64 x.x1, .int .i64 x.y1] 30)) 30 5 (w.heap.size + 1) (w.heap.size + 1) (by simp) (by omega)).drew) (a) (k) (cap) ((xs.take k).flatMap itLay.cells) rfl (T.out.len) (T.out.nil) (((((T.out.alloc _).alloc _).below (drew_below _))).news) (flat_one itLay _) (by unfold maxLen; omega) (by omega) (by simp; try omega) ?_); intro v1 w1 o1 g1; have b1 := (BL1 _).grown g1 (by simp; try omega) (fun j hj => by simp [Value.ownBlock] at hj; omega))
      | ((refine step_append_src rfl (.tmp 7) (.tmp 10) 24 rfl (w.heap.size + 1) 30 i0 _ 5 40 Tryd.underlying24 hi.out hz0.out hz1.out hz2.out rfl (by decide) (.slice (some ⟨w.heap.size + 1, 0, none⟩) 0 0) (0) ([]) rfl (((own_nil (w.alloc (.cells #[.int .i64 x.id, .int .i64 x.x0, .int .i64 x.y0, .int .i64 x.x1, .int .i64 x.y1] 30)) 30 5 (w.heap.size + 1) (w.heap.size + 1) (by simp) (by omega)).alloc _).drew) (a) (k) (cap) ((xs.take k).flatMap itLay.cells) rfl (T.out.len) (T.out.nil) ((((((T.out.alloc _).alloc _).alloc _).below (drew_below _))).news) (flat_one itLay _) (by unfold maxLen; omega) (by omega) (by simp; try omega) ?_); intro v1 w1 o1 g1; have b1 := (BL2 _ _).grown g1 (by simp; try omega) (fun j hj => by simp [Value.ownBlock] at hj; omega))
      | ((refine step_append_src rfl (.tmp 7) (.tmp 10) 24 rfl (w.heap.size + 1) 30 i0 _ 5 40 Tryd.underlying24 hi.out hz0.out hz1.out hz2.out rfl (by decide) (.slice (some ⟨w.heap.size + 2, 0, none⟩) 0 0) (0) ([]) rfl ((own_nil ((w.alloc (.cells #[.int .i64 x.id, .int .i64 x.x0, .int .i64 x.y0, .int .i64 x.x1, .int .i64 x.y1] 30)).alloc (.cells #[.int .i64 x.id, .int .i64 x.x0, .int .i64 x.y0, .int .i64 x.x1, .int .i64 x.y1] 30)) 30 5 (w.heap.size + 1) (w.heap.size + 2) (by simp) (by omega)).drew) (a) (k) (cap) ((xs.take k).flatMap itLay.cells) rfl (T.out.len) (T.out.nil) ((((((T.out.alloc _).alloc _).alloc _).below (drew_below _))).news) (flat_one itLay _) (by unfold maxLen; omega) (by omega) (by simp; try omega) ?_); intro v1 w1 o1 g1; have b1 := (BL2 _ _).grown g1 (by simp; try omega) (fun j hj => by simp [Value.ownBlock] at hj; omega))
      | ((refine step_append_src rfl (.tmp 11) (.tmp 13) 24 rfl (w.heap.size + 1) 30 i0 _ 5 40 Tryd.underlying24 hi.out hz0.out hz1.out hz2.out rfl (by decide) (v1) (0 + k) ([] ++ (xs.take k).flatMap itLay.cells) rfl (o1.alloc _) (some ⟨w1.heap.size, 0, none⟩) (1) (1) ([.int .i64 x.id, .int .i64 x.x0, .int .i64 x.y0, .int .i64 x.x1, .int .i64 x.y1]) rfl (rfl) (fun h => by cases h) (fun p hp => by cases hp; exact World.news_of_block (heap_alloc_new w1 _)) (itLay.one x) (by unfold maxLen; omega) (by omega) (by have := b1.size; simp at this; simp; omega) ?_); intro v2 w2 o2 g2; have b2 := (b1.alloc (by have := b1.size; simp at this; omega) _).grown g2 (by have := b1.size; simp at this; simp; omega) (fun j hj => (o1.lt j hj).1))
      | ((refine step_append_src rfl (.tmp 11) (.tmp 13) 24 rfl (w.heap.size + 1) 30 i0 _ 5 40 Tryd.underlying24 hi.out hz0.out hz1.out hz2.out rfl (by decide) (v1) (0 + k) ([] ++ (xs.take k).flatMap itLay.cells) rfl (o1) (some ⟨w.heap.size + 2, 0, none⟩) (1) (1) ([.int .i64 x.id, .int .i64 x.x0, .int .i64 x.y0, .int .i64 x.x1, .int .i64 x.y1]) rfl (rfl) (fun h => by cases h) (fun p hp => by cases hp; exact World.news_of_block (by rw [g1.block _ (by simp) (by simp [Value.ownBlock])]; exact new_at2 w (.cells #[.int .i64 x.id, .int .i64 x.x0, .int .i64 x.y0, .int .i64 x.x1, .int .i64 x.y1] 30) (.cells #[] 30) (.cells #[.int .i64 x.id, .int .i64 x.x0, .int .i64 x.y0, .int .i64 x.x1, .int .i64 x.y1] 30))) (itLay.one x) (by unfold maxLen; omega) (by omega) (by have := b1.size; simp at this; simp; omega) ?_); intro v2 w2 o2 g2; have b2 := (b1).grown g2 (by have := b1.size; simp at this; simp; omega) (fun j hj => (o1.lt j hj).1))
      | ((refine step_append_src rfl (.tmp 11) (.tmp 13) 24 rfl (w.heap.size + 1) 30 i0 _ 5 40 Tryd.underlying24 hi.out hz0.out hz1.out hz2.out rfl (by decide) (v1) (0 + k) ([] ++ (xs.take k).flatMap itLay.cells) rfl (o1) (some ⟨w.heap.size + 1, 0, none⟩) (1) (1) ([.int .i64 x.id, .int .i64 x.x0, .int .i64 x.y0, .int .i64 x.x1, .int .i64 x.y1]) rfl (rfl) (fun h => by cases h) (fun p hp => by cases hp; exact World.news_of_block (by rw [g1.block _ (by simp) (by simp [Value.ownBlock])]; exact new_at1 w (.cells #[.int .i64 x.id, .int .i64 x.x0, .int .i64 x.y0, .int .i64 x.x1, .int .i64 x.y1] 30) (.cells #[.int .i64 x.id, .int .i64 x.x0, .int .i64 x.y0, .int .i64 x.x1, .int .i64 x.y1] 30) (.cells #[] 30))) (itLay.one x) (by unfold maxLen; omega) (by omega) (by have := b1.size; simp at this; simp; omega) ?_); intro v2 w2 o2 g2; have b2 := (b1).grown g2 (by have := b1.size; simp at this; simp; omega) (fun j hj => (o1.lt j hj).1))
      | ((refine step_append_src rfl (.tmp 14) (.tmp 17) 24 rfl (w.heap.size + 1) 30 i0 _ 5 40 Tryd.underlying24 hi.out hz0.out hz1.out hz2.out rfl (by decide) (v2) (0 + k + 1) ([] ++ (xs.take k).flatMap itLay.cells ++ [.int .i64 x.id, .int .i64 x.x0, .int .i64 x.y0, .int .i64 x.x1, .int .i64 x.y1]) rfl (o2) (if cap = k then a else a.map (·.add (k * 5))) (n - k) (cap - k) ((xs.drop k).flatMap itLay.cells) rfl (D.out.len) (D.out.nil) ((D.out.below ((new_below w _).trans (b2.mono (by simp)))).news) (flat_one itLay _) (by unfold maxLen; omega) (by omega) (by have := b2.size; simp at this; omega) ?_); intro v3 w3 o3 g3; have b3 := b2.grown g3 (by have := b2.size; simp at this; omega) (fun j hj => (o2.lt j hj).1)))
  all_goals go_wp2
  all_goals
    go_ret
    exact into_end hl hk o3 b3
end Go.Proofs.YtgjbngfcllanmaaDoor
