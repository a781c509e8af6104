/- The program's BoundOf, ItemsOf and LeafOf. -/
import Derived.Test.YtfefggcfeppeiaaGreatNodeCZLooks
import Derived.Test.YtfefggcfeppeiaaGreatQLooksf
namespace Go.Proofs.YtfefggcfeppeiaaGreat
open Go.RowKit

theorem flat_more {α : Type} (L : Lay α) {xs : List α} {k : Nat} {x : α} (h : xs[k]? = some x) : (xs.take (k + 1)).flatMap L.cells = (xs.take k).flatMap L.cells ++ L.cells x := by
  rw [List.take_add_one, h, List.flatMap_append]
  simp
/-- What a literal of one element lays in memory, behind a copy that was laid before it. -/
theorem news2 (wr : World) (O : Obj) (cs : Array Value) (t : TypeId) (l : List Value) (hl : cs.toList = l) : ∀ j u, l[j]? = some u → ((wr.alloc O).alloc (.cells cs t)).cell? ((⟨wr.heap.size + 1, 0, none⟩ : Addr).add j) = some u := by
  subst hl
  have e : (wr.alloc O).heap.size = wr.heap.size + 1 := by simp
  rw [← e]
  exact World.news_of_block (cs := cs) (t := t) (fr := (0, 0)) (heap_alloc_new (wr.alloc O) _)

set_option maxRecDepth 100000 in
set_option maxHeartbeats 400000 in
theorem itemOf_any (x : It) (w : World) :
    Calls Tryz.prog 60 #[.agg #[.int .i64 x.id, .int .i64 x.x0, .int .i64 x.y0, .int .i64 x.x1, .int .i64 x.y1]] w fun e w' => e = .returned (.agg #[.int .i64 x.id, .int .i64 x.x0, .int .i64 x.y0, .int .i64 x.x1, .int .i64 x.y1]) ∧ Below w.heap.size w w' := by
  have B0 : Hid (Below w.heap.size w ((w.alloc (.cells #[.int .i64 x.id, .int .i64 x.x0, .int .i64 x.y0, .int .i64 x.x1, .int .i64 x.y1] 77)).alloc (.cells #[.int .i64 0, .int .i64 0, .int .i64 0, .int .i64 0, .int .i64 0] 47))) := Lib.hid (((Below.refl _ _).alloc (Nat.le_refl _) _).alloc (by simp) _)
  go_enter Tryz.func60, Tryz.ntmps60
  go_wp2
  refine bodyPost_ret (v := .agg #[.int .i64 x.id, .int .i64 x.x0, .int .i64 x.y0, .int .i64 x.x1, .int .i64 x.y1]) (by simp [results, Tryz.results60, go_sem]) rfl ⟨rfl, ?_⟩
  exact ((Below.refl _ _).alloc (Nat.le_refl _) _).alloc (by simp) _
end Go.Proofs.YtfefggcfeppeiaaGreat
