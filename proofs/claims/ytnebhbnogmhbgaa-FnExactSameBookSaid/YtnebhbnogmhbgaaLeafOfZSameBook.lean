/- The model's LeafOf: a leaf of the items, in order. -/
import Derived.Test.YtnebhbnogmhbgaaNodeZSameBook
import Derived.Test.YtnebhbnogmhbgaaSliceZSameBook
import Derived.Deep.RegionLaw
import Derived.Deep.DrawnRows
namespace Go.Proofs.Ytnebhbnogmhbgaa
open Go.RowKit
attribute [local go_sem ↓] Go.wp_at_zero Go.wp_at_succ

theorem cell_of_heap {w w' : World} {q : Nat} (h : w'.heap[q]? = w.heap[q]?) (o : Nat) : w'.cell? ⟨q, o, none⟩ = w.cell? ⟨q, o, none⟩ := by
  unfold World.cell?
  simp only [h]
theorem frozen_of_heap {w w' : World} {q : Nat} (h : w'.heap[q]? = w.heap[q]?) (o : Nat) : w'.frozen? ⟨q, o, none⟩ = w.frozen? ⟨q, o, none⟩ := by
  unfold World.frozen?
  simp only [h]
theorem cells_set1 {w : World} {q : Nat} {a b : Value} (h : ∀ o, w.cell? ⟨q, o, none⟩ = #[a, b][o]?) (v : Value) : ∀ o, (w.setCell ⟨q, 1, none⟩ v).cell? ⟨q, o, none⟩ = #[a, v][o]? := by
  intro o
  rcases (by omega : o = 0 ∨ o = 1 ∨ 2 ≤ o) with rfl | rfl | ho
  · rw [World.cell?_setCell_other _ _ _ _ (by simp), h 0]; rfl
  · exact World.cell?_setCell_same w ⟨q, 1, none⟩ v (u := b) (h 1)
  · rw [World.cell?_setCell_other _ _ _ _ (fun e => by cases e; omega), h o]
    rw [Array.getElem?_eq_none (by simp; omega), Array.getElem?_eq_none (by simp; omega)]
theorem ownS_none (w : World) (e : TypeId) (base : Nat) : OwnS itLay e w base (.slice none 0 0) [] := ⟨rfl, .inl ⟨rfl, rfl⟩⟩
theorem ownS_more {w : World} {e : TypeId} {base : Nat} {v : Value} {xs : List It} {x : It} {k : Nat} (hx : xs[k]? = some x) (h : w.ownsRow base e 5 v ((xs.take k).length + 1) ((xs.take k).flatMap itLay.cells ++ itLay.cells x)) : OwnS itLay e w base v (xs.take (k + 1)) := by
  show w.ownsRow base e 5 v _ _
  rw [List.take_add_one, hx, List.length_append, List.flatMap_append]
  simpa using h

theorem app_cell {wr w2 : World} {O : Obj} {v : Value} {B q : Nat} {fo : Nat → Option Value} (hg : (wr.alloc O).drew.grownBy w2 v.ownBlock) (hrow : ∀ j, v.ownBlock = some j → B ≤ j) (h : ∀ o, wr.cell? ⟨q, o, none⟩ = fo o) (hs : q + 1 ≤ wr.heap.size) (hb : q < B := by omega) : ∀ o, w2.cell? ⟨q, o, none⟩ = fo o := by
  intro o
  have hq : q < wr.heap.size := by omega
  have hne : some q ≠ v.ownBlock := fun e => by have := hrow q e.symm; omega
  have hblk : w2.heap[q]? = wr.heap[q]? := (hg.block q (by simp; omega) hne).trans (Below.heap_alloc wr O q hq)
  rw [← h o]
  exact cell_of_heap hblk o
theorem app_frozen {wr w2 : World} {O : Obj} {v : Value} {B q : Nat} {m : Nat → Bool} (hg : (wr.alloc O).drew.grownBy w2 v.ownBlock) (hrow : ∀ j, v.ownBlock = some j → B ≤ j) (h : ∀ o, wr.frozen? ⟨q, o, none⟩ = m o) (hs : q + 1 ≤ wr.heap.size) (hb : q < B := by omega) : ∀ o, w2.frozen? ⟨q, o, none⟩ = m o := by
  intro o
  have hq : q < wr.heap.size := by omega
  have hne : some q ≠ v.ownBlock := fun e => by have := hrow q e.symm; omega
  have hblk : w2.heap[q]? = wr.heap[q]? := (hg.block q (by simp; omega) hne).trans (Below.heap_alloc wr O q hq)
  rw [← h o]
  exact frozen_of_heap hblk o

set_option maxHeartbeats 3200000 in
set_option maxRecDepth 100000 in
theorem sLeafOf_any (a : Option Addr) (n cap : Nat) (xs : List It) (w : World) (h : RdS itLay w a n cap xs) (hn : n ≤ 1099511627776) :
    Calls Try.prog 94 #[.slice a n cap] w (NewNode true xs w) := by
  obtain ⟨i0, hi, hz0, hz1, hz2⟩ := info_parts Try.infoEntry
  replace hi := Lib.hid hi
  replace hz0 := Lib.hid hz0
  replace hz1 := Lib.hid hz1
  replace hz2 := Lib.hid hz2
  have hm := h.1.2.2.1
  have hnc := h.1.2.1
  unfold maxLen at hm
  have HR := Lib.hid h
  have HL := Lib.hid h.1.1
  clear h
  have K := Lib.hid (blk_alloc (.cells #[.bool true, .slice none 0 0] 32) (by simp) _ _ (blk_new w #[.bool false, .slice none 0 0] 32))
  have J := Lib.hid (blk_new1 w (.cells #[.bool false, .slice none 0 0] 32) #[.bool true, .slice none 0 0] 32)
  have B0 : Below w.heap.size w ((w.alloc (.cells #[.bool false, .slice none 0 0] 32)).alloc (.cells #[.bool true, .slice none 0 0] 32)) := ((Below.refl _ _).alloc (Nat.le_refl _) _).alloc (by simp) _
  have hne : w.heap.size ≠ w.heap.size + 1 := by omega
  go_enter Try.func94, Try.ntmps94
  go_wp2
  go_loopw [4] (fun i wr => ∃ k v, k ≤ n ∧ i = .int .i64 (k : Int) ∧ (∀ o, wr.cell? ⟨w.heap.size, o, none⟩ = #[Value.bool false, .slice none 0 0][o]?) ∧ (∀ o, wr.frozen? ⟨w.heap.size, o, none⟩ = false) ∧ (∀ o, wr.cell? ⟨w.heap.size + 1, o, none⟩ = #[Value.bool true, v][o]?) ∧ (∀ o, wr.frozen? ⟨w.heap.size + 1, o, none⟩ = false) ∧ OwnS itLay 91 wr (w.heap.size + 1 + 1) v (xs.take k) ∧ Below w.heap.size w wr ∧ w.heap.size + 1 + 1 ≤ wr.heap.size) (fun i _ => n - (intOf i).toNat)
  case atStart => exact ⟨0, .slice none 0 0, Nat.zero_le _, rfl, K.out.1, K.out.2, J.out.1, J.out.2, ownS_none _ _ _, B0, by simp⟩
  case round =>
    obtain ⟨k, v, hk, rfl, k0, f0, j0, g0, ho, hB, hS⟩ := hrel
    obtain ⟨va, vc, rfl, hr⟩ := OwnS.rd ho
    have htl : (xs.take k).length = k := by rw [List.length_take, HL.out]; omega
    rw [htl] at ho j0 hr
    have ho' : wr.ownsRow (w.heap.size + 1 + 1) 91 5 (.slice va k vc) k ((xs.take k).flatMap itLay.cells) := by
      have := ho
      unfold OwnS at this
      rw [htl] at this
      exact this
    by_cases hlt : k < n
    · obtain ⟨b, off, x, rfl, hbl, hx, d0, d1, d2, d3, d4⟩ := rdIt_at (HR.out.below hB) hlt
      have HX := Lib.hid hx
      have HO := Lib.hid ho'
      have c1 := j0 1
      simp at c1
      have hrow : ∀ j, (Value.slice va k vc).ownBlock = some j → w.heap.size + 1 + 1 ≤ j := fun j hj => (HO.out.lt j hj).1
      have hvb : b < w.heap.size := HR.out.lt (by omega) rfl
      have z0 : (0 : Int) ≤ k := by omega
      have z1 : (k : Int) < n := by omega
      have hq1 : w.heap.size + 1 < wr.heap.size := by omega
      have hq2 : w.heap.size + 1 ≠ wr.heap.size := by omega
      have hq3 : b < wr.heap.size := by omega
      have hq4 : b ≠ wr.heap.size := by omega
      have l1 := (World.cell?_alloc_lt wr (.cells #[.int .i64 x.id, .int .i64 x.x0, .int .i64 x.y0, .int .i64 x.x1, .int .i64 x.y1] 91) ⟨w.heap.size + 1, 1, none⟩ hq1).trans c1
      have htk := Lib.hid htl
      clear hr hx ho ho' htl
      go_wp2_with fail
      go_region_law ((refine step_append_src rfl (.tmp 13) (.tmp 25) 30 rfl (w.heap.size + 1 + 1) 91 i0 _ 5 40 Try.underlying30 hi.out hz0.out hz1.out hz2.out rfl (by decide) (.slice va k vc) k ((xs.take k).flatMap itLay.cells) (by simp [Act.eval]) (World.ownsRow.drew (World.ownsRow.alloc HO.out (.cells #[.int .i64 x.id, .int .i64 x.x0, .int .i64 x.y0, .int .i64 x.x1, .int .i64 x.y1] 91))) (some ⟨wr.heap.size, 0, none⟩) 1 1 (itLay.cells x) (by simp [Act.eval]) rfl (fun h => by cases h) (fun p hp => by cases hp; exact World.news_of_block (cs := #[.int .i64 x.id, .int .i64 x.x0, .int .i64 x.y0, .int .i64 x.x1, .int .i64 x.y1]) (t := 91) (fr := (0, 0)) (heap_alloc_new wr _)) (itLay.one x) (by unfold maxLen; omega) (by omega) (by simp; omega) ?_); intro v2 w2 o2 g2; have c2 := app_cell g2 hrow j0 hS; have e2 := app_frozen g2 hrow g0 hS; have c3 := app_cell g2 hrow k0 (by omega); have e3 := app_frozen g2 hrow f0 (by omega); obtain ⟨ra, rc, rfl⟩ := owns_shape o2)
      all_goals
        have O3 := Lib.hid (ownS_set (ownS_more HX.out (by rw [htk.out]; exact o2)) (g := w.heap.size + 1) (fun hj => by have := (o2.lt _ hj).1; omega) 1 (.slice ra (k + 1) rc))
        have B3 := Lib.hid ((((hB.alloc (by omega) (.cells #[.int .i64 x.id, .int .i64 x.x0, .int .i64 x.y0, .int .i64 x.x1, .int .i64 x.y1] 91)).drew).grown g2 (by simp; omega) (fun j hj => by have := hrow j hj; omega)).setCell (p := ⟨w.heap.size + 1, 1, none⟩) (show w.heap.size ≤ w.heap.size + 1 by omega) (.slice ra (k + 1) rc))
        have C3 := Lib.hid (cells_set1 c2 (.slice ra (k + 1) rc))
        have S3 := g2.size
        simp at S3
        clear o2
        go_wp2
        go_roundw
        case rel =>
          refine ⟨k + 1, .slice ra (k + 1) rc, by omega, by go_num, fun o => ?_, fun o => ?_, C3.out, fun o => ?_, O3.out, B3.out, by simp; omega⟩
          · exact (World.cell?_setCell_other _ _ _ _ (by simp)).trans (c3 o)
          · exact (World.frozen?_setCell _ _ _ _).trans (e3 o)
          · exact (World.frozen?_setCell _ _ _ _).trans (e2 o)
        case measure => simp [intOf]; omega
    · obtain rfl : k = n := by omega
      have hall : xs.take k = xs := List.take_of_length_le (by rw [HL.out]; exact Nat.le_refl _)
      have hlk : Hid (xs.length = k) := HL.out
      have HO := Lib.hid ho
      clear ho ho' hr htl
      go_wp2
      refine bodyPost_ret (v := .agg #[.bool true, .slice va k vc]) (by simp [results, Try.results94, go_sem, k0]) rfl ⟨_, rfl, ?_, ?_⟩
      · rw [hall] at HO
        have O := ownS_set (ownS_set HO.out (g := w.heap.size) (fun hj => by have := (HO.out.lt _ hj).1; omega) 0 (.bool true)) (g := w.heap.size) (fun hj => by have := (HO.out.lt _ hj).1; omega) 1 (.slice va k vc)
        exact OwnS.mono (L := itLay) O (by omega)
      · exact (hB.setCell (p := ⟨w.heap.size, 0, none⟩) (Nat.le_refl _) _).setCell (p := ⟨w.heap.size, 1, none⟩) (Nat.le_refl _) _
end Go.Proofs.Ytnebhbnogmhbgaa
