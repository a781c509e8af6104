/- The program's ItemsOf and LeafOf. -/
import Derived.Test.YtckdkijhkgicnaaNodeI2
namespace Go.Proofs.Ytckdkijhkgicnaa
open Go.RowKit
attribute [local go_sem ↓] Go.wp_at_zero Go.wp_at_succ

set_option maxHeartbeats 1600000 in
set_option maxRecDepth 100000 in
theorem iItemsOf_leaf (a : Option Addr) (n cap : Nat) (xs : List It) (w : World) (h : RdS itLay w a n cap xs) (hn : n ≤ 1099511627776) :
    Calls Try.prog 26 #[.agg #[.bool true, .slice a n cap]] w (NewItems xs w) := by
  obtain ⟨i0, hi, hz0, hz1, hz2⟩ := info_parts Try.infoItem
  replace hi := Lib.hid hi
  replace hz0 := Lib.hid hz0
  replace hz1 := Lib.hid hz1
  replace hz2 := Lib.hid hz2
  have hm := h.1.2.2.1
  have hnc := h.1.2.1
  unfold maxLen at hm
  have HR := Lib.hid h
  have HL := Lib.hid h.1.1
  clear h
  have K := Lib.hid (blk_new w #[.bool true, .slice a n cap] 26)
  have B0 := Lib.hid (new_below w (.cells #[.bool true, .slice a n cap] 26))
  go_enter Try.func26, Try.ntmps26
  go_wp2_with (at_make; refine wpList_make_own _ rfl _ _ 32 rfl (w.heap.size + 1) 82 i0 (.agg #[.int .i64 0, .int .i64 0, .int .i64 0, .int .i64 0, .int .i64 0]) 5 Try.underlying32 hi.out hz0.out hz1.out .i64 .i64 (n : Int) n rfl rfl rfl ?_ ?_ ?_ ?_)
  case refine_1 => rw [hz2.out]; omega
  case refine_2 => unfold maxLen; omega
  case refine_3 => simp
  intro w1 hown hgrow
  have hb1 := grownNone_below hgrow
  have B1 := Lib.hid (B0.out.trans (hb1.mono B0.out.size))
  have K1 := Lib.hid (below_keep hb1 (by simp) _ _ K.out)
  have S1 := Lib.hid hb1.size
  replace hown := Lib.hid hown
  have k10 := K1.out.1 1
  simp at k10
  clear hgrow hb1
  go_wp2
  go_loopw [3, 17] (fun v i wr => ∃ k : Nat, k ≤ n ∧ v = .slice (some ⟨w.heap.size + 1, 0, none⟩) k n ∧ i = .int .i64 (k : Int) ∧ Hid (wr.ownsRow (w.heap.size + 1) 82 5 (.slice (some ⟨w.heap.size + 1, 0, none⟩) k n) k ((xs.take k).flatMap itLay.cells)) ∧ Below w.heap.size w wr ∧ w.heap.size + 1 ≤ wr.heap.size) (fun _ i _ => n - (intOf i).toNat)
  case atStart => exact ⟨0, Nat.zero_le _, rfl, rfl, hown, B1.out, by have := S1.out; simpa using this⟩
  case round =>
    clear hown B1 K1 S1 k10
    obtain ⟨k, hk, rfl, rfl, HO, hB, hS⟩ := hrel
    by_cases hlt : k < n
    · obtain ⟨b, off, x, rfl, hbl, hx, d0, d1, d2, d3, d4⟩ := rdIt_at (HR.out.below hB) hlt
      have HX := Lib.hid hx
      have z0 : (0 : Int) ≤ k := by omega
      have z1 : (k : Int) < n := by omega
      clear hx
      go_wp2_with fail
      refine (itemOf_any x _).mono ?_
      rintro e w2 ⟨rfl, hb⟩
      have HO2 := Lib.hid (World.ownsRow.kept (World.ownsRow.alloc HO.out (.cells #[.int .i64 x.id, .int .i64 x.x0, .int .i64 x.y0, .int .i64 x.x1, .int .i64 x.y1] 45)) (Below.toGrown hb none) (.inr (by simp [Value.ownBlock])))
      have B2 := (hB.alloc hB.size (.cells #[.int .i64 x.id, .int .i64 x.x0, .int .i64 x.y0, .int .i64 x.x1, .int .i64 x.y1] 45)).trans (hb.mono (by have := hB.size; simp; omega))
      have s2 := hb.size
      simp at s2
      clear hb HO hB d0 d1 d2 d3 d4 hbl
      go_wp2_with (at_builtin; refine wpList_append_fits _ rfl (.tmp 21) (.tmp 24) 32 rfl (w.heap.size + 1) 82 i0 5 Try.underlying32 hi.out hz1.out (w.heap.size + 1) k n ((xs.take k).flatMap itLay.cells) rfl (World.ownsRow.alloc HO2.out _) ⟨w2.heap.size, 0, none⟩ 1 1 (itLay.cells x) rfl rfl ?_ (itLay.one _) ?_ ?_)
      case refine_1 => exact World.news_of_block (cs := #[.int .i64 x.id, .int .i64 x.x0, .int .i64 x.y0, .int .i64 x.x1, .int .i64 x.y1]) (t := 82) (fr := (0, 0)) (heap_alloc_new w2 _)
      case refine_2 => omega
      intro w3 o3 g3
      have O3 : Hid (w3.ownsRow (w.heap.size + 1) 82 5 (.slice (some ⟨w.heap.size + 1, 0, none⟩) (k + 1) n) (k + 1) ((xs.take (k + 1)).flatMap itLay.cells)) := by
        rw [flat_more itLay HX.out]
        exact Lib.hid o3
      have B3 := Lib.hid ((B2.alloc B2.size (.cells #[.int .i64 x.id, .int .i64 x.x0, .int .i64 x.y0, .int .i64 x.x1, .int .i64 x.y1] 82)).grown g3 (by have := B2.size; simp; omega) (fun j hj => by cases hj; omega))
      have s3 := g3.size
      simp at s3
      clear o3 g3 B2
      go_wp2
      go_roundw
      case rel => exact ⟨k + 1, by omega, rfl, by go_num, O3, B3.out, by omega⟩
      case measure => simp [intOf]; omega
    · obtain rfl : k = n := by omega
      go_wp2
      go_ret
      refine ⟨_, rfl, OwnS.mono (L := itLay) (base' := w.heap.size + 1) ?_ (by omega), hB⟩
      unfold OwnS
      have O := HO.out
      rw [List.take_of_length_le (by rw [HL.out]; exact Nat.le_refl _)] at O
      rw [HL.out]
      exact O

set_option maxHeartbeats 400000 in
theorem iItemsOf_inner (a : Option Addr) (n cap : Nat) (w : World) :
    Calls Try.prog 26 #[.agg #[.bool false, .slice a n cap]] w (NewItems [] w) := by
  have B0 : Below w.heap.size w ((w.alloc (.cells #[.bool false, .slice a n cap] 26)).alloc (.cells #[] 82)) := ((Below.refl _ _).alloc (Nat.le_refl _) _).alloc (by simp) _
  have O0 := Lib.hid (own_nil (w.alloc (.cells #[.bool false, .slice a n cap] 26)) 82 5 w.heap.size (w.heap.size + 1) (by simp) (by omega))
  go_enter Try.func26, Try.ntmps26
  go_wp2
  go_ret
  exact ⟨_, rfl, O0.out, B0⟩
theorem iItemsOf_any : CItemsOf 26 := fun b a n cap xs w h hn => by
  cases b with
  | true => exact iItemsOf_leaf a n cap xs w h hn
  | false => exact iItemsOf_inner a n cap w

set_option maxHeartbeats 3200000 in
set_option maxRecDepth 100000 in
theorem iLeafOf_any : CLeafOf 28 := by
  intro a n cap xs w h hn
  obtain ⟨i0, hi, hz0, hz1, hz2⟩ := info_parts Try.infoEntry
  replace hi := Lib.hid hi
  replace hz0 := Lib.hid hz0
  replace hz1 := Lib.hid hz1
  replace hz2 := Lib.hid hz2
  have hm := h.1.2.2.1
  have hnc := h.1.2.1
  unfold maxLen at hm
  have HR := Lib.hid h
  have HL := Lib.hid h.1.1
  clear h
  have K := Lib.hid (blk_new w #[.bool false, .slice none 0 0] 26)
  have B0 := Lib.hid (new_below w (.cells #[.bool false, .slice none 0 0] 26))
  go_enter Try.func28, Try.ntmps28
  go_wp2_with (at_make; refine wpList_make_own _ rfl _ _ 24 rfl (w.heap.size + 1) 45 i0 (.agg #[.int .i64 0, .int .i64 0, .int .i64 0, .int .i64 0, .int .i64 0]) 5 Try.underlying24 hi.out hz0.out hz1.out .i64 .i64 (n : Int) n rfl rfl rfl ?_ ?_ ?_ ?_)
  case refine_1 => rw [hz2.out]; omega
  case refine_2 => unfold maxLen; omega
  case refine_3 => simp
  intro w1 hown hgrow
  have hb1 := grownNone_below hgrow
  have K1 := below_keep hb1 (by simp) _ _ K.out
  have G1 := (World.ownsRow.lt hown (w.heap.size + 1) rfl).2
  obtain ⟨G, hG⟩ : ∃ G, G = w1.heap.size := ⟨_, rfl⟩
  have B1 := Lib.hid ((B0.out.trans (hb1.mono B0.out.size)).alloc (by omega) (.cells #[.bool true, .slice (some ⟨w.heap.size + 1, 0, none⟩) 0 n] 26))
  have J := blk_new w1 #[.bool true, .slice (some ⟨w.heap.size + 1, 0, none⟩) 0 n] 26
  rw [← hG] at J
  replace K1 := Lib.hid (blk_alloc (.cells #[.bool true, .slice (some ⟨w.heap.size + 1, 0, none⟩) 0 n] 26) (by omega) _ _ K1)
  replace J := Lib.hid J
  have O1 := Lib.hid (World.ownsRow.alloc hown (.cells #[.bool true, .slice (some ⟨w.heap.size + 1, 0, none⟩) 0 n] 26))
  have hG2 : w.heap.size + 1 < G := by omega
  have hS1 := Lib.hid (show G < (w1.alloc (.cells #[.bool true, .slice (some ⟨w.heap.size + 1, 0, none⟩) 0 n] 26)).heap.size by simp; omega)
  clear hgrow hb1 hown
  go_wp2
  rw [← hG]
  replace hG := Lib.hid hG
  go_loopw [12] (fun i wr => ∃ k : Nat, k ≤ n ∧ i = .int .i64 (k : Int) ∧ (∀ o, wr.cell? ⟨w.heap.size, o, none⟩ = #[Value.bool false, .slice none 0 0][o]?) ∧ (∀ o, wr.frozen? ⟨w.heap.size, o, none⟩ = false) ∧ (∀ o, wr.cell? ⟨G, o, none⟩ = #[Value.bool true, .slice (some ⟨w.heap.size + 1, 0, none⟩) k n][o]?) ∧ (∀ o, wr.frozen? ⟨G, o, none⟩ = false) ∧ Hid (wr.ownsRow (w.heap.size + 1) 45 5 (.slice (some ⟨w.heap.size + 1, 0, none⟩) k n) k ((xs.take k).flatMap itLay.cells)) ∧ Below w.heap.size w wr ∧ G < wr.heap.size) (fun i _ => n - (intOf i).toNat)
  case atStart => exact ⟨0, Nat.zero_le _, rfl, K1.out.1, K1.out.2, J.out.1, J.out.2, O1, B1.out, hS1.out⟩
  case round =>
    clear K1 J O1 B1 hS1 hG
    obtain ⟨k, hk, rfl, k0, f0, j0, g0, HO, hB, hS⟩ := hrel
    have c1 := j0 1
    simp at c1
    by_cases hlt : k < n
    · obtain ⟨b, off, x, rfl, hbl, hx, d0, d1, d2, d3, d4⟩ := rdIt_at (HR.out.below hB) hlt
      have HX := Lib.hid hx
      have z0 : (0 : Int) ≤ k := by omega
      have z1 : (k : Int) < n := by omega
      have l1 := (World.cell?_alloc_lt wr (.cells #[.int .i64 x.id, .int .i64 x.x0, .int .i64 x.y0, .int .i64 x.x1, .int .i64 x.y1] 82) ⟨G, 1, none⟩ hS).trans c1
      clear hx
      go_wp2_with (at_builtin; refine wpList_append_fits _ rfl (.tmp 17) (.tmp 23) 24 rfl (w.heap.size + 1) 45 i0 5 Try.underlying24 hi.out hz1.out (w.heap.size + 1) k n ((xs.take k).flatMap itLay.cells) rfl (World.ownsRow.alloc (World.ownsRow.alloc HO.out _) _) ⟨wr.heap.size + 1, 0, none⟩ 1 1 (itLay.cells x) rfl rfl ?_ (itLay.one _) ?_ ?_)
      case refine_1 => exact news2 wr _ _ _ _ rfl
      case refine_2 => omega
      intro w2 o2 g2
      have O2 : w2.ownsRow (w.heap.size + 1) 45 5 (.slice (some ⟨w.heap.size + 1, 0, none⟩) (k + 1) n) (k + 1) ((xs.take (k + 1)).flatMap itLay.cells) := by
        rw [flat_more itLay HX.out]
        exact o2
      have bl : ∀ q, q < wr.heap.size → q ≠ w.heap.size + 1 → w2.heap[q]? = wr.heap[q]? := fun q hq hne =>
        (g2.block q (by simp; omega) (by intro e; cases e; exact hne rfl)).trans ((Below.heap_alloc _ _ q (by simp; omega)).trans (Below.heap_alloc wr _ q hq))
      have k2 : ∀ o, w2.cell? ⟨w.heap.size, o, none⟩ = #[Value.bool false, .slice none 0 0][o]? := fun o => (cell_of_heap (bl _ (by omega) (by omega)) o).trans (k0 o)
      have f2 : ∀ o, w2.frozen? ⟨w.heap.size, o, none⟩ = false := fun o => (frozen_of_heap (bl _ (by omega) (by omega)) o).trans (f0 o)
      have j2 : ∀ o, w2.cell? ⟨G, o, none⟩ = #[Value.bool true, .slice (some ⟨w.heap.size + 1, 0, none⟩) k n][o]? := fun o => (cell_of_heap (bl _ hS (by omega)) o).trans (j0 o)
      have e2 : ∀ o, w2.frozen? ⟨G, o, none⟩ = false := fun o => (frozen_of_heap (bl _ hS (by omega)) o).trans (g0 o)
      have O3 := Lib.hid (World.ownsRow.kept O2 (grown_setCell (World.grownBy.refl w2 (some G)) G 1 (.slice (some ⟨w.heap.size + 1, 0, none⟩) (k + 1) n) rfl) (.inr (by simp [Value.ownBlock]; omega)))
      have B3 := Lib.hid ((((hB.alloc hB.size (.cells #[.int .i64 x.id, .int .i64 x.x0, .int .i64 x.y0, .int .i64 x.x1, .int .i64 x.y1] 82)).alloc (by have := hB.size; simp; omega) (.cells #[.int .i64 x.id, .int .i64 x.x0, .int .i64 x.y0, .int .i64 x.x1, .int .i64 x.y1] 45)).grown g2 (by have := hB.size; simp; omega) (fun j hj => by cases hj; omega)).setCell (p := ⟨G, 1, none⟩) (show w.heap.size ≤ G by omega) (.slice (some ⟨w.heap.size + 1, 0, none⟩) (k + 1) n))
      have C3 := Lib.hid (cells_set1 j2 (.slice (some ⟨w.heap.size + 1, 0, none⟩) (k + 1) n))
      have s3 := g2.size
      simp at s3
      have s4 : G < w2.heap.size := by omega
      clear o2 g2 O2 bl
      go_wp2
      go_roundw
      case rel =>
        refine ⟨k + 1, by omega, by go_num, fun o => ?_, fun o => ?_, C3.out, fun o => ?_, O3, B3.out, by simp; omega⟩
        · exact (World.cell?_setCell_other _ _ _ _ (by simp)).trans (k2 o)
        · exact (World.frozen?_setCell _ _ _ _).trans (f2 o)
        · exact (World.frozen?_setCell _ _ _ _).trans (e2 o)
      case measure => simp [intOf]; omega
    · obtain rfl : k = n := by omega
      have O := HO.out
      rw [List.take_of_length_le (by rw [HL.out]; exact Nat.le_refl _)] at O
      have HO1 : Hid (OwnS itLay 45 wr (w.heap.size + 1) (.slice (some ⟨w.heap.size + 1, 0, none⟩) k k) xs) := by
        unfold OwnS
        rw [HL.out]
        exact Lib.hid O
      clear O HO
      go_wp2
      refine bodyPost_ret (v := .agg #[.bool true, .slice (some ⟨w.heap.size + 1, 0, none⟩) k k]) (by simp [results, Try.results28, go_sem, k0]) rfl ⟨_, rfl, ?_, ?_⟩
      · have O := ownS_set (ownS_set HO1.out (g := w.heap.size) (fun hj => by have := (HO1.out.lt _ hj).1; omega) 0 (.bool true)) (g := w.heap.size) (fun hj => by have := (HO1.out.lt _ hj).1; omega) 1 (.slice (some ⟨w.heap.size + 1, 0, none⟩) k k)
        exact OwnS.mono (L := itLay) O (by omega)
      · exact (hB.setCell (p := ⟨w.heap.size, 0, none⟩) (Nat.le_refl _) _).setCell (p := ⟨w.heap.size, 1, none⟩) (Nat.le_refl _) _
end Go.Proofs.Ytckdkijhkgicnaa
