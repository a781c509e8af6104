/- The program's ItemsOf and LeafOf. -/
import Derived.Test.YtfefggcfeppeiaaGreatNodeI2ZLooks
namespace Go.Proofs.YtfefggcfeppeiaaGreat
open Go.RowKit
attribute [local go_sem ↓] Go.wp_at_zero Go.wp_at_succ

set_option maxHeartbeats 1600000 in
set_option maxRecDepth 100000 in
theorem iItemsOf_leaf (a : Option Addr) (n cap : Nat) (xs : List It) (w : World) (h : RdS itLay w a n cap xs) (hn : n ≤ 1099511627776) :
    Calls Tryz.prog 32 #[.agg #[.bool true, .slice a n cap]] w (NewItems xs w) := by
  obtain ⟨i0, hi, hz0, hz1, hz2⟩ := info_parts Tryz.infoItem
  replace hi := Lib.hid hi
  replace hz0 := Lib.hid hz0
  replace hz1 := Lib.hid hz1
  replace hz2 := Lib.hid hz2
  have hm := h.1.2.2.1
  have hnc := h.1.2.1
  unfold maxLen at hm
  have HR := Lib.hid h
  have HL := Lib.hid h.1.1
  clear h
  have K := Lib.hid (blk_new w #[.bool true, .slice a n cap] 59)
  have B0 := Lib.hid (new_below w (.cells #[.bool true, .slice a n cap] 59))
  go_enter Tryz.func32, Tryz.ntmps32
  go_wp2_with (at_make; refine wpList_make_own _ rfl _ _ 31 rfl (w.heap.size + 1) 47 i0 (.agg #[.int .i64 0, .int .i64 0, .int .i64 0, .int .i64 0, .int .i64 0]) 5 Tryz.underlying31 hi.out hz0.out hz1.out .i64 .i64 (n : Int) n rfl rfl rfl ?_ ?_ ?_ ?_)
  case refine_1 => rw [hz2.out]; omega
  case refine_2 => unfold maxLen; omega
  case refine_3 => simp
  intro w1 hown hgrow
  have hb1 := grownNone_below hgrow
  have B1 := Lib.hid (B0.out.trans (hb1.mono B0.out.size))
  have K1 := Lib.hid (below_keep hb1 (by simp) _ _ K.out)
  have S1 := Lib.hid hb1.size
  replace hown := Lib.hid hown
  have k10 := K1.out.1 1
  simp at k10
  clear hgrow hb1
  go_wp2
  go_loopw [3, 17] (fun v i wr => ∃ k : Nat, k ≤ n ∧ v = .slice (some ⟨w.heap.size + 1, 0, none⟩) k n ∧ i = .int .i64 (k : Int) ∧ Hid (wr.ownsRow (w.heap.size + 1) 47 5 (.slice (some ⟨w.heap.size + 1, 0, none⟩) k n) k ((xs.take k).flatMap itLay.cells)) ∧ Below w.heap.size w wr ∧ w.heap.size + 1 ≤ wr.heap.size) (fun _ i _ => n - (intOf i).toNat)
  case atStart => exact ⟨0, Nat.zero_le _, rfl, rfl, hown, B1.out, by have := S1.out; simpa using this⟩
  case round =>
    clear hown B1 K1 S1 k10
    obtain ⟨k, hk, rfl, rfl, HO, hB, hS⟩ := hrel
    by_cases hlt : k < n
    · obtain ⟨b, off, x, rfl, hbl, hx, d0, d1, d2, d3, d4⟩ := rdIt_at (HR.out.below hB) hlt
      have HX := Lib.hid hx
      have z0 : (0 : Int) ≤ k := by omega
      have z1 : (k : Int) < n := by omega
      clear hx
      go_wp2_with fail
      refine (itemOf_any x _).mono ?_
      rintro e w2 ⟨rfl, hb⟩
      have HO2 := Lib.hid (World.ownsRow.kept (World.ownsRow.alloc HO.out (.cells #[.int .i64 x.id, .int .i64 x.x0, .int .i64 x.y0, .int .i64 x.x1, .int .i64 x.y1] 77)) (Below.toGrown hb none) (.inr (by simp [Value.ownBlock])))
      have B2 := (hB.alloc hB.size (.cells #[.int .i64 x.id, .int .i64 x.x0, .int .i64 x.y0, .int .i64 x.x1, .int .i64 x.y1] 77)).trans (hb.mono (by have := hB.size; simp; omega))
      have s2 := hb.size
      simp at s2
      clear hb HO hB d0 d1 d2 d3 d4 hbl
      go_wp2_with (at_builtin; refine wpList_append_fits _ rfl (.tmp 21) (.tmp 24) 31 rfl (w.heap.size + 1) 47 i0 5 Tryz.underlying31 hi.out hz1.out (w.heap.size + 1) k n ((xs.take k).flatMap itLay.cells) rfl (World.ownsRow.alloc HO2.out _) ⟨w2.heap.size, 0, none⟩ 1 1 (itLay.cells x) rfl rfl ?_ (itLay.one _) ?_ ?_)
      case refine_1 => exact World.news_of_block (cs := #[.int .i64 x.id, .int .i64 x.x0, .int .i64 x.y0, .int .i64 x.x1, .int .i64 x.y1]) (t := 47) (fr := (0, 0)) (heap_alloc_new w2 _)
      case refine_2 => omega
      intro w3 o3 g3
      have O3 : Hid (w3.ownsRow (w.heap.size + 1) 47 5 (.slice (some ⟨w.heap.size + 1, 0, none⟩) (k + 1) n) (k + 1) ((xs.take (k + 1)).flatMap itLay.cells)) := by
        rw [flat_more itLay HX.out]
        exact Lib.hid o3
      have B3 := Lib.hid ((B2.alloc B2.size (.cells #[.int .i64 x.id, .int .i64 x.x0, .int .i64 x.y0, .int .i64 x.x1, .int .i64 x.y1] 47)).grown g3 (by have := B2.size; simp; omega) (fun j hj => by cases hj; omega))
      have s3 := g3.size
      simp at s3
      clear o3 g3 B2
      go_wp2
      go_roundw
      case rel => exact ⟨k + 1, by omega, rfl, by go_num, O3, B3.out, by omega⟩
      case measure => simp [intOf]; omega
    · obtain rfl : k = n := by omega
      go_wp2
      go_ret
      refine ⟨_, rfl, OwnS.mono (L := itLay) (base' := w.heap.size + 1) ?_ (by omega), hB⟩
      unfold OwnS
      have O := HO.out
      rw [List.take_of_length_le (by rw [HL.out]; exact Nat.le_refl _)] at O
      rw [HL.out]
      exact O

set_option maxRecDepth 100000 in
set_option maxHeartbeats 400000 in
theorem iItemsOf_inner (a : Option Addr) (n cap : Nat) (w : World) :
    Calls Tryz.prog 32 #[.agg #[.bool false, .slice a n cap]] w (NewItems [] w) := by
  have B0 : Below w.heap.size w ((w.alloc (.cells #[.bool false, .slice a n cap] 59)).alloc (.cells #[] 47)) := ((Below.refl _ _).alloc (Nat.le_refl _) _).alloc (by simp) _
  have O0 := Lib.hid (own_nil (w.alloc (.cells #[.bool false, .slice a n cap] 59)) 47 5 w.heap.size (w.heap.size + 1) (by simp) (by omega))
  go_enter Tryz.func32, Tryz.ntmps32
  go_wp2
  go_ret
  exact ⟨_, rfl, O0.out, B0⟩
theorem iItemsOf_any : CItemsOf 32 := fun b a n cap xs w h hn => by
  cases b with
  | true => exact iItemsOf_leaf a n cap xs w h hn
  | false => exact iItemsOf_inner a n cap w

end Go.Proofs.YtfefggcfeppeiaaGreat
