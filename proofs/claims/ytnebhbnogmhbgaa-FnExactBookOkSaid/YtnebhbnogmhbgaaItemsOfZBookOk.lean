/- The model's ItemsOf: the entries of a leaf as items; of an inner node none. -/
import Derived.Test.YtnebhbnogmhbgaaLeafOfZBookOk
namespace Go.Proofs.Ytnebhbnogmhbgaa
open Go.RowKit
attribute [local go_sem ↓] Go.wp_at_zero Go.wp_at_succ

set_option maxHeartbeats 3200000 in
set_option maxRecDepth 100000 in
theorem sItemsOf_leaf (a : Option Addr) (n cap : Nat) (xs : List It) (w : World) (h : RdS itLay w a n cap xs) (hn : n ≤ 1099511627776) :
    Calls Try.prog 125 #[.agg #[.bool true, .slice a n cap]] w (NewItems xs w) := by
  obtain ⟨i0, hi, hz0, hz1, hz2⟩ := info_parts Try.infoItem
  replace hi := Lib.hid hi
  replace hz0 := Lib.hid hz0
  replace hz1 := Lib.hid hz1
  replace hz2 := Lib.hid hz2
  have hm := h.1.2.2.1
  have hnc := h.1.2.1
  unfold maxLen at hm
  have HR := Lib.hid h
  have HL := Lib.hid h.1.1
  clear h
  have K := Lib.hid (blk_alloc (.cells #[] 127) (by simp) _ _ (blk_new w #[.bool true, .slice a n cap] 32))
  have B0 : Below w.heap.size w ((w.alloc (.cells #[.bool true, .slice a n cap] 32)).alloc (.cells #[] 127)) := ((Below.refl _ _).alloc (Nat.le_refl _) _).alloc (by simp) _
  have O0 := Lib.hid (own_nil (w.alloc (.cells #[.bool true, .slice a n cap] 32)) 127 5 (w.heap.size + 1) (w.heap.size + 1) (by simp) (Nat.le_refl _))
  go_enter Try.func125, Try.ntmps125
  go_wp2
  go_loopw [3, 4] (fun v i wr => ∃ (k : Nat) (va : Option Addr) (vc : Nat), k ≤ n ∧ v = .slice va k vc ∧ i = .int .i64 (k : Int) ∧ (∀ o, wr.cell? ⟨w.heap.size, o, none⟩ = #[Value.bool true, .slice a n cap][o]?) ∧ OwnS itLay 127 wr (w.heap.size + 1) (.slice va k vc) (xs.take k) ∧ Below w.heap.size w wr ∧ w.heap.size + 1 ≤ wr.heap.size) (fun _ i _ => n - (intOf i).toNat)
  case atStart => exact ⟨0, _, _, Nat.zero_le _, rfl, rfl, K.out.1, O0.out, B0, by simp⟩
  case round =>
    obtain ⟨k, va, vc, hk, rfl, rfl, k0, ho, hB, hS⟩ := hrel
    have htl : (xs.take k).length = k := by rw [List.length_take, HL.out]; omega
    have ho' : wr.ownsRow (w.heap.size + 1) 127 5 (.slice va k vc) k ((xs.take k).flatMap itLay.cells) := by
      have := ho
      unfold OwnS at this
      rw [htl] at this
      exact this
    have c0 := k0 0
    have c1 := k0 1
    simp at c0 c1
    by_cases hlt : k < n
    · obtain ⟨b, off, x, rfl, hbl, hx, d0, d1, d2, d3, d4⟩ := rdIt_at (HR.out.below hB) hlt
      have HX := Lib.hid hx
      have HO := Lib.hid ho'
      have hrow : ∀ j, (Value.slice va k vc).ownBlock = some j → w.heap.size + 1 ≤ j := fun j hj => (HO.out.lt j hj).1
      have hvb : b < w.heap.size := HR.out.lt (by omega) rfl
      have z0 : (0 : Int) ≤ k := by omega
      have z1 : (k : Int) < n := by omega
      have htk := Lib.hid htl
      have KB : ∀ V : World, (∀ q o, q < w.heap.size + 1 → V.cell? ⟨q, o, none⟩ = wr.cell? ⟨q, o, none⟩) → V.cell? ⟨w.heap.size, 1, none⟩ = some (.slice (some ⟨b, off, none⟩) n cap) ∧ V.cell? ⟨b, off + k * 5, none⟩ = some (.int .i64 x.id) ∧ V.cell? ⟨b, off + k * 5 + 1, none⟩ = some (.int .i64 x.x0) ∧ V.cell? ⟨b, off + k * 5 + 1 + 1, none⟩ = some (.int .i64 x.y0) ∧ V.cell? ⟨b, off + k * 5 + 1 + 2, none⟩ = some (.int .i64 x.x1) ∧ V.cell? ⟨b, off + k * 5 + 1 + 3, none⟩ = some (.int .i64 x.y1) := fun V hV =>
        ⟨(hV _ _ (by omega)).trans c1, (hV _ _ (by omega)).trans d0, (hV _ _ (by omega)).trans d1, (hV _ _ (by omega)).trans d2, (hV _ _ (by omega)).trans d3, (hV _ _ (by omega)).trans d4⟩
      clear hx ho ho' htl
      go_wp2_with fail
      go_region_held3 (fun V => V.cell? ⟨w.heap.size, 1, none⟩ = some (.slice (some ⟨b, off, none⟩) n cap) ∧ V.cell? ⟨b, off + k * 5, none⟩ = some (.int .i64 x.id) ∧ V.cell? ⟨b, off + k * 5 + 1, none⟩ = some (.int .i64 x.x0) ∧ V.cell? ⟨b, off + k * 5 + 1 + 1, none⟩ = some (.int .i64 x.y0) ∧ V.cell? ⟨b, off + k * 5 + 1 + 2, none⟩ = some (.int .i64 x.x1) ∧ V.cell? ⟨b, off + k * 5 + 1 + 3, none⟩ = some (.int .i64 x.y1))
        (first | exact KB _ (fun _ _ _ => rfl) | exact KB _ (fun q o hq => World.cell?_alloc_lt _ _ ⟨q, o, none⟩ (by show q < wr.heap.size; omega)) | exact KB _ (fun q o hq => app_cell g2 hrow (fo := fun o => wr.cell? ⟨q, o, none⟩) (fun _ => rfl) (by omega) (by omega) o))
        (first
          | ((refine step_append_src rfl (.tmp 17) (.tmp 31) 111 rfl (w.heap.size + 1) 127 i0 _ 5 40 Try.underlying111 hi.out hz0.out hz1.out hz2.out rfl (by decide) (.slice va k vc) k ((xs.take k).flatMap itLay.cells) rfl (World.ownsRow.drew (World.ownsRow.alloc HO.out (.cells #[.int .i64 x.id, .int .i64 x.x0, .int .i64 x.y0, .int .i64 x.x1, .int .i64 x.y1] 127))) (some ⟨wr.heap.size, 0, none⟩) 1 1 (itLay.cells x) rfl rfl (fun h => by cases h) (fun p hp => by cases hp; exact World.news_of_block (cs := #[.int .i64 x.id, .int .i64 x.x0, .int .i64 x.y0, .int .i64 x.x1, .int .i64 x.y1]) (t := 127) (fr := (0, 0)) (heap_alloc_new wr _)) (itLay.one x) (by unfold maxLen; omega) (by omega) (by simp; omega) ?_); intro v2 w2 o2 g2; obtain ⟨ra, rc, rfl⟩ := owns_shape o2))
      all_goals
        have O3 := Lib.hid (ownS_more HX.out (by rw [htk.out]; exact o2))
        have B3 := Lib.hid (((hB.alloc (by omega) (.cells #[.int .i64 x.id, .int .i64 x.x0, .int .i64 x.y0, .int .i64 x.x1, .int .i64 x.y1] 127)).drew).grown g2 (by simp; omega) (fun j hj => by have := hrow j hj; omega))
        have c2 := app_cell g2 hrow k0 hS
        have S3 := g2.size
        simp at S3
        clear o2
        go_wp2
        go_roundw
        case rel => exact ⟨k + 1, ra, rc, by omega, rfl, by go_num, c2, O3.out, B3.out, by omega⟩
        case measure => simp [intOf]; omega
    · obtain rfl : k = n := by omega
      have hall : xs.take k = xs := List.take_of_length_le (by rw [HL.out]; exact Nat.le_refl _)
      have HO := Lib.hid ho
      rw [hall] at HO
      clear ho ho' htl hall
      go_wp2_with fail
      go_ret
      exact ⟨_, rfl, OwnS.mono (L := itLay) (base' := w.heap.size + 1) HO.out (by omega), hB⟩

set_option maxRecDepth 100000 in
set_option maxHeartbeats 800000 in
theorem sItemsOf_inner (a : Option Addr) (n cap : Nat) (w : World) :
    Calls Try.prog 125 #[.agg #[.bool false, .slice a n cap]] w (NewItems [] w) := by
  have K := (blk_alloc (.cells #[] 127) (by simp) _ _ (blk_new w #[.bool false, .slice a n cap] 32)).1
  have B0 : Below w.heap.size w ((w.alloc (.cells #[.bool false, .slice a n cap] 32)).alloc (.cells #[] 127)) := ((Below.refl _ _).alloc (Nat.le_refl _) _).alloc (by simp) _
  have O0 := Lib.hid (own_nil (w.alloc (.cells #[.bool false, .slice a n cap] 32)) 127 5 w.heap.size (w.heap.size + 1) (by simp) (by omega))
  go_enter Try.func125, Try.ntmps125
  go_wp2
  go_loopw [3, 4] (fun v i wr => v = .slice (some ⟨w.heap.size + 1, 0, none⟩) 0 0 ∧ i = .int .i64 0 ∧ wr = (w.alloc (.cells #[.bool false, .slice a n cap] 32)).alloc (.cells #[] 127)) (fun _ _ _ => 0)
  case atStart => exact ⟨rfl, rfl, rfl⟩
  case round =>
    obtain ⟨rfl, rfl, rfl⟩ := hrel
    by_cases h0 : (0 : Int) < n
    · go_wp2_with fail
      go_ret
      exact ⟨_, rfl, O0.out, B0⟩
    · go_wp2_with fail
      go_ret
      exact ⟨_, rfl, O0.out, B0⟩
end Go.Proofs.Ytnebhbnogmhbgaa
