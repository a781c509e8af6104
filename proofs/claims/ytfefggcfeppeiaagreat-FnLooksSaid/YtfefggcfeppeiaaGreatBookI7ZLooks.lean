/- The program's children. -/
import Derived.Test.YtfefggcfeppeiaaGreatBookI1ZLooks
import Derived.Test.YtfefggcfeppeiaaGreatQLooksf
namespace Go.Proofs.YtfefggcfeppeiaaGreat
open Go.RowKit

set_option maxRecDepth 100000 in
set_option maxHeartbeats 1600000 in
theorem iKids_any (lf : Bool) (a : Option Addr) (n cap : Nat) (xs : List It) (w : World) (h : RdS itLay w a n cap xs) (hn : n ≤ 1099511627776) :
    Calls Tryz.prog 45 #[.agg #[.bool lf, .slice a n cap]] w (RetI ((kidsP ⟨true, lf, xs⟩).map (fun x => x.id)) w) := by
  cases lf with
  | true =>
    have B0 : Below w.heap.size w ((w.alloc (.cells #[.bool true, .slice a n cap] 59)).alloc (.cells #[] 3)) := ((Below.refl _ _).alloc (Nat.le_refl _) _).alloc (by simp) _
    have O0 := Lib.hid (own_nil (w.alloc (.cells #[.bool true, .slice a n cap] 59)) 3 1 w.heap.size (w.heap.size + 1) (by simp) (by omega))
    clear h
    go_enter Tryz.func45, Tryz.ntmps45
    go_wp2
    go_ret
    exact ⟨_, rfl, O0.out, B0⟩
  | false =>
    obtain ⟨i0, hi, hz0, hz1, hz2⟩ := info_parts Tryz.infoI64
    replace hi := Lib.hid hi
    replace hz0 := Lib.hid hz0
    replace hz1 := Lib.hid hz1
    replace hz2 := Lib.hid hz2
    have hm := h.1.2.2.1
    have hnc := h.1.2.1
    unfold maxLen at hm
    have HR := Lib.hid h
    have HL := Lib.hid h.1.1
    clear h
    have K := Lib.hid (Loc.new w #[.bool false, .slice a n cap] 59)
    have B0 := Lib.hid (new_below w (.cells #[.bool false, .slice a n cap] 59))
    show Calls _ _ _ _ (RetI (xs.map (fun x => x.id)) w)
    go_enter Tryz.func45, Tryz.ntmps45
    go_wp2_with (at_make; refine wpList_make_own _ rfl _ _ 41 rfl (w.heap.size + 1) 3 i0 (.int .i64 0) 1 Tryz.underlying41 hi.out hz0.out hz1.out .i64 .i64 (n : Int) n rfl rfl rfl ?_ ?_ ?_ ?_)
    case refine_1 => rw [hz2.out]; omega
    case refine_2 => unfold maxLen; omega
    case refine_3 => simp
    intro w1 hown hgrow
    have hb1 := grownNone_below hgrow
    have B1 := Lib.hid (B0.out.trans (hb1.mono B0.out.size))
    have K1 := Lib.hid (K.out.below hb1)
    have S1 := Lib.hid hb1.size
    replace hown := Lib.hid hown
    have k10 := K1.out.2.1 1
    simp at k10
    clear hgrow hb1
    go_wp2
    go_loopw [3, 16] (fun v i wr => ∃ k : Nat, k ≤ n ∧ v = .slice (some ⟨w.heap.size + 1, 0, none⟩) k n ∧ i = .int .i64 (k : Int) ∧ Hid (wr.ownsRow (w.heap.size + 1) 3 1 (.slice (some ⟨w.heap.size + 1, 0, none⟩) k n) k ((xs.take k).map (fun x => Value.int .i64 x.id))) ∧ Below w.heap.size w wr ∧ w.heap.size + 1 ≤ wr.heap.size) (fun _ i _ => n - (intOf i).toNat)
    case atStart => exact ⟨0, Nat.zero_le _, rfl, rfl, hown, B1.out, by have := S1.out; simpa using this⟩
    case round =>
      clear hown B1 K1 S1 k10
      obtain ⟨k, hk, rfl, rfl, HO, hB, hS⟩ := hrel
      by_cases hlt : k < n
      · obtain ⟨b, off, x, rfl, hbl, hx, d0, d1, d2, d3, d4⟩ := rdIt_at (HR.out.below hB) hlt
        have HX := Lib.hid hx
        have z0 : (0 : Int) ≤ k := by omega
        have z1 : (k : Int) < n := by omega
        clear hx
        go_wp2_with (at_builtin; refine wpList_append_fits _ rfl (.tmp 20) (.tmp 23) 41 rfl (w.heap.size + 1) 3 i0 1 Tryz.underlying41 hi.out hz1.out (w.heap.size + 1) k n ((xs.take k).map (fun x => Value.int .i64 x.id)) rfl (World.ownsRow.alloc (World.ownsRow.alloc HO.out _) _) ⟨wr.heap.size + 1, 0, none⟩ 1 1 [.int .i64 x.id] rfl rfl ?_ (by simp [Value.oneCell']) ?_ ?_)
        case refine_1 => exact World.news_of_block (cs := #[.int .i64 x.id]) (t := 3) (fr := (0, 0)) (by have := heap_alloc_new (wr.alloc (.cells #[.int .i64 x.id, .int .i64 x.x0, .int .i64 x.y0, .int .i64 x.x1, .int .i64 x.y1] 77)) (.cells #[.int .i64 x.id] 3); simpa using this)
        case refine_2 => omega
        intro w3 o3 g3
        have O3 : Hid (w3.ownsRow (w.heap.size + 1) 3 1 (.slice (some ⟨w.heap.size + 1, 0, none⟩) (k + 1) n) (k + 1) ((xs.take (k + 1)).map (fun x => Value.int .i64 x.id))) := by
          rw [List.take_add_one, HX.out, List.map_append, List.map_take]
          exact Lib.hid o3
        have B3 := Lib.hid (((hB.alloc hB.size (.cells #[.int .i64 x.id, .int .i64 x.x0, .int .i64 x.y0, .int .i64 x.x1, .int .i64 x.y1] 77)).alloc (by have := hB.size; simp; omega) (.cells #[.int .i64 x.id] 3)).grown g3 (by have := hB.size; simp; omega) (fun j hj => by cases hj; omega))
        have s3 := g3.size
        simp at s3
        clear o3 g3
        go_wp2
        go_roundw
        case rel => exact ⟨k + 1, by omega, rfl, by go_num, O3, B3.out, by omega⟩
        case measure => simp [intOf]; omega
      · obtain rfl : k = n := by omega
        go_wp2
        go_ret
        refine ⟨_, rfl, Own.mono (base' := w.heap.size + 1) ?_ (by omega), hB⟩
        unfold Own
        have O := HO.out
        rw [List.take_of_length_le (by rw [HL.out]; exact Nat.le_refl _)] at O
        rw [List.length_map, HL.out, List.map_map]
        exact O
end Go.Proofs.YtfefggcfeppeiaaGreat
