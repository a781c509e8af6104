/- The model's BoundOf: the join of all rectangles of a node's entries. -/
import Derived.Test.YtnebhbnogmhbgaaQReachesd
namespace Go.Proofs.Ytnebhbnogmhbgaa
open Go.RowKit

def boxOf (x : It) : Bx := ⟨x.x0, x.y0, x.x1, x.y1⟩
theorem ownB_nil (w : World) (base g : Nat) (hg : w.heap.size = g) (hb : base ≤ g) : OwnS bxLay 89 (w.alloc (.cells #[] 89)) base (.slice (some ⟨g, 0, none⟩) 0 0) [] := own_nil w 89 4 base g hg hb
theorem ownB_more {w : World} {e : TypeId} {base : Nat} {v : Value} {bs : List Bx} {y : Bx} {k : Nat} (hx : bs[k]? = some y) (hl : (bs.take k).length = k) (h : w.ownsRow base e 4 v (k + 1) ((bs.take k).flatMap bxLay.cells ++ bxLay.cells y)) : OwnS bxLay e w base v (bs.take (k + 1)) := by
  show w.ownsRow base e 4 v _ _
  rw [List.take_add_one, hx, List.length_append, List.flatMap_append, hl]
  simpa using h
theorem boxes_at {xs : List It} {k : Nat} {x : It} (h : xs[k]? = some x) : (xs.map boxOf)[k]? = some (boxOf x) := by rw [List.getElem?_map, h]; rfl

set_option maxHeartbeats 3200000 in
set_option maxRecDepth 100000 in
theorem sBoundOf_any (c : Bool) (a : Option Addr) (n cap : Nat) (xs : List It) (w : World) (h : RdS itLay w a n cap xs) (hn : n ≤ 1099511627776) :
    Calls Try.prog 117 #[.agg #[.bool c, .slice a n cap]] w (RetBox (joinAll (xs.map boxOf)) w) := by
  obtain ⟨i0, hi, hz0, hz1, hz2⟩ := info_parts Try.infoBox
  replace hz2 := Lib.hid hz2
  have hm := h.1.2.2.1
  have hnc := h.1.2.1
  unfold maxLen at hm
  have HR := Lib.hid h
  have HL := Lib.hid h.1.1
  obtain ⟨bs, hbs⟩ : ∃ bs, xs.map boxOf = bs := ⟨_, rfl⟩
  have HB := Lib.hid (fun k x (hx : xs[k]? = some x) => (hbs ▸ boxes_at hx : bs[k]? = some (boxOf x)))
  have HM := Lib.hid (show bs.length = n by rw [← hbs, List.length_map, h.1.1])
  rw [hbs]
  clear h hbs
  have K := Lib.hid (blk_alloc (.cells #[] 89) (by simp; omega) _ _ (blk_alloc (.cells #[.int .i64 0, .int .i64 0, .int .i64 0, .int .i64 0] 89) (by simp) _ _ (blk_new w #[.bool c, .slice a n cap] 32)))
  have J := Lib.hid (blk_alloc (.cells #[] 89) (by simp) _ _ (blk_new1 w (.cells #[.bool c, .slice a n cap] 32) #[.int .i64 0, .int .i64 0, .int .i64 0, .int .i64 0] 89))
  have B0 : Below w.heap.size w (((w.alloc (.cells #[.bool c, .slice a n cap] 32)).alloc (.cells #[.int .i64 0, .int .i64 0, .int .i64 0, .int .i64 0] 89)).alloc (.cells #[] 89)) := (((Below.refl _ _).alloc (Nat.le_refl _) _).alloc (by simp) _).alloc (by simp; omega) _
  have O0 := Lib.hid (ownB_nil ((w.alloc (.cells #[.bool c, .slice a n cap] 32)).alloc (.cells #[.int .i64 0, .int .i64 0, .int .i64 0, .int .i64 0] 89)) (w.heap.size + 2) (w.heap.size + 2) (by simp) (Nat.le_refl _))
  go_enter Try.func117, Try.ntmps117
  go_wp2
  go_loopw [3, 4] (fun v i wr => ∃ (k : Nat) (va : Option Addr) (vc : Nat), k ≤ n ∧ v = .slice va k vc ∧ i = .int .i64 (k : Int) ∧ (∀ o, wr.cell? ⟨w.heap.size, o, none⟩ = #[Value.bool c, .slice a n cap][o]?) ∧ (∀ o, wr.cell? ⟨w.heap.size + 1, o, none⟩ = (#[.int .i64 0, .int .i64 0, .int .i64 0, .int .i64 0] : Array Value)[o]?) ∧ (∀ o, wr.frozen? ⟨w.heap.size + 1, o, none⟩ = false) ∧ OwnS bxLay 89 wr (w.heap.size + 2) (.slice va k vc) (bs.take k) ∧ Below w.heap.size w wr ∧ w.heap.size + 2 ≤ wr.heap.size) (fun _ i _ => n - (intOf i).toNat)
  case atStart => exact ⟨0, _, _, Nat.zero_le _, rfl, rfl, K.out.1, J.out.1, J.out.2, O0.out, B0, by simp⟩
  case round =>
    obtain ⟨k, va, vc, hk, rfl, rfl, k0, j0, g0, ho, hB, hS⟩ := hrel
    have htl : (bs.take k).length = k := by rw [List.length_take, HM.out]; omega
    have ho' : wr.ownsRow (w.heap.size + 2) 89 4 (.slice va k vc) k ((bs.take k).flatMap bxLay.cells) := by
      have := ho
      unfold OwnS at this
      rw [htl] at this
      exact this
    have c0 := k0 0
    have c1 := k0 1
    simp at c0 c1
    by_cases hlt : k < n
    · obtain ⟨b, off, x, rfl, hbl, hx, d0, d1, d2, d3, d4⟩ := rdIt_at (HR.out.below hB) hlt
      have HX := Lib.hid (HB.out k x hx)
      have HO := Lib.hid ho'
      have hrow : ∀ j, (Value.slice va k vc).ownBlock = some j → w.heap.size + 2 ≤ j := fun j hj => (HO.out.lt j hj).1
      have z0 : (0 : Int) ≤ k := by omega
      have z1 : (k : Int) < n := by omega
      have htk := Lib.hid htl
      clear hx ho ho' htl
      go_wp2_with (at_builtin; refine append_src rfl (.tmp 13) (.tmp 20) 154 rfl (w.heap.size + 2) 89 i0 _ 4 32 Try.underlying154 hi hz0 hz1 hz2.out rfl (by decide) (.slice va k vc) k ((bs.take k).flatMap bxLay.cells) rfl (World.ownsRow.alloc HO.out _) (some ⟨wr.heap.size, 0, none⟩) 1 1 (bxLay.cells (boxOf x)) rfl rfl (fun h => by cases h) ?_ (bxLay.one _) ?_ ?_ ?_ ?_)
      case refine_1 =>
        intro p hp
        cases hp
        exact World.news_of_block (cs := #[.int .i64 x.x0, .int .i64 x.y0, .int .i64 x.x1, .int .i64 x.y1]) (t := 89) (fr := (0, 0)) (heap_alloc_new wr _)
      case refine_2 => unfold maxLen; omega
      case refine_3 => omega
      case refine_4 => simp; omega
      intro v2 w2 o2 g1
      have g2 : (wr.alloc (.cells #[.int .i64 x.x0, .int .i64 x.y0, .int .i64 x.x1, .int .i64 x.y1] 89)).drew.grownBy w2 (Value.slice va k vc).ownBlock := ⟨g1.os, g1.tape, g1.output, g1.size, g1.block⟩
      obtain ⟨ra, rc, rfl⟩ := owns_shape o2
      have O3 := Lib.hid (ownB_more HX.out htk.out o2)
      have B3 := Lib.hid ((hB.alloc (by omega) (.cells #[.int .i64 x.x0, .int .i64 x.y0, .int .i64 x.x1, .int .i64 x.y1] 89)).grown g1 (by simp; omega) (fun j hj => by have := hrow j hj; omega))
      have c2 := app_cell (O := .cells #[.int .i64 x.x0, .int .i64 x.y0, .int .i64 x.x1, .int .i64 x.y1] 89) g2 hrow k0 (by omega) (by omega)
      have c3 := app_cell (O := .cells #[.int .i64 x.x0, .int .i64 x.y0, .int .i64 x.x1, .int .i64 x.y1] 89) g2 hrow j0 (by omega) (by omega)
      have e3 := app_frozen (O := .cells #[.int .i64 x.x0, .int .i64 x.y0, .int .i64 x.x1, .int .i64 x.y1] 89) g2 hrow g0 (by omega) (by omega)
      have S3 := g2.size
      simp at S3
      clear o2 g1
      go_wp2
      go_roundw
      case rel => exact ⟨k + 1, ra, rc, by omega, rfl, by go_num, c2, c3, e3, O3.out, B3.out, by omega⟩
      case measure => simp [intOf]; omega
    · obtain rfl : k = n := by omega
      have hall : bs.take k = bs := List.take_of_length_le (by rw [HM.out]; exact Nat.le_refl _)
      have HRr := Lib.hid (rdS_owns' (L := bxLay) (xs := bs) (by rw [hall] at ho'; exact ho') HM.out)
      clear ho ho' htl hall
      go_wp2_with fail
      refine (sJoinAll_any va k vc _ _ HRr.out).mono ?_
      rintro e w3 ⟨rfl, hb⟩
      have B3 := hB.trans (hb.mono hB.size)
      have k3 : ∀ o, w3.cell? ⟨w.heap.size + 1, o, none⟩ = (#[.int .i64 0, .int .i64 0, .int .i64 0, .int .i64 0] : Array Value)[o]? := fun o => (hb.cell (p := ⟨w.heap.size + 1, o, none⟩) (show w.heap.size + 1 < wr.heap.size by omega)).trans (j0 o)
      have e3 : ∀ o, w3.frozen? ⟨w.heap.size + 1, o, none⟩ = false := fun o => (hb.frozen (p := ⟨w.heap.size + 1, o, none⟩) (show w.heap.size + 1 < wr.heap.size by omega)).trans (g0 o)
      clear hb
      obtain ⟨r, hr⟩ : ∃ r, joinAll bs = r := ⟨_, rfl⟩
      have HQ := Lib.hid hr
      rw [hr]
      clear hr
      go_wp2
      refine bodyPost_ret (v := .agg #[.int .i64 r.x0, .int .i64 r.y0, .int .i64 r.x1, .int .i64 r.y1]) (by simp [results, Try.results117, go_sem, k3]) rfl ⟨by rw [HQ.out], ?_⟩
      exact (((B3.setCell (p := ⟨w.heap.size + 1, 0, none⟩) (show w.heap.size ≤ w.heap.size + 1 by omega) _).setCell (p := ⟨w.heap.size + 1, 1, none⟩) (show w.heap.size ≤ w.heap.size + 1 by omega) _).setCell (p := ⟨w.heap.size + 1, 2, none⟩) (show w.heap.size ≤ w.heap.size + 1 by omega) _).setCell (p := ⟨w.heap.size + 1, 3, none⟩) (show w.heap.size ≤ w.heap.size + 1 by omega) _
end Go.Proofs.Ytnebhbnogmhbgaa
