/- The program's BoundOf, ItemsOf and LeafOf. -/
import Derived.Test.YtckdkijhkgicnaaNodeC
import Derived.Test.YtckdkijhkgicnaaJoinAll
namespace Go.Proofs.Ytckdkijhkgicnaa
open Go.RowKit

theorem flat_more {α : Type} (L : Lay α) {xs : List α} {k : Nat} {x : α} (h : xs[k]? = some x) : (xs.take (k + 1)).flatMap L.cells = (xs.take k).flatMap L.cells ++ L.cells x := by
  rw [List.take_add_one, h, List.flatMap_append]
  simp
/-- What a literal of one element lays in memory, behind a copy that was laid before it. -/
theorem news2 (wr : World) (O : Obj) (cs : Array Value) (t : TypeId) (l : List Value) (hl : cs.toList = l) : ∀ j u, l[j]? = some u → ((wr.alloc O).alloc (.cells cs t)).cell? ((⟨wr.heap.size + 1, 0, none⟩ : Addr).add j) = some u := by
  subst hl
  have e : (wr.alloc O).heap.size = wr.heap.size + 1 := by simp
  rw [← e]
  exact World.news_of_block (cs := cs) (t := t) (fr := (0, 0)) (heap_alloc_new (wr.alloc O) _)

set_option maxHeartbeats 1600000 in
set_option maxRecDepth 100000 in
theorem iRects_any (a : Option Addr) (n cap : Nat) (xs : List It) (w : World) (h : RdS itLay w a n cap xs) (hn : n ≤ 1099511627776) :
    Calls Try.prog 52 #[.slice a n cap] w fun e w' => ∃ v, e = .returned v ∧ OwnS bxLay 35 w' w.heap.size v (xs.map boxOf) ∧ Below w.heap.size w w' := by
  obtain ⟨i0, hi, hz0, hz1, hz2⟩ := info_parts Try.infoBox
  replace hi := Lib.hid hi
  replace hz0 := Lib.hid hz0
  replace hz1 := Lib.hid hz1
  replace hz2 := Lib.hid hz2
  have hm := h.1.2.2.1
  have hnc := h.1.2.1
  unfold maxLen at hm
  have HR := Lib.hid h
  obtain ⟨bs, hbs⟩ : ∃ bs, xs.map boxOf = bs := ⟨_, rfl⟩
  have HB := Lib.hid (fun k x (hx : xs[k]? = some x) => (hbs ▸ boxes_at hx : bs[k]? = some (boxOf x)))
  have HM := Lib.hid (show bs.length = n by rw [← hbs, List.length_map, h.1.1])
  rw [hbs]
  clear h hbs
  go_enter Try.func52, Try.ntmps52
  go_wp2_with (at_make; refine wpList_make_own _ rfl _ _ 71 rfl w.heap.size 35 i0 (.agg #[.int .i64 0, .int .i64 0, .int .i64 0, .int .i64 0]) 4 Try.underlying71 hi.out hz0.out hz1.out .i64 .i64 (n : Int) n rfl rfl rfl ?_ ?_ ?_ ?_)
  case refine_1 => rw [hz2.out]; omega
  case refine_2 => unfold maxLen; omega
  case refine_3 => exact Nat.le_refl _
  intro w1 hown hgrow
  have B1 := Lib.hid (grownNone_below hgrow)
  replace hown := Lib.hid hown
  clear hgrow
  go_wp2
  go_loopw [3, 11] (fun v i wr => ∃ k : Nat, k ≤ n ∧ v = .slice (some ⟨w.heap.size, 0, none⟩) k n ∧ i = .int .i64 (k : Int) ∧ Hid (wr.ownsRow w.heap.size 35 4 (.slice (some ⟨w.heap.size, 0, none⟩) k n) k ((bs.take k).flatMap bxLay.cells)) ∧ Below w.heap.size w wr) (fun _ i _ => n - (intOf i).toNat)
  case atStart => exact ⟨0, Nat.zero_le _, rfl, rfl, hown, B1.out⟩
  case round =>
    clear hown B1
    obtain ⟨k, hk, rfl, rfl, HO, hB⟩ := hrel
    by_cases hlt : k < n
    · obtain ⟨b, off, x, rfl, hbl, hx, d0, d1, d2, d3, d4⟩ := rdIt_at (HR.out.below hB) hlt
      have HX := Lib.hid (HB.out k x hx)
      have z0 : (0 : Int) ≤ k := by omega
      have z1 : (k : Int) < n := by omega
      clear hx
      go_wp2_with (at_builtin; refine wpList_append_fits _ rfl (.tmp 15) (.tmp 18) 71 rfl w.heap.size 35 i0 4 Try.underlying71 hi.out hz1.out w.heap.size k n ((bs.take k).flatMap bxLay.cells) rfl (World.ownsRow.alloc (World.ownsRow.alloc HO.out _) _) ⟨wr.heap.size + 1, 0, none⟩ 1 1 (bxLay.cells (boxOf x)) rfl rfl ?_ (bxLay.one _) ?_ ?_)
      case refine_1 => exact news2 wr _ _ _ _ rfl
      case refine_2 => omega
      intro w2 o2 g2
      have O2 : Hid (w2.ownsRow w.heap.size 35 4 (.slice (some ⟨w.heap.size, 0, none⟩) (k + 1) n) (k + 1) ((bs.take (k + 1)).flatMap bxLay.cells)) := by
        rw [flat_more bxLay HX.out]
        exact Lib.hid o2
      have B2 := Lib.hid (((hB.alloc hB.size (.cells #[.int .i64 x.id, .int .i64 x.x0, .int .i64 x.y0, .int .i64 x.x1, .int .i64 x.y1] 45)).alloc (by have := hB.size; simp; omega) (.cells #[.int .i64 x.x0, .int .i64 x.y0, .int .i64 x.x1, .int .i64 x.y1] 35)).grown g2 (by have := hB.size; simp; omega) (fun j hj => by cases hj; exact Nat.le_refl _))
      clear o2 g2
      go_wp2
      go_roundw
      case rel => exact ⟨k + 1, by omega, rfl, by go_num, O2, B2.out⟩
      case measure => simp [intOf]; omega
    · obtain rfl : k = n := by omega
      go_wp2
      go_ret
      refine ⟨_, rfl, ?_, hB⟩
      unfold OwnS
      have O := HO.out
      rw [List.take_of_length_le (by rw [HM.out]; exact Nat.le_refl _)] at O
      rw [HM.out]
      exact O

set_option maxHeartbeats 200000 in
theorem iBoundOf_any : CBoundOf 17 := by
  intro c a n cap xs w h hn
  obtain ⟨bs, hbs⟩ : ∃ bs, xs.map boxOf = bs := ⟨_, rfl⟩
  obtain ⟨jj, hjj⟩ : ∃ jj, joinAll bs = jj := ⟨_, rfl⟩
  have B0 : Below w.heap.size w ((w.alloc (.cells #[.bool c, .slice a n cap] 26)).alloc (.cells #[.int .i64 0, .int .i64 0, .int .i64 0, .int .i64 0] 35)) := ((Below.refl _ _).alloc (Nat.le_refl _) _).alloc (by simp) _
  have J := Lib.hid (blk_new1 w (.cells #[.bool c, .slice a n cap] 26) #[.int .i64 0, .int .i64 0, .int .i64 0, .int .i64 0] 35)
  have C := iRects_any a n cap xs _ (h.below B0) hn
  rw [hbs] at C ⊢
  rw [hjj]
  replace C := Lib.hid C
  replace hjj := Lib.hid hjj
  replace B0 := Lib.hid B0
  clear h hbs
  go_enter Try.func17, Try.ntmps17
  go_wp2_with fail
  refine C.out.mono ?_
  rintro e w1 ⟨v, rfl, ho, hb⟩
  obtain ⟨va, vc, rfl, hr⟩ := OwnS.rd ho
  have C2 := iJoinAll_any va bs.length vc bs w1 hr
  rw [hjj.out] at C2
  replace C2 := Lib.hid C2
  have J1 := Lib.hid (below_keep hb (by simp) _ _ J.out)
  have B1 := Lib.hid (B0.out.trans (hb.mono B0.out.size))
  have s1 := hb.size
  simp at s1
  clear ho hr hb
  go_wp2_with fail
  refine C2.out.mono ?_
  rintro e w2 ⟨rfl, hb⟩
  obtain ⟨j0, f0⟩ := below_keep hb (by omega) _ _ J1.out
  have B2 := Lib.hid (B1.out.trans (hb.mono B1.out.size))
  have s2 := hb.size
  have hl : w.heap.size + 1 < w2.heap.size := by omega
  clear hb
  go_wp2
  refine bodyPost_ret (v := .agg #[.int .i64 jj.x0, .int .i64 jj.y0, .int .i64 jj.x1, .int .i64 jj.y1]) (by simp [results, Try.results17, go_sem, j0]) rfl ⟨rfl, ?_⟩
  exact (((B2.out.setCell (p := ⟨w.heap.size + 1, 0, none⟩) (show w.heap.size ≤ w.heap.size + 1 by omega) _).setCell (p := ⟨w.heap.size + 1, 1, none⟩) (show w.heap.size ≤ w.heap.size + 1 by omega) _).setCell (p := ⟨w.heap.size + 1, 2, none⟩) (show w.heap.size ≤ w.heap.size + 1 by omega) _).setCell (p := ⟨w.heap.size + 1, 3, none⟩) (show w.heap.size ≤ w.heap.size + 1 by omega) _

set_option maxHeartbeats 400000 in
theorem itemOf_any (x : It) (w : World) :
    Calls Try.prog 62 #[.agg #[.int .i64 x.id, .int .i64 x.x0, .int .i64 x.y0, .int .i64 x.x1, .int .i64 x.y1]] w fun e w' => e = .returned (.agg #[.int .i64 x.id, .int .i64 x.x0, .int .i64 x.y0, .int .i64 x.x1, .int .i64 x.y1]) ∧ Below w.heap.size w w' := by
  have B0 : Hid (Below w.heap.size w ((w.alloc (.cells #[.int .i64 x.id, .int .i64 x.x0, .int .i64 x.y0, .int .i64 x.x1, .int .i64 x.y1] 45)).alloc (.cells #[.int .i64 0, .int .i64 0, .int .i64 0, .int .i64 0, .int .i64 0] 82))) := Lib.hid (((Below.refl _ _).alloc (Nat.le_refl _) _).alloc (by simp) _)
  go_enter Try.func62, Try.ntmps62
  go_wp2
  refine bodyPost_ret (v := .agg #[.int .i64 x.id, .int .i64 x.x0, .int .i64 x.y0, .int .i64 x.x1, .int .i64 x.y1]) (by simp [results, Try.results62, go_sem]) rfl ⟨rfl, ?_⟩
  exact ((Below.refl _ _).alloc (Nat.le_refl _) _).alloc (by simp) _
end Go.Proofs.Ytckdkijhkgicnaa
