/- The model's draws of lists of items. -/
import Derived.Test.YtfefggcfeppeiaaDrawItemZPages
namespace Go.Proofs.Ytfefggcfeppeiaa
open Go.RowKit

/-- What the draw of a list of items leaves: some items in new memory. -/
def DrawnItems (g : Nat) (zs : List Int) (m : Nat) (w : World) (e : Ending) (w' : World) : Prop :=
  ∃ v ys, e = .returned v ∧ ys.length ≤ m ∧ OwnS itLay 98 w' w.heap.size v ys ∧ Cur g zs w' ∧ w.grownBy w' (some g)

theorem ownS_far {w w' : World} {e : TypeId} {base g : Nat} {v : Value} {xs : List It} (h : OwnS itLay e w base v xs) (hg : w.grownBy w' (some g)) (hb : g < base) : OwnS itLay e w' base v xs := by
  refine OwnS.kept h hg ?_
  cases hv : v.ownBlock with
  | none => exact .inl rfl
  | some j => exact .inr fun e => by have := (h.lt j hv).1; simp at e; omega

theorem ownS_snoc {w : World} {e : TypeId} {base : Nat} {v : Value} {ys : List It} {y : It} (h : w.ownsRow base e 5 v (ys.length + 1) (ys.flatMap itLay.cells ++ itLay.cells y)) : OwnS itLay e w base v (ys ++ [y]) := by
  show w.ownsRow base e 5 v _ _
  rw [List.length_append, List.flatMap_append]
  simpa using h
theorem ownS_snoc2 {w : World} {e : TypeId} {base : Nat} {v : Value} {ys : List It} {y z : It} (h : w.ownsRow base e 5 v (ys.length + 2) (ys.flatMap itLay.cells ++ (itLay.cells y ++ itLay.cells z))) : OwnS itLay e w base v (ys ++ [y, z]) := by
  show w.ownsRow base e 5 v _ _
  rw [List.length_append, List.flatMap_append]
  simpa using h

set_option maxHeartbeats 1600000 in
set_option maxRecDepth 100000 in
theorem l4List_any (g : Nat) (zs : List Int) (m : Nat) (w : World) (h : Cur g zs w) (hm : m ≤ 1000) :
    Calls Try.prog 95 #[.pointer (some ⟨g, 0, none⟩), .int .i64 m] w (DrawnItems g zs m w) := by
  obtain ⟨i0, hi, hz0, hz1, hz2⟩ := info_parts Try.infoItem
  have HZ2 := Lib.hid hz2
  clear hz2
  have hlt := cur_lt h
  have hO := Lib.hid (own_nil w 98 5 w.heap.size w.heap.size rfl (Nat.le_refl _))
  go_enter Try.func95, Try.ntmps95
  go_wp2_with fail
  refine (l1Below_any g zs (m + 1) _ (cur_alloc h _) (by omega)).mono ?_
  rintro e w1 ⟨x, rfl, x0, x1, cu, G⟩
  simp at x1
  have hO2 : Hid (OwnS itLay 98 w1 w.heap.size (.slice (some ⟨w.heap.size, 0, none⟩) 0 0) []) := ownS_far (xs := []) hO.out G hlt
  replace G := Lib.hid (grown_trans (World.grownBy_alloc w _ (some g)) G)
  clear hO h
  go_wp2
  go_loopw [5, 6] (fun v i wr => ∃ (t : Int) (ys : List It), 0 ≤ t ∧ i = .int .i64 t ∧ (ys.length : Int) + t ≤ m ∧ OwnS itLay 98 wr w.heap.size v ys ∧ Cur g zs wr ∧ w.grownBy wr (some g))
    (fun _ i _ => (intOf i).toNat)
  case atStart => exact ⟨x, [], x0, rfl, by simp; omega, hO2.out, cu, G.out⟩
  case round =>
    obtain ⟨t, ys, ht, rfl, hl, ho, hc, hgr⟩ := hrel
    obtain ⟨a', c', rfl, hr⟩ := OwnS.rd ho
    have HO := Lib.hid ho
    have HG := Lib.hid hgr
    have hsz := hgr.size
    clear ho hgr hO2 G hr
    by_cases hlt2 : 0 < t
    · go_wp2_with fail
      refine (l4Draw_any g zs _ hc).mono ?_
      rintro e w3 ⟨y, rfl, c3, g3⟩
      have HO1 := Lib.hid (OwnS.below (ownS_far HO.out g3 hlt) (new_below w3 (.cells #[.int .i64 y.id, .int .i64 y.x0, .int .i64 y.y0, .int .i64 y.x1, .int .i64 y.y1] 98)))
      have HG1 := Lib.hid (grown_alloc (grown_trans HG.out g3) (.cells #[.int .i64 y.id, .int .i64 y.x0, .int .i64 y.y0, .int .i64 y.x1, .int .i64 y.y1] 98))
      have hsz1 := g3.size
      have K := blk_new w3 #[.int .i64 y.id, .int .i64 y.x0, .int .i64 y.y0, .int .i64 y.x1, .int .i64 y.y1] 98
      have C3 := Lib.hid (cur_alloc c3 (.cells #[.int .i64 y.id, .int .i64 y.x0, .int .i64 y.y0, .int .i64 y.x1, .int .i64 y.y1] 98))
      clear g3 hc HO HG c3
      have hr := Lib.hid (rdS_owns HO1.out)
      obtain ⟨k0, f0⟩ := K
      go_wp2_with fail
      refine (sItemAt_any _ _ _ ys y.id _ hr.out).mono ?_
      rintro e w4 ⟨rfl, hb⟩
      have K := below_keep hb (by simp) _ _ ⟨k0, f0⟩
      have HO2 := Lib.hid (HO1.out.below hb)
      have HG2 := Lib.hid (grown_trans HG1.out (Below.toGrown hb (some g)))
      have C4 := Lib.hid (cur_kept C3.out (Below.toGrown hb none) (fun k hk => by cases hk))
      have hsz2 := hb.size
      simp at hsz2
      clear hb k0 f0 HO1 HG1 C3 hr
      obtain ⟨k0, f0⟩ := K
      generalize atV y.id ys 0 = p
      by_cases hp : p < 0
      · go_wp2_with (at_builtin; refine append_src rfl (.tmp 24) (.tmp 26) 53 rfl w.heap.size 98 i0 _ 5 40 Try.underlying53 hi hz0 hz1 HZ2.out rfl (by decide) (.slice a' ys.length c') ys.length (ys.flatMap itLay.cells) rfl (World.ownsRow.alloc HO2.out _) (some ⟨w4.heap.size, 0, none⟩) 1 1 (itLay.cells y) rfl rfl (fun h => by cases h) ?_ (itLay.one _) ?_ ?_ ?_ ?_)
        case refine_1 =>
          intro p hp
          cases hp
          exact World.news_of_block (cs := #[.int .i64 y.id, .int .i64 y.x0, .int .i64 y.y0, .int .i64 y.x1, .int .i64 y.y1]) (t := 98) (fr := (0, 0)) (heap_alloc_new w4 _)
        case refine_2 => unfold maxLen; omega
        case refine_3 => omega
        case refine_4 => simp; omega
        intro v' w5 hown2 hgrow2
        have hrow : ∀ j, (Value.slice a' ys.length c').ownBlock = some j → g < j := fun j hj => by have := (HO2.out.lt j hj).1; omega
        have HC2 := Lib.hid (cur_kept (cur_kept C4.out (World.grownBy_alloc w4 _ none) (fun k hk => by cases hk)) hgrow2 hrow)
        have HG3 := Lib.hid (grown_own HG2.out (World.grownBy_alloc w4 _ none) hgrow2 (fun j hj => (HO2.out.lt j hj).1))
        have HO3 := Lib.hid hown2
        clear hown2 hgrow2
        go_wp2
        go_roundw
        case rel =>
          refine ⟨t - 1, ys ++ [y], by omega, rfl, by simp; omega, ?_, HC2.out, HG3.out⟩
          exact ownS_snoc HO3.out
        case measure => simp [intOf]; omega
      · go_wp2
        go_roundw
        case rel => exact ⟨t - 1, ys, by omega, rfl, by omega, HO2.out, C4.out, HG2.out⟩
        case measure => simp [intOf]; omega
    · go_wp2
      go_ret
      exact ⟨_, ys, rfl, by omega, HO.out, hc, HG.out⟩

/-- A list of items drawn by a law. -/
def DrawnList (m : Nat) (w : World) (e : Ending) (w' : World) : Prop :=
  ∃ v ys, e = .returned v ∧ ys.length ≤ m ∧ OwnS itLay 98 w' w.heap.size v ys ∧ Below w.heap.size w w'
end Go.Proofs.Ytfefggcfeppeiaa
