/- What the law of items draws. -/
import Derived.Test.YtgjbngfcllanmaaDoorDrawItems
namespace Go.Proofs.YtgjbngfcllanmaaDoor
open Go.RowKit

set_option maxHeartbeats 800000 in
set_option maxRecDepth 100000 in
theorem drawById_any (A : Option Addr) (cap : Nat) (zs : List Int) (w : World) (h : RdI .u8 w A zs.length cap zs) (hz : ∀ z ∈ zs, 0 ≤ z ∧ z ≤ 255) (hn : zs.length ≤ 1048576) :
    Calls Tryd.prog 8 #[.slice A zs.length cap] w (DrawnList 10 w) := by
  go_enter Tryd.func8, Tryd.ntmps8
  go_wp2_with fail
  refine (l1New_any A cap zs _ h hz hn).mono ?_
  rintro e w1 ⟨g, rfl, cu, hb, hg⟩
  go_wp2_with fail
  refine (l4Lists_any g zs _ cu).mono ?_
  rintro e w2 ⟨v, ys, rfl, hl, ho, cu, g2⟩
  go_wp2
  go_ret
  exact ⟨_, ys, rfl, hl, OwnS.mono (L := itLay) ho hb.size, below_blk hb g2 hg hb.size⟩

set_option maxHeartbeats 800000 in
set_option maxRecDepth 100000 in
theorem drawByKey_any (A : Option Addr) (cap : Nat) (zs : List Int) (w : World) (h : RdI .u8 w A zs.length cap zs) (hz : ∀ z ∈ zs, 0 ≤ z ∧ z ≤ 255) (hn : zs.length ≤ 1048576) :
    Calls Tryd.prog 6 #[.slice A zs.length cap] w (DrawnList 10 w) := by
  go_enter Tryd.func6, Tryd.ntmps6
  go_wp2_with fail
  refine (l1New_any A cap zs _ h hz hn).mono ?_
  rintro e w1 ⟨g, rfl, cu, hb, hg⟩
  go_wp2_with fail
  refine (l4Lists_any g zs _ cu).mono ?_
  rintro e w2 ⟨v, ys, rfl, hl, ho, cu, g2⟩
  go_wp2
  go_ret
  exact ⟨_, ys, rfl, hl, OwnS.mono (L := itLay) ho hb.size, below_blk hb g2 hg hb.size⟩

def DrawnIt (w : World) (e : Ending) (w' : World) : Prop :=
  ∃ x : It, e = .returned (.agg #[.int .i64 x.id, .int .i64 x.x0, .int .i64 x.y0, .int .i64 x.x1, .int .i64 x.y1]) ∧ Below w.heap.size w w'
def DrawnIts (w : World) (e : Ending) (w' : World) : Prop :=
  ∃ x y : It, e = .returned (.tuple #[.agg #[.int .i64 x.id, .int .i64 x.x0, .int .i64 x.y0, .int .i64 x.x1, .int .i64 x.y1], .agg #[.int .i64 y.id, .int .i64 y.x0, .int .i64 y.y0, .int .i64 y.x1, .int .i64 y.y1]]) ∧ Below w.heap.size w w'
def DrawnListId (m : Nat) (w : World) (e : Ending) (w' : World) : Prop :=
  ∃ v ys x, e = .returned (.tuple #[v, .int .i64 x]) ∧ ys.length ≤ m ∧ OwnS itLay 30 w' w.heap.size v ys ∧ Below w.heap.size w w'
def DrawnLists (m : Nat) (w : World) (e : Ending) (w' : World) : Prop :=
  ∃ v u ys xs, e = .returned (.tuple #[v, u]) ∧ ys.length ≤ m ∧ xs.length ≤ m ∧ OwnS itLay 30 w' w.heap.size v ys ∧ OwnS itLay 30 w' w.heap.size u xs ∧ Below w.heap.size w w'

set_option maxHeartbeats 800000 in
set_option maxRecDepth 100000 in
theorem drawItemOk_any (A : Option Addr) (cap : Nat) (zs : List Int) (w : World) (h : RdI .u8 w A zs.length cap zs) (hz : ∀ z ∈ zs, 0 ≤ z ∧ z ≤ 255) (hn : zs.length ≤ 1048576) :
    Calls Tryd.prog 10 #[.slice A zs.length cap] w (DrawnIt w) := by
  have HR := Lib.hid h
  have HZ := Lib.hid hz
  clear h hz
  have K0 := Lib.hid (blk_new w #[.int .i64 0, .int .i64 0, .int .i64 0, .int .i64 0, .int .i64 0] 30)
  go_enter Tryd.func10, Tryd.ntmps10
  go_wp2_with fail
  refine (l1New_any A cap zs _ (HR.out.below ((Below.refl _ _).alloc (Nat.le_refl _) _)) HZ.out hn).mono ?_
  rintro e w1 ⟨g, rfl, cu, hb, hg⟩
  simp at hg
  replace K0 := Lib.hid (below_keep hb (by simp) _ _ K0.out)
  have s1 := hb.size
  simp at s1
  replace hb := ((Below.refl _ _).alloc (Nat.le_refl _) _).trans (hb.mono (show w.heap.size ≤ _ by simp))
  go_wp2_with fail
  refine (l4Any_any g zs _ cu).mono ?_
  rintro e w2 ⟨x, rfl, cu, g2⟩
  obtain ⟨k0, f0⟩ := blk_keep g2 (by omega) (by omega) _ _ K0.out
  replace hb := below_blk hb g2 (by omega) (by omega)
  clear g2 K0
  go_wp2
  refine bodyPost_ret (v := .agg #[.int .i64 x.id, .int .i64 x.x0, .int .i64 x.y0, .int .i64 x.x1, .int .i64 x.y1]) (by simp [results, Tryd.results10, go_sem, k0]) rfl ⟨_, rfl, ?_⟩
  exact ((((hb.setCell (p := ⟨w.heap.size, 0, none⟩) (Nat.le_refl _) _).setCell (p := ⟨w.heap.size, 1, none⟩) (Nat.le_refl _) _).setCell (p := ⟨w.heap.size, 2, none⟩) (Nat.le_refl _) _).setCell (p := ⟨w.heap.size, 3, none⟩) (Nat.le_refl _) _).setCell (p := ⟨w.heap.size, 4, none⟩) (Nat.le_refl _) _

set_option maxHeartbeats 800000 in
set_option maxRecDepth 100000 in
theorem drawItemAt_any (A : Option Addr) (cap : Nat) (zs : List Int) (w : World) (h : RdI .u8 w A zs.length cap zs) (hz : ∀ z ∈ zs, 0 ≤ z ∧ z ≤ 255) (hn : zs.length ≤ 1048576) :
    Calls Tryd.prog 12 #[.slice A zs.length cap] w (DrawnListId 10 w) := by
  go_enter Tryd.func12, Tryd.ntmps12
  go_wp2_with fail
  refine (l1New_any A cap zs _ h hz hn).mono ?_
  rintro e w1 ⟨g, rfl, cu, hb, hg⟩
  have hlt := cur_lt cu
  go_wp2_with fail
  refine (l4Lists_any g zs _ cu).mono ?_
  rintro e w2 ⟨v, ys, rfl, hl, ho, cu, g2⟩
  have hsz := g2.size
  replace hb := below_blk hb g2 hg hb.size
  clear g2
  go_wp2_with fail
  refine (l1Below_any g zs 32 _ cu (by omega)).mono ?_
  rintro e w3 ⟨x, rfl, -, -, cu, g2⟩
  have ho2 := ownS_far ho g2 hlt
  replace hb := below_blk hb g2 hg hb.size
  clear g2
  go_wp2
  go_ret2
  exact ⟨_, ys, _, rfl, hl, OwnS.mono (L := itLay) ho2 (by omega), hb⟩

set_option maxHeartbeats 800000 in
set_option maxRecDepth 100000 in
theorem drawItemsOk_any (A : Option Addr) (cap : Nat) (zs : List Int) (w : World) (h : RdI .u8 w A zs.length cap zs) (hz : ∀ z ∈ zs, 0 ≤ z ∧ z ≤ 255) (hn : zs.length ≤ 1048576) :
    Calls Tryd.prog 13 #[.slice A zs.length cap] w (DrawnList 11 w) := by
  obtain ⟨i0, hi, hz0, hz1, hz2⟩ := info_parts Tryd.infoItem
  have HZ2 := Lib.hid hz2
  clear hz2
  go_enter Tryd.func13, Tryd.ntmps13
  go_wp2_with fail
  refine (l1New_any A cap zs _ h hz hn).mono ?_
  rintro e w1 ⟨g, rfl, cu, hb, hg⟩
  have hlt := cur_lt cu
  clear h hz
  go_wp2_with fail
  refine (l4Lists_any g zs _ cu).mono ?_
  rintro e w2 ⟨v, ys, rfl, hl, ho, cu, G⟩
  obtain ⟨a', c', rfl, hr⟩ := OwnS.rd ho
  have HO := Lib.hid ho
  have HG := Lib.hid G
  clear ho G hr
  go_wp2_with fail
  refine (l1Once_any g zs 4 _ cu (by omega)).mono ?_
  rintro e w3 ⟨b, rfl, cu, g2⟩
  replace HO := Lib.hid (ownS_far HO.out g2 hlt)
  replace HG := Lib.hid (grown_trans HG.out g2)
  clear g2
  cases b with
  | true =>
    go_wp2_with fail
    refine (l4Any_any g zs _ cu).mono ?_
    rintro e w4 ⟨y, rfl, cu, g2⟩
    replace HO := Lib.hid (ownS_far HO.out g2 hlt)
    replace HG := Lib.hid (grown_trans HG.out g2)
    clear g2
    have hsz := HG.out.size
    have hs1 := hb.size
    go_wp2_with (at_builtin; refine append_src rfl (.tmp 11) (.tmp 14) 24 rfl w1.heap.size 30 i0 _ 5 40 Tryd.underlying24 hi hz0 hz1 HZ2.out rfl (by decide) (.slice a' ys.length c') ys.length (ys.flatMap itLay.cells) rfl (World.ownsRow.alloc HO.out _) (some ⟨w4.heap.size, 0, none⟩) 1 1 (itLay.cells y) rfl rfl (fun h => by cases h) ?_ (itLay.one _) ?_ ?_ ?_ ?_)
    case refine_1 =>
      intro p hp
      cases hp
      exact World.news_of_block (cs := #[.int .i64 y.id, .int .i64 y.x0, .int .i64 y.y0, .int .i64 y.x1, .int .i64 y.y1]) (t := 30) (fr := (0, 0)) (heap_alloc_new w4 _)
    case refine_2 => unfold maxLen; omega
    case refine_3 => omega
    case refine_4 => simp; omega
    intro v' w5 hown2 hgrow2
    have HG3 := Lib.hid (grown_own HG.out (World.grownBy_alloc w4 _ none) hgrow2 (fun j hj => (HO.out.lt j hj).1))
    have HO3 := Lib.hid hown2
    clear hown2 hgrow2
    go_wp2
    go_ret
    exact ⟨_, ys ++ [y], rfl, by simp; omega, OwnS.mono (L := itLay) (ownS_snoc HO3.out) hs1, below_blk hb HG3.out hg hb.size⟩
  | false =>
    go_wp2
    go_ret
    exact ⟨_, ys, rfl, by omega, OwnS.mono (L := itLay) HO.out hb.size, below_blk hb HG.out hg hb.size⟩

set_option maxHeartbeats 800000 in
set_option maxRecDepth 100000 in
theorem drawSameItems_any (A : Option Addr) (cap : Nat) (zs : List Int) (w : World) (h : RdI .u8 w A zs.length cap zs) (hz : ∀ z ∈ zs, 0 ≤ z ∧ z ≤ 255) (hn : zs.length ≤ 1048576) :
    Calls Tryd.prog 14 #[.slice A zs.length cap] w (DrawnLists 10 w) := by
  obtain ⟨i0, hi, hz0, hz1, hz2⟩ := info_parts Tryd.infoItem
  have HZ2 := Lib.hid hz2
  clear hz2
  go_enter Tryd.func14, Tryd.ntmps14
  go_wp2_with fail
  refine (l1New_any A cap zs _ h hz hn).mono ?_
  rintro e w1 ⟨g, rfl, cu, hb, hg⟩
  have hlt := cur_lt cu
  clear h hz
  go_wp2_with fail
  refine (l4Lists_any g zs _ cu).mono ?_
  rintro e w2 ⟨v, ys, rfl, hl, ho, cu, G⟩
  obtain ⟨a', c', rfl, hr⟩ := OwnS.rd ho
  have HO := Lib.hid ho
  have HG := Lib.hid G
  clear ho G hr
  go_wp2_with fail
  refine (l1Once_any g zs 2 _ cu (by omega)).mono ?_
  rintro e w3 ⟨b, rfl, cu, g2⟩
  replace HO := Lib.hid (ownS_far HO.out g2 hlt)
  replace HG := Lib.hid (grown_trans HG.out g2)
  clear g2
  have hsz := HG.out.size
  have hs1 := hb.size
  cases b with
  | true =>
    have HN := Lib.hid (own_nil w3 30 5 w3.heap.size w3.heap.size rfl (Nat.le_refl _))
    have HD := Lib.hid ((rdS_owns HO.out).alloc (.cells #[] 30))
    go_wp2_with (at_builtin; refine append_src rfl (.tmp 13) (.tmp 14) 24 rfl w3.heap.size 30 i0 _ 5 40 Tryd.underlying24 hi hz0 hz1 HZ2.out rfl (by decide) (.slice (some ⟨w3.heap.size, 0, none⟩) 0 0) 0 [] rfl HN.out a' ys.length c' (ys.flatMap itLay.cells) rfl HD.out.len HD.out.nil HD.out.news (flat_one itLay _) ?_ ?_ ?_ ?_)
    case refine_1 => unfold maxLen; omega
    case refine_2 => omega
    case refine_3 => simp
    intro v' w5 hown2 hgrow2
    have HG3 := Lib.hid (grown_own HG.out (World.grownBy_alloc w3 _ none) hgrow2 (fun j hj => by simp [Value.ownBlock] at hj; omega))
    have HO3 := Lib.hid (OwnS.keptApart (OwnS.below HO.out (new_below w3 (.cells #[] 30))) hgrow2 (fun j hj => by have := (HO.out.lt j hj).2; simp [Value.ownBlock]; omega))
    have HO4 : Hid (OwnS itLay 30 w5 w3.heap.size v' ys) := by show w5.ownsRow _ _ 5 _ _ _; simpa using hown2
    clear hown2 hgrow2
    go_wp2
    go_ret2
    exact ⟨_, _, ys, ys, rfl, hl, hl, OwnS.mono (L := itLay) HO3.out hs1, OwnS.mono (L := itLay) HO4.out (by omega), below_blk hb HG3.out hg hb.size⟩
  | false =>
    go_wp2_with fail
    refine (l4Lists_any g zs _ cu).mono ?_
    rintro e w4 ⟨u, xs, rfl, hl2, ho2, cu, g2⟩
    replace HO := Lib.hid (ownS_far HO.out g2 hlt)
    replace HG := Lib.hid (grown_trans HG.out g2)
    have HO4 := Lib.hid ho2
    clear g2 ho2
    go_wp2
    go_ret2
    exact ⟨_, _, ys, xs, rfl, hl, hl2, OwnS.mono (L := itLay) HO.out hs1, OwnS.mono (L := itLay) HO4.out (by omega), below_blk hb HG.out hg hb.size⟩
end Go.Proofs.YtgjbngfcllanmaaDoor
