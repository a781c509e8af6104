/- What the law of joins draws: a few rectangles in new memory. -/
import Derived.Test.YtdpkodemmfaglaaDrawBoxes
import Derived.Test.YtdpkodemmfaglaaBoxS
import Derived.Deep.AppendLies
namespace Go.Proofs.Ytdpkodemmfaglaa
open Go.RowKit

def AnyB (x : Bx) : Prop := Any4 x.x0 x.y0 x.x1 x.y1
/-- A slice of a few rectangles, drawn. -/
def DrawnBoxes (w : World) (e : Ending) (w' : World) : Prop :=
  ∃ v ys, e = .returned v ∧ ys.length ≤ 4 ∧ OwnS bxLay 25 w' w.heap.size v ys ∧ Below w.heap.size w w'

set_option maxHeartbeats 800000 in
theorem drawJoinAll_any (A : Option Addr) (cap : Nat) (zs : List Int) (w : World) (h : RdI .u8 w A zs.length cap zs) (hz : ∀ z ∈ zs, 0 ≤ z ∧ z ≤ 255) (hn : zs.length ≤ 1048576) :
    Calls Try.prog 31 #[.slice A zs.length cap] w (DrawnBoxes w) := by
  obtain ⟨i0, hi, hz0, hz1, hz2⟩ := info_parts Try.infoBox
  have HZ2 := Lib.hid hz2
  have HR := Lib.hid h
  have HZ := Lib.hid hz
  clear h hz hz2
  go_enter Try.func31, Try.ntmps31
  go_wp2_with fail
  refine (l1New_any A cap zs _ HR.out HZ.out hn).mono ?_
  rintro e w1 ⟨g, rfl, cu, hb, hg⟩
  have hO := Lib.hid (World.ownsRow_lit w1 (base := w1.heap.size) (e := 25) (size := 4) #[] 0 (Nat.le_refl _) (by simp [maxLen]) rfl)
  have hgw := cur_lt cu
  go_wp2_with fail
  refine (l1Below_any g zs 5 _ (cur_alloc cu _) (by omega)).mono ?_
  rintro e w2 ⟨x, rfl, x0, x1, cu, G⟩
  simp at x1
  have hO2 := Lib.hid (hO.out.kept G (.inr (by simp [Value.ownBlock]; omega)))
  replace G := Lib.hid (grown_trans (World.grownBy_alloc w1 _ (some g)) G)
  clear hO
  go_wp2
  go_loopw [4, 5] (fun v i wr => ∃ (t : Int) (ys : List Bx), 0 ≤ t ∧ i = .int .i64 t ∧ (ys.length : Int) + t ≤ 4 ∧ wr.ownsRow w1.heap.size 25 4 v ys.length (ys.flatMap bxLay.cells) ∧ Cur g zs wr ∧ w1.grownBy wr (some g))
    (fun _ i _ => (intOf i).toNat)
  case atStart => exact ⟨x, [], x0, rfl, by simp; omega, hO2.out, cu, G.out⟩
  case round =>
    obtain ⟨t, ys, ht, rfl, hl, ho, hc, hgr⟩ := hrel
    obtain ⟨a', c', hv⟩ := owns_shape ho
    subst hv
    have HO := Lib.hid ho
    have HG := Lib.hid hgr
    have hsz := hgr.size
    clear ho hgr hO2 G
    by_cases hlt : 0 < t
    · go_wp2_with fail
      refine (l2Any_any g zs _ hc).mono ?_
      rintro e w3 ⟨b0, b1, b2, b3, rfl, -, c3, g3⟩
      have hne : (Value.slice a' ys.length c').ownBlock = none ∨ (Value.slice a' ys.length c').ownBlock ≠ some g := by
        cases hv : (Value.slice a' ys.length c').ownBlock with
        | none => exact .inl rfl
        | some j => exact .inr fun e => by have := (HO.out.lt j hv).1; simp at e; omega
      have HO1 := Lib.hid (HO.out.kept g3 hne)
      have HG1 := Lib.hid (grown_trans HG.out g3)
      have hsz1 := g3.size
      clear g3 hc
      go_wp2_with (at_builtin; refine append_src rfl (.tmp 15) (.tmp 18) 34 rfl w1.heap.size 25 i0 _ 4 32 Try.underlying34 hi hz0 hz1 HZ2.out rfl (by decide) (.slice a' ys.length c') ys.length (ys.flatMap bxLay.cells) rfl (HO1.out.alloc _) (some ⟨w3.heap.size, 0, none⟩) 1 1 (bxLay.cells ⟨b0, b1, b2, b3⟩) rfl rfl (fun h => by cases h) ?_ (bxLay.one _) ?_ ?_ ?_ ?_)
      case refine_1 =>
        intro p hp
        cases hp
        exact World.news_of_block (cs := #[.int .i64 b0, .int .i64 b1, .int .i64 b2, .int .i64 b3]) (t := 25) (fr := (0, 0)) (heap_alloc_new w3 _)
      case refine_2 => unfold maxLen; omega
      case refine_3 => omega
      case refine_4 => simp; omega
      intro v' w4 hown2 hgrow2
      have hrow : ∀ j, (Value.slice a' ys.length c').ownBlock = some j → g < j := fun j hj => by have := (HO1.out.lt j hj).1; omega
      have HC2 := Lib.hid (cur_kept (cur_kept c3 (World.grownBy_alloc w3 _ none) (fun k hk => by cases hk)) hgrow2 hrow)
      have HG2 := Lib.hid (grown_own HG1.out (World.grownBy_alloc w3 _ none) hgrow2 (fun j hj => (HO1.out.lt j hj).1))
      have HO2 := Lib.hid hown2
      clear hown2 hgrow2
      go_wp2
      go_roundw
      case rel =>
        refine ⟨t - 1, ys ++ [⟨b0, b1, b2, b3⟩], by omega, rfl, by simp; omega, ?_, HC2.out, HG2.out⟩
        rw [List.length_append, List.flatMap_append]
        simpa using HO2.out
      case measure => simp [intOf]; omega
    · go_wp2
      go_ret
      refine ⟨_, ys, rfl, by omega, ?_, below_blk hb HG.out hg hb.size⟩
      exact OwnS.mono (L := bxLay) HO.out hb.size
end Go.Proofs.Ytdpkodemmfaglaa
