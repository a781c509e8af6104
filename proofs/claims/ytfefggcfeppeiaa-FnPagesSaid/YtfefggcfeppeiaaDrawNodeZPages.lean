/- The model's draws of nodes. -/
import Derived.Test.YtfefggcfeppeiaaDrawItemsZPages
import Derived.Test.YtfefggcfeppeiaaQPagesd
namespace Go.Proofs.Ytfefggcfeppeiaa
open Go.RowKit

/-- What the draw of a node leaves: some entries in new memory. -/
def DrawnNode (g : Nat) (zs : List Int) (m : Nat) (w : World) (e : Ending) (w' : World) : Prop :=
  ∃ b v ys, e = .returned (.agg #[.bool b, v]) ∧ ys.length ≤ m ∧ OwnS itLay 92 w' w.heap.size v ys ∧ Cur g zs w' ∧ w.grownBy w' (some g)

theorem cur_set' {g : Nat} {zs : List Int} {W : World} (h : Cur g zs W) {b : Nat} (hb : g < b) (j : Nat) (u : Value) : Cur g zs (W.setCell ⟨b, j, none⟩ u) := cur_kept h (grown_set W b j u) (fun k hk => by cases hk; exact hb)

theorem node_end {g : Nat} {zs : List Int} {m : Nat} {w W : World} {b : Bool} {v : Value} {ys : List It} (hlt : g < w.heap.size) (hl : ys.length ≤ m) (HO : OwnS itLay 92 W (w.heap.size + 1) v ys) (CU : Cur g zs W) (HG : w.grownBy W (some g)) :
    DrawnNode g zs m w (.returned (.agg #[.bool b, v])) ((W.setCell ⟨w.heap.size, 0, none⟩ (.bool b)).setCell ⟨w.heap.size, 1, none⟩ v) :=
  ⟨b, v, ys, rfl, hl, OwnS.mono (L := itLay) (ownS_set2 (ownS_set2 HO (by omega) _ _) (by omega) _ _) (by omega), cur_set' (cur_set' CU hlt _ _) hlt _ _, grown_new (grown_new HG (Nat.le_refl _) _ _) (Nat.le_refl _) _ _⟩

set_option maxHeartbeats 1600000 in
set_option maxRecDepth 100000 in
theorem l5Draw_any (g : Nat) (zs : List Int) (w : World) (h : Cur g zs w) :
    Calls Try.prog 62 #[.pointer (some ⟨g, 0, none⟩)] w (DrawnNode g zs 4 w) := by
  have hlt := cur_lt h
  have K := Lib.hid (Loc.new w #[.bool false, .slice none 0 0] 32)
  go_enter Try.func62, Try.ntmps62
  go_wp2_with fail
  refine (l4List_any g zs 4 _ (cur_alloc h _) (by omega)).mono ?_
  rintro e w1 ⟨v, ys, rfl, hl, ho, cu, G⟩
  obtain ⟨a', c', rfl, hr⟩ := OwnS.rd ho
  replace K := Lib.hid (K.out.far G hlt)
  have HG := Lib.hid (grown_trans (World.grownBy_alloc w _ (some g)) G)
  have s1 := G.size
  simp at s1
  clear ho G h
  go_wp2_with fail
  refine (sLeafOf_any a' ys.length c' ys _ hr (by omega)).mono ?_
  rintro e w2 ⟨v2, rfl, o2, b2⟩
  obtain ⟨a2, c2, rfl, -⟩ := OwnS.rd o2
  have HN : Hid (∀ k, (Value.slice a2 ys.length c2).ownBlock = some k → k < w2.heap.size) := fun k hk => (World.ownsRow.lt o2 k hk).2
  have J := Lib.hid (Loc.new w2 #[.bool true, .slice a2 ys.length c2] 32)
  replace K := Lib.hid ((K.out.below b2).alloc (.cells #[.bool true, .slice a2 ys.length c2] 32))
  replace HG := Lib.hid (grown_alloc (grown_trans HG.out (Below.toGrown b2 (some g))) (.cells #[.bool true, .slice a2 ys.length c2] 32))
  have HO := Lib.hid (OwnS.mono (base := w.heap.size + 1) (o2.below (new_below w2 (.cells #[.bool true, .slice a2 ys.length c2] 32))) s1)
  have CU := Lib.hid (cur_alloc (cur_kept cu (Below.toGrown b2 none) (fun k hk => by cases hk)) (.cells #[.bool true, .slice a2 ys.length c2] 32))
  have s2 := b2.size
  clear o2 b2 cu hr
  have N2 : ∀ k, (Value.slice a2 ys.length c2).ownBlock = some k → k < w2.heap.size := fun k hk => HN.out k hk
  have hq : w.heap.size ≠ w2.heap.size := by omega
  have hq2 : w.heap.size < (w2.alloc (.cells #[.bool true, .slice a2 ys.length c2] 32)).heap.size := by simp; omega
  by_cases h0 : ys.length = 0
  · have hz : ¬ ((0 : Int) < (ys.length : Int)) := by omega
    have HX := Lib.hid h0
    obtain ⟨-, k0, f0⟩ := K.out
    obtain ⟨-, j0, e0⟩ := J.out
    clear h0
    go_wp2
    exact bodyPost_ret (v := .agg #[.bool true, .slice a2 ys.length c2]) (by simp [results, Try.results62, go_sem, k0]) rfl (node_end hlt hl HO.out CU.out HG.out)
  · have hz : (0 : Int) < (ys.length : Int) := by omega
    clear h0
    go_wp2_with fail
    refine (l1Once_any g zs 3 _ CU.out (by omega)).mono ?_
    rintro e w3 ⟨bb, rfl, cu, g3⟩
    replace K := Lib.hid (K.out.far g3 hlt)
    replace J := Lib.hid (J.out.far g3 (by omega))
    replace HG := Lib.hid (grown_trans HG.out g3)
    replace HO := Lib.hid (ownS_far HO.out g3 (by omega))
    replace CU := Lib.hid cu
    clear g3 cu hq2
    cases bb with
    | true =>
      have J2 := Lib.hid (J.out.set 0 (.bool false) (by simp))
      have K2 := Lib.hid (K.out.other (p := w2.heap.size) 0 (.bool false) (fun e => hq e.symm))
      have HO2 := Lib.hid (ownS_set HO.out (g := w2.heap.size) (fun hj => by have := N2 _ hj; omega) 0 (.bool false))
      have CU2 := Lib.hid (cur_set' CU.out (b := w2.heap.size) (by omega) 0 (.bool false))
      have HG2 := Lib.hid (grown_new HG.out (b := w2.heap.size) (by omega) 0 (.bool false))
      obtain ⟨-, k0, f0⟩ := K2.out
      obtain ⟨-, j1, e1⟩ := J2.out
      obtain ⟨-, j0, e0⟩ := J.out
      have hi : #[Value.bool true, .slice a2 ys.length c2].setIfInBounds 0 (.bool false) = #[.bool false, .slice a2 ys.length c2] := rfl
      rw [hi] at j1
      clear N2 hi
      go_wp2
      exact bodyPost_ret (v := .agg #[.bool false, .slice a2 ys.length c2]) (by simp [results, Try.results62, go_sem, k0]) rfl (node_end hlt hl HO2.out CU2.out HG2.out)
    | false =>
      obtain ⟨-, k0, f0⟩ := K.out
      obtain ⟨-, j0, e0⟩ := J.out
      clear N2
      go_wp2
      exact bodyPost_ret (v := .agg #[.bool true, .slice a2 ys.length c2]) (by simp [results, Try.results62, go_sem, k0]) rfl (node_end hlt hl HO.out CU.out HG.out)
end Go.Proofs.Ytfefggcfeppeiaa
