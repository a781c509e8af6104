/- The exact law of GetNode. -/
import Derived.Test.YtfgmjegemlkkkaaFormC
import Derived.Test.YtfgmjegemlkkkaaBytes
import Derived.Test.YtfgmjegemlkkkaaEntryM
import Derived.Test.YtfgmjegemlkkkaaNode
namespace Go.Proofs.Ytfgmjegemlkkkaa
open Go.RowKit

set_option maxHeartbeats 3200000 in
set_option maxRecDepth 100000 in
theorem exGetNode_core (bs : List Int) (ok lf : Bool) (l : List It) (hl : l.length ≤ 4) (CS : (∀ (a : Option Addr) (n c : Nat) (w : World), RdI .u8 w a n c bs → n ≤ 100000000 → Calls Try.prog 13 #[.slice a n c] w (RetN3 ok lf l w))) (C : (∀ (a : Option Addr) (n c : Nat) (w : World), RdI .u8 w a n c bs → n ≤ 100000000 → Calls Try.prog 11 #[.slice a n c] w (RetN3 ok lf l w))) (a : Option Addr) (n c : Nat) (w : World) (h : RdI .u8 w a n c bs) :
    Calls Try.prog 5 #[.slice a n c] w fun e w' => e = .returned (.bool true) ∧ Below w.heap.size w w' := by
  have hln := h.1.1
  subst hln
  have hnc := h.1.2.1
  have hm := h.1.2.2.1
  unfold maxLen at hm
  have HR := Lib.hid h
  have B := Below.refl w.heap.size w
  replace C := Lib.hid C
  replace CS := Lib.hid CS
  clear h
  by_cases hn : bs.length ≤ 1048576
  · have hif : ¬ (bs.length : Int) > 1048576 := by omega
    go_enter Try.func5, Try.ntmps5
    go_wp2_with fail
    refine (toByteS_any a _ c bs _ (HR.out.below B) (by omega)).mono ?_
    rintro e w1 ⟨v1, rfl, o1, b1⟩
    obtain ⟨a1, c1, rfl, -⟩ := o1.rd
    have m1 : ∀ g, (Value.slice a1 bs.length c1).ownBlock = some g → w.heap.size ≤ g := fun g hg => by have := (World.ownsRow.lt o1 g hg).1; have := B.size; omega
    replace B := B.trans (b1.mono B.size)
    clear b1
    go_wp2_with fail
    refine (CS.out a1 _ c1 _ (rdB o1) (by omega)).mono ?_
    rintro e w2 ⟨v2, rfl, o2, b2⟩
    obtain ⟨a2, c2, rfl, -⟩ := o2.rd
    have do1o2 := rows_apart o1 o2 (Nat.le_refl _)
    have m2 : ∀ g, (Value.slice a2 l.length c2).ownBlock = some g → w.heap.size ≤ g := fun g hg => by have := (World.ownsRow.lt o2 g hg).1; have := B.size; omega
    replace o1 := o1.below b2
    replace B := B.trans (b2.mono B.size)
    clear b2
    clear o1
    have n2W : ∀ g, (Value.slice a2 l.length c2).ownBlock = some g → g ≠ w2.heap.size := fun g hg => by have := (World.ownsRow.lt o2 g hg).2; omega
    have bb := new_below w2 (.cells #[.bool lf, .slice a2 l.length c2] 26)
    replace o2 := o2.below bb
    replace B := B.trans (bb.mono B.size)
    clear bb
    have KW := (blk_new w2 #[.bool lf, .slice a2 l.length c2] 26).1
    have hW : w2.heap.size < (w2.alloc (.cells #[.bool lf, .slice a2 l.length c2] 26)).heap.size := by simp
    go_wp2_with fail
    refine (toByteS_any a _ c bs _ (HR.out.below B) (by omega)).mono ?_
    rintro e w3 ⟨v3, rfl, o3, b3⟩
    obtain ⟨a3, c3, rfl, -⟩ := o3.rd
    have do2o3 := rows_apart o2 o3 (Nat.le_refl _)
    have n3W : ∀ g, (Value.slice a3 bs.length c3).ownBlock = some g → g ≠ w2.heap.size := fun g hg => by have := (World.ownsRow.lt o3 g hg).1; have := hW; omega
    have m3 : ∀ g, (Value.slice a3 bs.length c3).ownBlock = some g → w.heap.size ≤ g := fun g hg => by have := (World.ownsRow.lt o3 g hg).1; have := B.size; omega
    replace o2 := o2.below b3
    replace KW := keepc b3 hW KW
    replace hW := Nat.lt_of_lt_of_le hW b3.size
    replace B := B.trans (b3.mono B.size)
    clear b3
    go_wp2_with fail
    refine (C.out a3 _ c3 _ (rdB o3) (by omega)).mono ?_
    rintro e w4 ⟨v4, rfl, o4, b4⟩
    obtain ⟨a4, c4, rfl, -⟩ := o4.rd
    have do2o4 := rows_apart o2 o4 (Nat.le_refl _)
    have do3o4 := rows_apart o3 o4 (Nat.le_refl _)
    have n4W : ∀ g, (Value.slice a4 l.length c4).ownBlock = some g → g ≠ w2.heap.size := fun g hg => by have := (World.ownsRow.lt o4 g hg).1; have := hW; omega
    have m4 : ∀ g, (Value.slice a4 l.length c4).ownBlock = some g → w.heap.size ≤ g := fun g hg => by have := (World.ownsRow.lt o4 g hg).1; have := B.size; omega
    replace o2 := o2.below b4
    replace o3 := o3.below b4
    replace KW := keepc b4 hW KW
    replace hW := Nat.lt_of_lt_of_le hW b4.size
    replace B := B.trans (b4.mono B.size)
    clear b4
    have n2G : ∀ g, (Value.slice a2 l.length c2).ownBlock = some g → g ≠ w4.heap.size := fun g hg => by have := (World.ownsRow.lt o2 g hg).2; omega
    have n3G : ∀ g, (Value.slice a3 bs.length c3).ownBlock = some g → g ≠ w4.heap.size := fun g hg => by have := (World.ownsRow.lt o3 g hg).2; omega
    have n4G : ∀ g, (Value.slice a4 l.length c4).ownBlock = some g → g ≠ w4.heap.size := fun g hg => by have := (World.ownsRow.lt o4 g hg).2; omega
    have bb := new_below w4 (.cells #[.bool lf, .slice a4 l.length c4] 26)
    replace o2 := o2.below bb
    replace o3 := o3.below bb
    replace o4 := o4.below bb
    replace KW := keepc bb hW KW
    replace hW := Nat.lt_of_lt_of_le hW bb.size
    replace B := B.trans (bb.mono B.size)
    clear bb
    have KG := (blk_new w4 #[.bool lf, .slice a4 l.length c4] 26).1
    have hG : w4.heap.size < (w4.alloc (.cells #[.bool lf, .slice a4 l.length c4] 26)).heap.size := by simp
    have kW0 := KW 0
    have kW1 := KW 1
    simp at kW0 kW1
    have kG0 := KG 0
    have kG1 := KG 1
    simp at kG0 kG1
    go_wp2_with fail
    refine (eqNode_same lf a4 a2 _ c4 c2 l _ (rdS_owns o4) (rdS_owns o2) (by omega)).mono ?_
    rintro e w5 ⟨rfl, b5⟩
    replace o2 := o2.below b5
    replace o3 := o3.below b5
    replace o4 := o4.below b5
    replace KW := keepc b5 hW KW
    replace hW := Nat.lt_of_lt_of_le hW b5.size
    replace KG := keepc b5 hG KG
    replace hG := Nat.lt_of_lt_of_le hG b5.size
    replace B := B.trans (b5.mono B.size)
    clear b5
    clear kW0 kW1
    clear kG0 kG1
    go_wp2_with fail
    refine (toByteS_any a _ c bs _ (HR.out.below B) (by omega)).mono ?_
    rintro e w6 ⟨v6, rfl, o6, b6⟩
    obtain ⟨a6, c6, rfl, -⟩ := o6.rd
    have do2o6 := rows_apart o2 o6 (Nat.le_refl _)
    have do3o6 := rows_apart o3 o6 (Nat.le_refl _)
    have do4o6 := rows_apart o4 o6 (Nat.le_refl _)
    have n6W : ∀ g, (Value.slice a6 bs.length c6).ownBlock = some g → g ≠ w2.heap.size := fun g hg => by have := (World.ownsRow.lt o6 g hg).1; have := hW; omega
    have n6G : ∀ g, (Value.slice a6 bs.length c6).ownBlock = some g → g ≠ w4.heap.size := fun g hg => by have := (World.ownsRow.lt o6 g hg).1; have := hG; omega
    have m6 : ∀ g, (Value.slice a6 bs.length c6).ownBlock = some g → w.heap.size ≤ g := fun g hg => by have := (World.ownsRow.lt o6 g hg).1; have := B.size; omega
    replace o2 := o2.below b6
    replace o3 := o3.below b6
    replace o4 := o4.below b6
    replace KW := keepc b6 hW KW
    replace hW := Nat.lt_of_lt_of_le hW b6.size
    replace KG := keepc b6 hG KG
    replace hG := Nat.lt_of_lt_of_le hG b6.size
    replace B := B.trans (b6.mono B.size)
    clear b6
    go_wp2_with fail
    refine (eqByteS_same a3 a6 bs.length c3 c6 bs _ (rdB o3) (rdB o6) (by omega)).mono ?_
    rintro e w7 ⟨rfl, b7⟩
    replace o2 := o2.below b7
    replace o3 := o3.below b7
    replace o4 := o4.below b7
    replace o6 := o6.below b7
    replace KW := keepc b7 hW KW
    replace hW := Nat.lt_of_lt_of_le hW b7.size
    replace KG := keepc b7 hG KG
    replace hG := Nat.lt_of_lt_of_le hG b7.size
    replace B := B.trans (b7.mono B.size)
    clear b7
    clear o6
    go_wp2_with fail
    refine (markByteS_any a3 bs.length c3 bs 1 _ _ o3 rfl (by omega) (by omega) (by omega)).mono ?_
    rintro e w8 ⟨rfl, p8, g8⟩
    replace B := B.grown g8 B.size (fun g hg => m3 g hg)
    replace o2 := o2.keptApart g8 do2o3
    replace o4 := o4.keptApart g8 do3o4.symm
    replace KW := fun j => (cell_of_heap (g8.block _ hW (fun e => n3W _ e.symm rfl)) j).trans (KW j)
    replace hW := Nat.lt_of_lt_of_le hW g8.size
    replace KG := fun j => (cell_of_heap (g8.block _ hG (fun e => n3G _ e.symm rfl)) j).trans (KG j)
    replace hG := Nat.lt_of_lt_of_le hG g8.size
    have r3 := rdI_owns p8 (gen_length _ _)
    clear o3 p8 g8
    clear r3
    have kW0 := KW 0
    have kW1 := KW 1
    simp at kW0 kW1
    have kG0 := KG 0
    have kG1 := KG 1
    simp at kG0 kG1
    go_wp2_with fail
    refine (eqNode_same lf a4 a2 _ c4 c2 l _ (rdS_owns o4) (rdS_owns o2) (by omega)).mono ?_
    rintro e w9 ⟨rfl, b9⟩
    replace o2 := o2.below b9
    replace o4 := o4.below b9
    replace KW := keepc b9 hW KW
    replace hW := Nat.lt_of_lt_of_le hW b9.size
    replace KG := keepc b9 hG KG
    replace hG := Nat.lt_of_lt_of_le hG b9.size
    replace B := B.trans (b9.mono B.size)
    clear b9
    clear kW0 kW1
    clear kG0 kG1
    have kG0 := KG 0
    have kG1 := KG 1
    simp at kG0 kG1
    go_wp2_with fail
    refine (markNode_any lf a4 _ c4 l 1 _ _ o4 rfl (by omega) (by omega) (by omega)).mono ?_
    rintro e w10 ⟨rfl, p10, g10⟩
    replace B := B.grown g10 B.size (fun g hg => m4 g hg)
    replace o2 := o2.keptApart g10 do2o4
    replace KW := fun j => (cell_of_heap (g10.block _ hW (fun e => n4W _ e.symm rfl)) j).trans (KW j)
    replace hW := Nat.lt_of_lt_of_le hW g10.size
    replace KG := fun j => (cell_of_heap (g10.block _ hG (fun e => n4G _ e.symm rfl)) j).trans (KG j)
    replace hG := Nat.lt_of_lt_of_le hG g10.size
    have r4 := rdS_owns' (L := itLay) p10 (markedI_len _ _)
    clear o4 p10 g10
    clear kG0 kG1
    have kG0 := KG 0
    have kG1 := KG 1
    simp at kG0 kG1
    go_wp2_with fail
    refine (heldNode_any lf a4 _ c4 1 _ r4 (by omega) (by omega) (by omega)).mono ?_
    rintro e w11 ⟨rfl, b11⟩
    replace o2 := o2.below b11
    replace r4 := r4.below b11
    replace KW := keepc b11 hW KW
    replace hW := Nat.lt_of_lt_of_le hW b11.size
    replace KG := keepc b11 hG KG
    replace hG := Nat.lt_of_lt_of_le hG b11.size
    replace B := B.trans (b11.mono B.size)
    clear b11
    clear kG0 kG1
    go_wp2_with fail
    refine (toByteS_any a _ c bs _ (HR.out.below B) (by omega)).mono ?_
    rintro e w12 ⟨v12, rfl, o12, b12⟩
    obtain ⟨a12, c12, rfl, -⟩ := o12.rd
    have do2o12 := rows_apart o2 o12 (Nat.le_refl _)
    have n12W : ∀ g, (Value.slice a12 bs.length c12).ownBlock = some g → g ≠ w2.heap.size := fun g hg => by have := (World.ownsRow.lt o12 g hg).1; have := hW; omega
    have n12G : ∀ g, (Value.slice a12 bs.length c12).ownBlock = some g → g ≠ w4.heap.size := fun g hg => by have := (World.ownsRow.lt o12 g hg).1; have := hG; omega
    have m12 : ∀ g, (Value.slice a12 bs.length c12).ownBlock = some g → w.heap.size ≤ g := fun g hg => by have := (World.ownsRow.lt o12 g hg).1; have := B.size; omega
    replace o2 := o2.below b12
    replace r4 := r4.below b12
    replace KW := keepc b12 hW KW
    replace hW := Nat.lt_of_lt_of_le hW b12.size
    replace KG := keepc b12 hG KG
    replace hG := Nat.lt_of_lt_of_le hG b12.size
    replace B := B.trans (b12.mono B.size)
    clear b12
    go_wp2_with fail
    refine (C.out a12 _ c12 _ (rdB o12) (by omega)).mono ?_
    rintro e w13 ⟨v13, rfl, o13, b13⟩
    obtain ⟨a13, c13, rfl, -⟩ := o13.rd
    have do2o13 := rows_apart o2 o13 (Nat.le_refl _)
    have do12o13 := rows_apart o12 o13 (Nat.le_refl _)
    have n13W : ∀ g, (Value.slice a13 l.length c13).ownBlock = some g → g ≠ w2.heap.size := fun g hg => by have := (World.ownsRow.lt o13 g hg).1; have := hW; omega
    have n13G : ∀ g, (Value.slice a13 l.length c13).ownBlock = some g → g ≠ w4.heap.size := fun g hg => by have := (World.ownsRow.lt o13 g hg).1; have := hG; omega
    have m13 : ∀ g, (Value.slice a13 l.length c13).ownBlock = some g → w.heap.size ≤ g := fun g hg => by have := (World.ownsRow.lt o13 g hg).1; have := B.size; omega
    replace o2 := o2.below b13
    replace o12 := o12.below b13
    replace r4 := r4.below b13
    replace KW := keepc b13 hW KW
    replace hW := Nat.lt_of_lt_of_le hW b13.size
    replace KG := keepc b13 hG KG
    replace hG := Nat.lt_of_lt_of_le hG b13.size
    replace B := B.trans (b13.mono B.size)
    clear b13
    clear o12
    have n2Z : ∀ g, (Value.slice a2 l.length c2).ownBlock = some g → g ≠ w13.heap.size := fun g hg => by have := (World.ownsRow.lt o2 g hg).2; omega
    have n13Z : ∀ g, (Value.slice a13 l.length c13).ownBlock = some g → g ≠ w13.heap.size := fun g hg => by have := (World.ownsRow.lt o13 g hg).2; omega
    have bb := new_below w13 (.cells #[.bool lf, .slice a13 l.length c13] 26)
    replace o2 := o2.below bb
    replace o13 := o13.below bb
    replace r4 := r4.below bb
    replace KW := keepc bb hW KW
    replace hW := Nat.lt_of_lt_of_le hW bb.size
    replace KG := keepc bb hG KG
    replace hG := Nat.lt_of_lt_of_le hG bb.size
    replace B := B.trans (bb.mono B.size)
    clear bb
    have KZ := (blk_new w13 #[.bool lf, .slice a13 l.length c13] 26).1
    have hZ : w13.heap.size < (w13.alloc (.cells #[.bool lf, .slice a13 l.length c13] 26)).heap.size := by simp
    have kW0 := KW 0
    have kW1 := KW 1
    simp at kW0 kW1
    have kZ0 := KZ 0
    have kZ1 := KZ 1
    simp at kZ0 kZ1
    go_wp2_with fail
    refine (eqNode_same lf a13 a2 _ c13 c2 l _ (rdS_owns o13) (rdS_owns o2) (by omega)).mono ?_
    rintro e w14 ⟨rfl, b14⟩
    replace o2 := o2.below b14
    replace o13 := o13.below b14
    replace r4 := r4.below b14
    replace KW := keepc b14 hW KW
    replace hW := Nat.lt_of_lt_of_le hW b14.size
    replace KG := keepc b14 hG KG
    replace hG := Nat.lt_of_lt_of_le hG b14.size
    replace KZ := keepc b14 hZ KZ
    replace hZ := Nat.lt_of_lt_of_le hZ b14.size
    replace B := B.trans (b14.mono B.size)
    clear b14
    clear kW0 kW1
    clear kZ0 kZ1
    have kG0 := KG 0
    have kG1 := KG 1
    simp at kG0 kG1
    go_wp2_with fail
    refine (heldNode_any lf a4 _ c4 1 _ r4 (by omega) (by omega) (by omega)).mono ?_
    rintro e w15 ⟨rfl, b15⟩
    replace o2 := o2.below b15
    replace o13 := o13.below b15
    replace r4 := r4.below b15
    replace KW := keepc b15 hW KW
    replace hW := Nat.lt_of_lt_of_le hW b15.size
    replace KG := keepc b15 hG KG
    replace hG := Nat.lt_of_lt_of_le hG b15.size
    replace KZ := keepc b15 hZ KZ
    replace hZ := Nat.lt_of_lt_of_le hZ b15.size
    replace B := B.trans (b15.mono B.size)
    clear b15
    clear kG0 kG1
    go_wp2
    go_ret
    exact ⟨rfl, B⟩
  · have hif : (bs.length : Int) > 1048576 := by omega
    go_enter Try.func5, Try.ntmps5
    go_wp2
    go_ret
    exact ⟨rfl, B⟩

theorem exGetNode_walk (C : CGetNode 11) (a : Option Addr) (n c : Nat) (bs : List Int) (w : World) (h : RdI .u8 w a n c bs) (hz : ∀ j, 0 ≤ bs.getD j 0 ∧ bs.getD j 0 ≤ 255) : Calls Try.prog 5 #[.slice a n c] w fun e w' => e = .returned (.bool true) ∧ Below w.heap.size w w' :=
  exGetNode_core bs (okN bs) (okN bs && leafN bs) (if okN bs then listN bs else []) (listN_len bs) (fun a n c w h hn => sGetNode_any a n c bs w h hz hn) (fun a n c w h hn => C a n c bs w h hz hn) a n c w h
end Go.Proofs.Ytfgmjegemlkkkaa
