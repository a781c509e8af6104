/- The exact law of LeafOf. -/
import Derived.Test.YtckdkijhkgicnaaNodeC
import Derived.Test.YtckdkijhkgicnaaApart
import Derived.Test.YtckdkijhkgicnaaEntryM
import Derived.Test.YtckdkijhkgicnaaItemM
namespace Go.Proofs.Ytckdkijhkgicnaa
open Go.RowKit

set_option maxHeartbeats 3200000 in
set_option maxRecDepth 100000 in
theorem exLeafOf_walk (C : CLeafOf 28) (a : Option Addr) (n cap : Nat) (xs : List It) (w : World) (h : RdS itLay w a n cap xs) :
    Calls Try.prog 9 #[.slice a n cap] w fun e w' => e = .returned (.bool true) ∧ Below w.heap.size w w' := by
  have hln := h.1.1
  subst hln
  have hm : xs.length ≤ maxLen := Nat.le_trans h.1.2.1 h.1.2.2.1
  have HR := Lib.hid h
  have B := Below.refl w.heap.size w
  replace C := Lib.hid C
  clear h
  by_cases hn : xs.length ≤ 1048576
  · have hif : (if (1048576 : Int) - xs.length < 0 then (-1 : Int) else 1048576 - xs.length) = 1048576 - xs.length := by rw [if_neg (by omega)]
    go_enter Try.func9, Try.ntmps9
    go_wp2_with fail
    refine (szItemS_any a _ cap 1048576 _ hm (by omega)).mono ?_
    rintro e w1 ⟨rfl, rfl⟩
    rw [hif]
    clear hif
    go_wp2_with fail
    refine (toItemS_any a _ cap xs _ (HR.out.below B) (by omega)).mono ?_
    rintro e w2 ⟨v2, rfl, o2, b2⟩
    obtain ⟨a2, c2, rfl, -⟩ := o2.rd
    have m2 : ∀ g, (Value.slice a2 xs.length c2).ownBlock = some g → w.heap.size ≤ g := fun g hg => by have := (World.ownsRow.lt o2 g hg).1; have := B.size; omega
    replace B := B.trans (b2.mono B.size)
    clear b2
    go_wp2_with fail
    refine (sLeafOf_any a2 _ c2 xs _ (rdS_owns o2) (by omega)).mono ?_
    rintro e w3 ⟨v3, rfl, o3, b3⟩
    obtain ⟨a3, c3, rfl, -⟩ := o3.rd
    have do2o3 := ownS_apart o2 o3 (Nat.le_refl _)
    have m3 : ∀ g, (Value.slice a3 xs.length c3).ownBlock = some g → w.heap.size ≤ g := fun g hg => by have := (World.ownsRow.lt o3 g hg).1; have := B.size; omega
    replace o2 := o2.below b3
    replace B := B.trans (b3.mono B.size)
    clear b3
    clear o2
    have n3W : ∀ g, (Value.slice a3 xs.length c3).ownBlock = some g → g ≠ w3.heap.size := fun g hg => by have := (World.ownsRow.lt o3 g hg).2; omega
    have bb := new_below w3 (.cells #[.bool true, .slice a3 xs.length c3] 26)
    replace o3 := o3.below bb
    replace B := B.trans (bb.mono B.size)
    clear bb
    have KW := (blk_new w3 #[.bool true, .slice a3 xs.length c3] 26).1
    have hW : w3.heap.size < (w3.alloc (.cells #[.bool true, .slice a3 xs.length c3] 26)).heap.size := by simp
    go_wp2_with fail
    refine (toItemS_any a _ cap xs _ (HR.out.below B) (by omega)).mono ?_
    rintro e w4 ⟨v4, rfl, o4, b4⟩
    obtain ⟨a4, c4, rfl, -⟩ := o4.rd
    have do3o4 := ownS_apart o3 o4 (Nat.le_refl _)
    have n4W : ∀ g, (Value.slice a4 xs.length c4).ownBlock = some g → g ≠ w3.heap.size := fun g hg => by have := (World.ownsRow.lt o4 g hg).1; have := hW; omega
    have m4 : ∀ g, (Value.slice a4 xs.length c4).ownBlock = some g → w.heap.size ≤ g := fun g hg => by have := (World.ownsRow.lt o4 g hg).1; have := B.size; omega
    replace o3 := o3.below b4
    replace KW := keepc b4 hW KW
    replace hW := Nat.lt_of_lt_of_le hW b4.size
    replace B := B.trans (b4.mono B.size)
    clear b4
    go_wp2_with fail
    refine (C.out a4 _ c4 xs _ (rdS_owns o4) (by omega)).mono ?_
    rintro e w5 ⟨v5, rfl, o5, b5⟩
    obtain ⟨a5, c5, rfl, -⟩ := o5.rd
    have do3o5 := ownS_apart o3 o5 (Nat.le_refl _)
    have do4o5 := ownS_apart o4 o5 (Nat.le_refl _)
    have n5W : ∀ g, (Value.slice a5 xs.length c5).ownBlock = some g → g ≠ w3.heap.size := fun g hg => by have := (World.ownsRow.lt o5 g hg).1; have := hW; omega
    have m5 : ∀ g, (Value.slice a5 xs.length c5).ownBlock = some g → w.heap.size ≤ g := fun g hg => by have := (World.ownsRow.lt o5 g hg).1; have := B.size; omega
    replace o3 := o3.below b5
    replace o4 := o4.below b5
    replace KW := keepc b5 hW KW
    replace hW := Nat.lt_of_lt_of_le hW b5.size
    replace B := B.trans (b5.mono B.size)
    clear b5
    have n3G : ∀ g, (Value.slice a3 xs.length c3).ownBlock = some g → g ≠ w5.heap.size := fun g hg => by have := (World.ownsRow.lt o3 g hg).2; omega
    have n4G : ∀ g, (Value.slice a4 xs.length c4).ownBlock = some g → g ≠ w5.heap.size := fun g hg => by have := (World.ownsRow.lt o4 g hg).2; omega
    have n5G : ∀ g, (Value.slice a5 xs.length c5).ownBlock = some g → g ≠ w5.heap.size := fun g hg => by have := (World.ownsRow.lt o5 g hg).2; omega
    have bb := new_below w5 (.cells #[.bool true, .slice a5 xs.length c5] 26)
    replace o3 := o3.below bb
    replace o4 := o4.below bb
    replace o5 := o5.below bb
    replace KW := keepc bb hW KW
    replace hW := Nat.lt_of_lt_of_le hW bb.size
    replace B := B.trans (bb.mono B.size)
    clear bb
    have KG := (blk_new w5 #[.bool true, .slice a5 xs.length c5] 26).1
    have hG : w5.heap.size < (w5.alloc (.cells #[.bool true, .slice a5 xs.length c5] 26)).heap.size := by simp
    go_wp2_with fail
    refine (eqNode_same true a5 a3 _ c5 c3 xs _ (rdS_owns o5) (rdS_owns o3) (by omega)).mono ?_
    rintro e w6 ⟨rfl, b6⟩
    replace o3 := o3.below b6
    replace o4 := o4.below b6
    replace o5 := o5.below b6
    replace KW := keepc b6 hW KW
    replace hW := Nat.lt_of_lt_of_le hW b6.size
    replace KG := keepc b6 hG KG
    replace hG := Nat.lt_of_lt_of_le hG b6.size
    replace B := B.trans (b6.mono B.size)
    clear b6
    go_wp2_with fail
    refine (toItemS_any a _ cap xs _ (HR.out.below B) (by omega)).mono ?_
    rintro e w7 ⟨v7, rfl, o7, b7⟩
    obtain ⟨a7, c7, rfl, -⟩ := o7.rd
    have do3o7 := ownS_apart o3 o7 (Nat.le_refl _)
    have do4o7 := ownS_apart o4 o7 (Nat.le_refl _)
    have do5o7 := ownS_apart o5 o7 (Nat.le_refl _)
    have n7W : ∀ g, (Value.slice a7 xs.length c7).ownBlock = some g → g ≠ w3.heap.size := fun g hg => by have := (World.ownsRow.lt o7 g hg).1; have := hW; omega
    have n7G : ∀ g, (Value.slice a7 xs.length c7).ownBlock = some g → g ≠ w5.heap.size := fun g hg => by have := (World.ownsRow.lt o7 g hg).1; have := hG; omega
    have m7 : ∀ g, (Value.slice a7 xs.length c7).ownBlock = some g → w.heap.size ≤ g := fun g hg => by have := (World.ownsRow.lt o7 g hg).1; have := B.size; omega
    replace o3 := o3.below b7
    replace o4 := o4.below b7
    replace o5 := o5.below b7
    replace KW := keepc b7 hW KW
    replace hW := Nat.lt_of_lt_of_le hW b7.size
    replace KG := keepc b7 hG KG
    replace hG := Nat.lt_of_lt_of_le hG b7.size
    replace B := B.trans (b7.mono B.size)
    clear b7
    go_wp2_with fail
    refine (eqItemS_same a4 a7 _ c4 c7 xs _ (rdS_owns o4) (rdS_owns o7) (by omega)).mono ?_
    rintro e w8 ⟨rfl, b8⟩
    replace o3 := o3.below b8
    replace o4 := o4.below b8
    replace o5 := o5.below b8
    replace o7 := o7.below b8
    replace KW := keepc b8 hW KW
    replace hW := Nat.lt_of_lt_of_le hW b8.size
    replace KG := keepc b8 hG KG
    replace hG := Nat.lt_of_lt_of_le hG b8.size
    replace B := B.trans (b8.mono B.size)
    clear b8
    clear o7
    go_wp2_with fail
    refine (markItemS_any a4 _ c4 xs 1 _ _ o4 rfl (by omega) (by omega) (by omega)).mono ?_
    rintro e w9 ⟨rfl, p9, g9⟩
    replace B := B.grown g9 B.size (fun g hg => m4 g hg)
    replace o3 := o3.keptApart g9 do3o4
    replace o5 := o5.keptApart g9 do4o5.symm
    replace KW := fun j => (cell_of_heap (g9.block _ hW (fun e => n4W _ e.symm rfl)) j).trans (KW j)
    replace hW := Nat.lt_of_lt_of_le hW g9.size
    replace KG := fun j => (cell_of_heap (g9.block _ hG (fun e => n4G _ e.symm rfl)) j).trans (KG j)
    replace hG := Nat.lt_of_lt_of_le hG g9.size
    have r4 := rdS_owns' (L := itLay) p9 (markedI_len _ _)
    clear o4 p9 g9
    clear r4
    go_wp2_with fail
    refine (eqNode_same true a5 a3 _ c5 c3 xs _ (rdS_owns o5) (rdS_owns o3) (by omega)).mono ?_
    rintro e w10 ⟨rfl, b10⟩
    replace o3 := o3.below b10
    replace o5 := o5.below b10
    replace KW := keepc b10 hW KW
    replace hW := Nat.lt_of_lt_of_le hW b10.size
    replace KG := keepc b10 hG KG
    replace hG := Nat.lt_of_lt_of_le hG b10.size
    replace B := B.trans (b10.mono B.size)
    clear b10
    go_wp2_with fail
    refine (markNode_any true a5 _ c5 xs 1 _ _ o5 rfl (by omega) (by omega) (by omega)).mono ?_
    rintro e w11 ⟨rfl, p11, g11⟩
    replace B := B.grown g11 B.size (fun g hg => m5 g hg)
    replace o3 := o3.keptApart g11 do3o5
    replace KW := fun j => (cell_of_heap (g11.block _ hW (fun e => n5W _ e.symm rfl)) j).trans (KW j)
    replace hW := Nat.lt_of_lt_of_le hW g11.size
    replace KG := fun j => (cell_of_heap (g11.block _ hG (fun e => n5G _ e.symm rfl)) j).trans (KG j)
    replace hG := Nat.lt_of_lt_of_le hG g11.size
    have r5 := rdS_owns' (L := itLay) p11 (markedI_len _ _)
    clear o5 p11 g11
    go_wp2_with fail
    refine (heldNode_any true a5 _ c5 1 _ r5 (by omega) (by omega) (by omega)).mono ?_
    rintro e w12 ⟨rfl, b12⟩
    replace o3 := o3.below b12
    replace r5 := r5.below b12
    replace KW := keepc b12 hW KW
    replace hW := Nat.lt_of_lt_of_le hW b12.size
    replace KG := keepc b12 hG KG
    replace hG := Nat.lt_of_lt_of_le hG b12.size
    replace B := B.trans (b12.mono B.size)
    clear b12
    go_wp2_with fail
    refine (toItemS_any a _ cap xs _ (HR.out.below B) (by omega)).mono ?_
    rintro e w13 ⟨v13, rfl, o13, b13⟩
    obtain ⟨a13, c13, rfl, -⟩ := o13.rd
    have do3o13 := ownS_apart o3 o13 (Nat.le_refl _)
    have n13W : ∀ g, (Value.slice a13 xs.length c13).ownBlock = some g → g ≠ w3.heap.size := fun g hg => by have := (World.ownsRow.lt o13 g hg).1; have := hW; omega
    have n13G : ∀ g, (Value.slice a13 xs.length c13).ownBlock = some g → g ≠ w5.heap.size := fun g hg => by have := (World.ownsRow.lt o13 g hg).1; have := hG; omega
    have m13 : ∀ g, (Value.slice a13 xs.length c13).ownBlock = some g → w.heap.size ≤ g := fun g hg => by have := (World.ownsRow.lt o13 g hg).1; have := B.size; omega
    replace o3 := o3.below b13
    replace r5 := r5.below b13
    replace KW := keepc b13 hW KW
    replace hW := Nat.lt_of_lt_of_le hW b13.size
    replace KG := keepc b13 hG KG
    replace hG := Nat.lt_of_lt_of_le hG b13.size
    replace B := B.trans (b13.mono B.size)
    clear b13
    go_wp2_with fail
    refine (C.out a13 _ c13 xs _ (rdS_owns o13) (by omega)).mono ?_
    rintro e w14 ⟨v14, rfl, o14, b14⟩
    obtain ⟨a14, c14, rfl, -⟩ := o14.rd
    have do3o14 := ownS_apart o3 o14 (Nat.le_refl _)
    have do13o14 := ownS_apart o13 o14 (Nat.le_refl _)
    have n14W : ∀ g, (Value.slice a14 xs.length c14).ownBlock = some g → g ≠ w3.heap.size := fun g hg => by have := (World.ownsRow.lt o14 g hg).1; have := hW; omega
    have n14G : ∀ g, (Value.slice a14 xs.length c14).ownBlock = some g → g ≠ w5.heap.size := fun g hg => by have := (World.ownsRow.lt o14 g hg).1; have := hG; omega
    have m14 : ∀ g, (Value.slice a14 xs.length c14).ownBlock = some g → w.heap.size ≤ g := fun g hg => by have := (World.ownsRow.lt o14 g hg).1; have := B.size; omega
    replace o3 := o3.below b14
    replace o13 := o13.below b14
    replace r5 := r5.below b14
    replace KW := keepc b14 hW KW
    replace hW := Nat.lt_of_lt_of_le hW b14.size
    replace KG := keepc b14 hG KG
    replace hG := Nat.lt_of_lt_of_le hG b14.size
    replace B := B.trans (b14.mono B.size)
    clear b14
    clear o13
    have n3Z : ∀ g, (Value.slice a3 xs.length c3).ownBlock = some g → g ≠ w14.heap.size := fun g hg => by have := (World.ownsRow.lt o3 g hg).2; omega
    have n14Z : ∀ g, (Value.slice a14 xs.length c14).ownBlock = some g → g ≠ w14.heap.size := fun g hg => by have := (World.ownsRow.lt o14 g hg).2; omega
    have bb := new_below w14 (.cells #[.bool true, .slice a14 xs.length c14] 26)
    replace o3 := o3.below bb
    replace o14 := o14.below bb
    replace r5 := r5.below bb
    replace KW := keepc bb hW KW
    replace hW := Nat.lt_of_lt_of_le hW bb.size
    replace KG := keepc bb hG KG
    replace hG := Nat.lt_of_lt_of_le hG bb.size
    replace B := B.trans (bb.mono B.size)
    clear bb
    have KZ := (blk_new w14 #[.bool true, .slice a14 xs.length c14] 26).1
    have hZ : w14.heap.size < (w14.alloc (.cells #[.bool true, .slice a14 xs.length c14] 26)).heap.size := by simp
    go_wp2_with fail
    refine (eqNode_same true a14 a3 _ c14 c3 xs _ (rdS_owns o14) (rdS_owns o3) (by omega)).mono ?_
    rintro e w15 ⟨rfl, b15⟩
    replace o3 := o3.below b15
    replace o14 := o14.below b15
    replace r5 := r5.below b15
    replace KW := keepc b15 hW KW
    replace hW := Nat.lt_of_lt_of_le hW b15.size
    replace KG := keepc b15 hG KG
    replace hG := Nat.lt_of_lt_of_le hG b15.size
    replace KZ := keepc b15 hZ KZ
    replace hZ := Nat.lt_of_lt_of_le hZ b15.size
    replace B := B.trans (b15.mono B.size)
    clear b15
    go_wp2_with fail
    refine (heldNode_any true a5 _ c5 1 _ r5 (by omega) (by omega) (by omega)).mono ?_
    rintro e w16 ⟨rfl, b16⟩
    replace o3 := o3.below b16
    replace o14 := o14.below b16
    replace r5 := r5.below b16
    replace KW := keepc b16 hW KW
    replace hW := Nat.lt_of_lt_of_le hW b16.size
    replace KG := keepc b16 hG KG
    replace hG := Nat.lt_of_lt_of_le hG b16.size
    replace KZ := keepc b16 hZ KZ
    replace hZ := Nat.lt_of_lt_of_le hZ b16.size
    replace B := B.trans (b16.mono B.size)
    clear b16
    go_wp2
    go_ret
    exact ⟨rfl, B⟩
  · have hif : (if (1048576 : Int) - xs.length < 0 then (-1 : Int) else 1048576 - xs.length) = -1 := by rw [if_pos (by omega)]
    go_enter Try.func9, Try.ntmps9
    go_wp2_with fail
    refine (szItemS_any a _ cap 1048576 _ hm (by omega)).mono ?_
    rintro e w0 ⟨rfl, rfl⟩
    rw [hif]
    clear hif
    go_wp2
    go_ret
    exact ⟨rfl, B⟩
end Go.Proofs.Ytckdkijhkgicnaa
