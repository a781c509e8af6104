/- The exact law of NodeOk. -/
import Derived.Test.YtckdkijhkgicnaaNodeC
import Derived.Test.YtckdkijhkgicnaaApart
import Derived.Test.YtckdkijhkgicnaaEntryM
import Derived.Test.YtckdkijhkgicnaaItemM
namespace Go.Proofs.Ytckdkijhkgicnaa
open Go.RowKit

set_option maxHeartbeats 3200000 in
set_option maxRecDepth 100000 in
theorem exNodeOk_walk (C : CNodeOk 18) (b : Bool) (a : Option Addr) (n cap : Nat) (xs : List It) (w : World) (h : RdS itLay w a n cap xs) :
    Calls Try.prog 4 #[.agg #[.bool b, .slice a n cap]] w fun e w' => e = .returned (.bool true) ∧ Below w.heap.size w w' := by
  have hln := h.1.1
  subst hln
  have hm : xs.length ≤ maxLen := Nat.le_trans h.1.2.1 h.1.2.2.1
  have HR := Lib.hid h
  have KA := (blk_new w #[.bool b, .slice a xs.length cap] 48).1
  have hA : w.heap.size < (w.alloc (.cells #[.bool b, .slice a xs.length cap] 48)).heap.size := by simp
  have B := new_below w (.cells #[.bool b, .slice a xs.length cap] 48)
  replace C := Lib.hid C
  clear h
  by_cases hn : xs.length ≤ 1048576
  · have hif : (if (1048576 : Int) - xs.length < 0 then (-1 : Int) else 1048576 - xs.length) = 1048576 - xs.length := by rw [if_neg (by omega)]
    go_enter Try.func4, Try.ntmps4
    go_wp2_with fail
    refine (szNode_any b a _ cap 1048576 _ hm (by omega)).mono ?_
    rintro e w1 ⟨rfl, b1⟩
    rw [hif]
    clear hif
    replace KA := keepc b1 hA KA
    replace hA := Nat.lt_of_lt_of_le hA b1.size
    replace B := B.trans (b1.mono B.size)
    clear b1
    go_wp2_with fail
    refine (toNode_any b a _ cap xs _ (HR.out.below B) (by omega)).mono ?_
    rintro e w2 ⟨v2, rfl, o2, b2⟩
    obtain ⟨a2, c2, rfl, -⟩ := o2.rd
    have n2A : ∀ g, (Value.slice a2 xs.length c2).ownBlock = some g → g ≠ w.heap.size := fun g hg => by have := (World.ownsRow.lt o2 g hg).1; have := hA; omega
    have m2 : ∀ g, (Value.slice a2 xs.length c2).ownBlock = some g → w.heap.size ≤ g := fun g hg => by have := (World.ownsRow.lt o2 g hg).1; have := B.size; omega
    replace KA := keepc b2 hA KA
    replace hA := Nat.lt_of_lt_of_le hA b2.size
    replace B := B.trans (b2.mono B.size)
    clear b2
    go_wp2_with fail
    refine (sNodeOk_any b a2 _ c2 xs _ (rdS_owns o2)).mono ?_
    rintro e w3 ⟨rfl, b3⟩
    replace o2 := o2.below b3
    replace KA := keepc b3 hA KA
    replace hA := Nat.lt_of_lt_of_le hA b3.size
    replace B := B.trans (b3.mono B.size)
    clear b3
    clear o2
    go_wp2_with fail
    refine (toNode_any b a _ cap xs _ (HR.out.below B) (by omega)).mono ?_
    rintro e w4 ⟨v4, rfl, o4, b4⟩
    obtain ⟨a4, c4, rfl, -⟩ := o4.rd
    have n4A : ∀ g, (Value.slice a4 xs.length c4).ownBlock = some g → g ≠ w.heap.size := fun g hg => by have := (World.ownsRow.lt o4 g hg).1; have := hA; omega
    have m4 : ∀ g, (Value.slice a4 xs.length c4).ownBlock = some g → w.heap.size ≤ g := fun g hg => by have := (World.ownsRow.lt o4 g hg).1; have := B.size; omega
    replace KA := keepc b4 hA KA
    replace hA := Nat.lt_of_lt_of_le hA b4.size
    replace B := B.trans (b4.mono B.size)
    clear b4
    have n4X : ∀ g, (Value.slice a4 xs.length c4).ownBlock = some g → g ≠ w4.heap.size := fun g hg => by have := (World.ownsRow.lt o4 g hg).2; omega
    have bb := new_below w4 (.cells #[.bool b, .slice a4 xs.length c4] 26)
    replace o4 := o4.below bb
    replace KA := keepc bb hA KA
    replace hA := Nat.lt_of_lt_of_le hA bb.size
    replace B := B.trans (bb.mono B.size)
    clear bb
    have KX := (blk_new w4 #[.bool b, .slice a4 xs.length c4] 26).1
    have hX : w4.heap.size < (w4.alloc (.cells #[.bool b, .slice a4 xs.length c4] 26)).heap.size := by simp
    go_wp2_with fail
    refine (C.out b a4 _ c4 xs _ (rdS_owns o4)).mono ?_
    rintro e w5 ⟨rfl, b5⟩
    replace o4 := o4.below b5
    replace KA := keepc b5 hA KA
    replace hA := Nat.lt_of_lt_of_le hA b5.size
    replace KX := keepc b5 hX KX
    replace hX := Nat.lt_of_lt_of_le hX b5.size
    replace B := B.trans (b5.mono B.size)
    clear b5
    have KS : ∀ V, Below w5.heap.size w5 V → (fun V => Below w5.heap.size w5 V ∧ V.cell? ⟨w4.heap.size, 0, none⟩ = some (.bool b) ∧ V.cell? ⟨w4.heap.size, 1, none⟩ = some (.slice a4 xs.length c4) ∧ V.cell? ⟨w.heap.size, 0, none⟩ = some (.bool b) ∧ V.cell? ⟨w.heap.size, 1, none⟩ = some (.slice a xs.length cap)) V := fun V b => ⟨b, (b.cell (p := ⟨w4.heap.size, 0, none⟩) hX).trans (KX 0), (b.cell (p := ⟨w4.heap.size, 1, none⟩) hX).trans (KX 1), (b.cell (p := ⟨w.heap.size, 0, none⟩) hA).trans (KA 0), (b.cell (p := ⟨w.heap.size, 1, none⟩) hA).trans (KA 1)⟩
    have KT : ∀ V V' : World, Below w5.heap.size w5 V → Below V.heap.size V V' → Below w5.heap.size w5 V' := fun V V' b b' => b.trans (b'.mono b.size)
    replace KS := Lib.hid KS
    replace KT := Lib.hid KT
    replace o4 := Lib.hid o4
    replace KA := Lib.hid KA
    replace KX := Lib.hid KX
    have BH := Lib.hid B
    go_wp2_with fail
    go_region_held3 (fun V => Below w5.heap.size w5 V ∧ V.cell? ⟨w4.heap.size, 0, none⟩ = some (.bool b) ∧ V.cell? ⟨w4.heap.size, 1, none⟩ = some (.slice a4 xs.length c4) ∧ V.cell? ⟨w.heap.size, 0, none⟩ = some (.bool b) ∧ V.cell? ⟨w.heap.size, 1, none⟩ = some (.slice a xs.length cap))
      (first | exact KS.out _ (drew_below _) | exact KS.out _ (KT.out _ _ (And.left (by assumption)) hb))
      (first
        | (go_at_call 32; (with_reducible refine (toNode_any b a _ cap xs _ (HR.out.below (BH.out.trans (Below.mono (by first | exact drew_below _ | exact And.left (by assumption)) BH.out.size))) (by omega)).mono ?_); rintro e wt ⟨vt, rfl, ot, hb⟩; obtain ⟨at', ct, rfl, rt⟩ := ot.rd)
        | (go_at_call 33; (with_reducible refine (eqNode_same b a4 at' _ c4 ct xs _ ((rdS_owns o4.out).below (by first | exact drew_below _ | exact And.left (by assumption))) rt (by omega)).mono ?_); rintro e wu ⟨rfl, hb⟩))
    rename_i hS
    have bS := hS.1
    clear hS KS KT BH
    replace o4 := o4.out
    replace KA := KA.out
    replace KX := KX.out
    replace o4 := o4.below bS
    replace KA := keepc bS hA KA
    replace hA := Nat.lt_of_lt_of_le hA bS.size
    replace KX := keepc bS hX KX
    replace hX := Nat.lt_of_lt_of_le hX bS.size
    replace B := B.trans (bS.mono B.size)
    clear bS
    go_wp2
    go_ret
    exact ⟨rfl, B⟩
  · have hif : (if (1048576 : Int) - xs.length < 0 then (-1 : Int) else 1048576 - xs.length) = -1 := by rw [if_pos (by omega)]
    go_enter Try.func4, Try.ntmps4
    go_wp2_with fail
    refine (szNode_any b a _ cap 1048576 _ hm (by omega)).mono ?_
    rintro e w0 ⟨rfl, b0⟩
    rw [hif]
    clear hif
    replace B := B.trans (b0.mono B.size)
    clear b0 KA hA
    go_wp2
    go_ret
    exact ⟨rfl, B⟩
end Go.Proofs.Ytckdkijhkgicnaa
