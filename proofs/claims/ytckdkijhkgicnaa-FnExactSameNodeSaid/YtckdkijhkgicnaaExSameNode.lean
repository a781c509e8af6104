/- The exact law of SameNode. -/
import Derived.Test.YtckdkijhkgicnaaNodeC
import Derived.Test.YtckdkijhkgicnaaApart
import Derived.Test.YtckdkijhkgicnaaEntryM
import Derived.Test.YtckdkijhkgicnaaItemM
namespace Go.Proofs.Ytckdkijhkgicnaa
open Go.RowKit

set_option maxHeartbeats 3200000 in
set_option maxRecDepth 100000 in
theorem exSameNode_walk (C : CSameNode 20) (b d : Bool) (a a' : Option Addr) (n n' cap cap' : Nat) (xs ys : List It) (w : World) (h : RdS itLay w a n cap xs) (h' : RdS itLay w a' n' cap' ys) :
    Calls Try.prog 5 #[.agg #[.bool b, .slice a n cap], .agg #[.bool d, .slice a' n' cap']] w fun e w' => e = .returned (.bool true) ∧ Below w.heap.size w w' := by
  have hln := h.1.1
  subst hln
  have hln' := h'.1.1
  subst hln'
  have hm : xs.length ≤ maxLen := Nat.le_trans h.1.2.1 h.1.2.2.1
  have hm' : ys.length ≤ maxLen := Nat.le_trans h'.1.2.1 h'.1.2.2.1
  have HR := Lib.hid h
  have HR' := Lib.hid h'
  have KA := (blk_alloc (.cells #[.bool d, .slice a' ys.length cap'] 48) (by simp) _ _ (blk_new w #[.bool b, .slice a xs.length cap] 48)).1
  have hA : w.heap.size < ((w.alloc (.cells #[.bool b, .slice a xs.length cap] 48)).alloc (.cells #[.bool d, .slice a' ys.length cap'] 48)).heap.size := by simp; omega
  have KB := (blk_new1 w (.cells #[.bool b, .slice a xs.length cap] 48) #[.bool d, .slice a' ys.length cap'] 48).1
  have hB : w.heap.size + 1 < ((w.alloc (.cells #[.bool b, .slice a xs.length cap] 48)).alloc (.cells #[.bool d, .slice a' ys.length cap'] 48)).heap.size := by simp
  have B := (new_below w (.cells #[.bool b, .slice a xs.length cap] 48)).alloc (by simp) (.cells #[.bool d, .slice a' ys.length cap'] 48)
  replace C := Lib.hid C
  obtain ⟨z, hz⟩ : ∃ z, z = ((b == d) && sameV xs ys) := ⟨_, rfl⟩
  have HZ := Lib.hid hz
  clear h h' hz
  by_cases hn : xs.length ≤ 1048576
  · have hif : (if (1048576 : Int) - xs.length < 0 then (-1 : Int) else 1048576 - xs.length) = 1048576 - xs.length := by rw [if_neg (by omega)]
    go_enter Try.func5, Try.ntmps5
    go_wp2_with fail
    refine (szNode_any b a _ cap 1048576 _ hm (by omega)).mono ?_
    rintro e w1 ⟨rfl, b1⟩
    rw [hif]
    clear hif
    replace KA := keepc b1 hA KA
    replace hA := Nat.lt_of_lt_of_le hA b1.size
    replace KB := keepc b1 hB KB
    replace hB := Nat.lt_of_lt_of_le hB b1.size
    replace B := B.trans (b1.mono B.size)
    clear b1
    by_cases hn2 : xs.length + ys.length ≤ 1048576
    · have hif : (if (1048576 : Int) - xs.length - ys.length < 0 then (-1 : Int) else 1048576 - xs.length - ys.length) = 1048576 - xs.length - ys.length := by rw [if_neg (by omega)]
      go_wp2_with fail
      refine (szNode_any d a' _ cap' (1048576 - xs.length) _ hm' (by omega)).mono ?_
      rintro e w2 ⟨rfl, b2⟩
      rw [hif]
      clear hif
      replace KA := keepc b2 hA KA
      replace hA := Nat.lt_of_lt_of_le hA b2.size
      replace KB := keepc b2 hB KB
      replace hB := Nat.lt_of_lt_of_le hB b2.size
      replace B := B.trans (b2.mono B.size)
      clear b2
      have KS : ∀ V, Below w2.heap.size w2 V → (fun V => Below w2.heap.size w2 V ∧ V.cell? ⟨w.heap.size, 0, none⟩ = some (.bool b) ∧ V.cell? ⟨w.heap.size, 1, none⟩ = some (.slice a xs.length cap) ∧ V.cell? ⟨w.heap.size + 1, 0, none⟩ = some (.bool d) ∧ V.cell? ⟨w.heap.size + 1, 1, none⟩ = some (.slice a' ys.length cap')) V := fun V b => ⟨b, (b.cell (p := ⟨w.heap.size, 0, none⟩) hA).trans (KA 0), (b.cell (p := ⟨w.heap.size, 1, none⟩) hA).trans (KA 1), (b.cell (p := ⟨w.heap.size + 1, 0, none⟩) hB).trans (KB 0), (b.cell (p := ⟨w.heap.size + 1, 1, none⟩) hB).trans (KB 1)⟩
      have KT : ∀ V V' : World, Below w2.heap.size w2 V → Below V.heap.size V V' → Below w2.heap.size w2 V' := fun V V' b b' => b.trans (b'.mono b.size)
      replace KS := Lib.hid KS
      replace KT := Lib.hid KT
      replace KA := Lib.hid KA
      replace KB := Lib.hid KB
      have BH := Lib.hid B
      go_wp2_with fail
      go_region_held3 (fun V => Below w2.heap.size w2 V ∧ V.cell? ⟨w.heap.size, 0, none⟩ = some (.bool b) ∧ V.cell? ⟨w.heap.size, 1, none⟩ = some (.slice a xs.length cap) ∧ V.cell? ⟨w.heap.size + 1, 0, none⟩ = some (.bool d) ∧ V.cell? ⟨w.heap.size + 1, 1, none⟩ = some (.slice a' ys.length cap'))
        (first | exact KS.out _ (drew_below _) | exact KS.out _ (KT.out _ _ (And.left (by assumption)) hb))
        (first
          | (go_at_call 32; (with_reducible refine (toNode_any b a _ cap xs _ (HR.out.below (BH.out.trans (Below.mono (by first | exact drew_below _ | exact And.left (by assumption)) BH.out.size))) (by omega)).mono ?_); rintro e woa ⟨va, rfl, oa, hb⟩; obtain ⟨aa, ca, rfl, ra⟩ := oa.rd; try replace rb := rb.below hb)
          | (go_at_call 32; (with_reducible refine (toNode_any d a' _ cap' ys _ (HR'.out.below (BH.out.trans (Below.mono (by first | exact drew_below _ | exact And.left (by assumption)) BH.out.size))) (by omega)).mono ?_); rintro e wob ⟨vb, rfl, ob, hb⟩; obtain ⟨ab, cb, rfl, rb⟩ := ob.rd; try replace ra := ra.below hb)
          | (go_at_call 21; (with_reducible refine (sSameNode_any b d aa ab _ _ ca cb xs ys _ ra rb).mono ?_); rintro e wc ⟨rfl, hb⟩))
      all_goals
        rename_i hS
        have bS := hS.1
        clear hS KS KT BH
        replace KA := KA.out
        replace KB := KB.out
        replace KA := keepc bS hA KA
        replace hA := Nat.lt_of_lt_of_le hA bS.size
        replace KB := keepc bS hB KB
        replace hB := Nat.lt_of_lt_of_le hB bS.size
        replace B := B.trans (bS.mono B.size)
        clear bS
        generalize hwv : wc = w3 at *
        clear hwv
        go_wp2_with fail
        refine (toNode_any b a _ cap xs _ (HR.out.below B) (by omega)).mono ?_
        rintro e w4 ⟨v4, rfl, o4, b4⟩
        obtain ⟨a4, c4, rfl, -⟩ := o4.rd
        have n4A : ∀ g, (Value.slice a4 xs.length c4).ownBlock = some g → g ≠ w.heap.size := fun g hg => by have := (World.ownsRow.lt o4 g hg).1; have := hA; omega
        have n4B : ∀ g, (Value.slice a4 xs.length c4).ownBlock = some g → g ≠ w.heap.size + 1 := fun g hg => by have := (World.ownsRow.lt o4 g hg).1; have := hB; omega
        have m4 : ∀ g, (Value.slice a4 xs.length c4).ownBlock = some g → w.heap.size ≤ g := fun g hg => by have := (World.ownsRow.lt o4 g hg).1; have := B.size; omega
        replace KA := keepc b4 hA KA
        replace hA := Nat.lt_of_lt_of_le hA b4.size
        replace KB := keepc b4 hB KB
        replace hB := Nat.lt_of_lt_of_le hB b4.size
        replace B := B.trans (b4.mono B.size)
        clear b4
        have n4X : ∀ g, (Value.slice a4 xs.length c4).ownBlock = some g → g ≠ w4.heap.size := fun g hg => by have := (World.ownsRow.lt o4 g hg).2; omega
        have bb := new_below w4 (.cells #[.bool b, .slice a4 xs.length c4] 26)
        replace o4 := o4.below bb
        replace KA := keepc bb hA KA
        replace hA := Nat.lt_of_lt_of_le hA bb.size
        replace KB := keepc bb hB KB
        replace hB := Nat.lt_of_lt_of_le hB bb.size
        replace B := B.trans (bb.mono B.size)
        clear bb
        have KX := (blk_new w4 #[.bool b, .slice a4 xs.length c4] 26).1
        have hX : w4.heap.size < (w4.alloc (.cells #[.bool b, .slice a4 xs.length c4] 26)).heap.size := by simp
        go_wp2_with fail
        refine (toNode_any d a' _ cap' ys _ (HR'.out.below B) (by omega)).mono ?_
        rintro e w5 ⟨v5, rfl, o5, b5⟩
        obtain ⟨a5, c5, rfl, -⟩ := o5.rd
        have do4o5 := ownS_apart o4 o5 (Nat.le_refl _)
        have n5A : ∀ g, (Value.slice a5 ys.length c5).ownBlock = some g → g ≠ w.heap.size := fun g hg => by have := (World.ownsRow.lt o5 g hg).1; have := hA; omega
        have n5B : ∀ g, (Value.slice a5 ys.length c5).ownBlock = some g → g ≠ w.heap.size + 1 := fun g hg => by have := (World.ownsRow.lt o5 g hg).1; have := hB; omega
        have n5X : ∀ g, (Value.slice a5 ys.length c5).ownBlock = some g → g ≠ w4.heap.size := fun g hg => by have := (World.ownsRow.lt o5 g hg).1; have := hX; omega
        have m5 : ∀ g, (Value.slice a5 ys.length c5).ownBlock = some g → w.heap.size ≤ g := fun g hg => by have := (World.ownsRow.lt o5 g hg).1; have := B.size; omega
        replace o4 := o4.below b5
        replace KA := keepc b5 hA KA
        replace hA := Nat.lt_of_lt_of_le hA b5.size
        replace KB := keepc b5 hB KB
        replace hB := Nat.lt_of_lt_of_le hB b5.size
        replace KX := keepc b5 hX KX
        replace hX := Nat.lt_of_lt_of_le hX b5.size
        replace B := B.trans (b5.mono B.size)
        clear b5
        have n4Y : ∀ g, (Value.slice a4 xs.length c4).ownBlock = some g → g ≠ w5.heap.size := fun g hg => by have := (World.ownsRow.lt o4 g hg).2; omega
        have n5Y : ∀ g, (Value.slice a5 ys.length c5).ownBlock = some g → g ≠ w5.heap.size := fun g hg => by have := (World.ownsRow.lt o5 g hg).2; omega
        have bb := new_below w5 (.cells #[.bool d, .slice a5 ys.length c5] 26)
        replace o4 := o4.below bb
        replace o5 := o5.below bb
        replace KA := keepc bb hA KA
        replace hA := Nat.lt_of_lt_of_le hA bb.size
        replace KB := keepc bb hB KB
        replace hB := Nat.lt_of_lt_of_le hB bb.size
        replace KX := keepc bb hX KX
        replace hX := Nat.lt_of_lt_of_le hX bb.size
        replace B := B.trans (bb.mono B.size)
        clear bb
        have KY := (blk_new w5 #[.bool d, .slice a5 ys.length c5] 26).1
        have hY : w5.heap.size < (w5.alloc (.cells #[.bool d, .slice a5 ys.length c5] 26)).heap.size := by simp
        go_wp2_with fail
        refine (C.out b d a4 a5 _ _ c4 c5 xs ys _ (rdS_owns o4) (rdS_owns o5)).mono ?_
        rintro e w6 ⟨rfl, b6⟩
        replace o4 := o4.below b6
        replace o5 := o5.below b6
        replace KA := keepc b6 hA KA
        replace hA := Nat.lt_of_lt_of_le hA b6.size
        replace KB := keepc b6 hB KB
        replace hB := Nat.lt_of_lt_of_le hB b6.size
        replace KX := keepc b6 hX KX
        replace hX := Nat.lt_of_lt_of_le hX b6.size
        replace KY := keepc b6 hY KY
        replace hY := Nat.lt_of_lt_of_le hY b6.size
        replace B := B.trans (b6.mono B.size)
        clear b6
        have KS : ∀ V, Below w6.heap.size w6 V → (fun V => Below w6.heap.size w6 V ∧ V.cell? ⟨w4.heap.size, 0, none⟩ = some (.bool b) ∧ V.cell? ⟨w4.heap.size, 1, none⟩ = some (.slice a4 xs.length c4) ∧ V.cell? ⟨w.heap.size, 0, none⟩ = some (.bool b) ∧ V.cell? ⟨w.heap.size, 1, none⟩ = some (.slice a xs.length cap)) V := fun V b => ⟨b, (b.cell (p := ⟨w4.heap.size, 0, none⟩) hX).trans (KX 0), (b.cell (p := ⟨w4.heap.size, 1, none⟩) hX).trans (KX 1), (b.cell (p := ⟨w.heap.size, 0, none⟩) hA).trans (KA 0), (b.cell (p := ⟨w.heap.size, 1, none⟩) hA).trans (KA 1)⟩
        have KT : ∀ V V' : World, Below w6.heap.size w6 V → Below V.heap.size V V' → Below w6.heap.size w6 V' := fun V V' b b' => b.trans (b'.mono b.size)
        replace KS := Lib.hid KS
        replace KT := Lib.hid KT
        replace o4 := Lib.hid o4
        replace o5 := Lib.hid o5
        replace KA := Lib.hid KA
        replace KB := Lib.hid KB
        replace KX := Lib.hid KX
        replace KY := Lib.hid KY
        have BH := Lib.hid B
        go_wp2_with fail
        go_region_held3 (fun V => Below w6.heap.size w6 V ∧ V.cell? ⟨w4.heap.size, 0, none⟩ = some (.bool b) ∧ V.cell? ⟨w4.heap.size, 1, none⟩ = some (.slice a4 xs.length c4) ∧ V.cell? ⟨w.heap.size, 0, none⟩ = some (.bool b) ∧ V.cell? ⟨w.heap.size, 1, none⟩ = some (.slice a xs.length cap))
          (first | exact KS.out _ (drew_below _) | exact KS.out _ (KT.out _ _ (And.left (by assumption)) hb))
          (first
            | (go_at_call 32; (with_reducible refine (toNode_any b a _ cap xs _ (HR.out.below (BH.out.trans (Below.mono (by first | exact drew_below _ | exact And.left (by assumption)) BH.out.size))) (by omega)).mono ?_); rintro e wt ⟨vt, rfl, ot, hb⟩; obtain ⟨at', ct, rfl, rt⟩ := ot.rd)
            | (go_at_call 33; (with_reducible refine (eqNode_same b a4 at' _ c4 ct xs _ ((rdS_owns o4.out).below (by first | exact drew_below _ | exact And.left (by assumption))) rt (by omega)).mono ?_); rintro e wu ⟨rfl, hb⟩))
        rename_i hS
        have bS := hS.1
        clear hS KS KT BH
        replace o4 := o4.out
        replace o5 := o5.out
        replace KA := KA.out
        replace KB := KB.out
        replace KX := KX.out
        replace KY := KY.out
        replace o4 := o4.below bS
        replace o5 := o5.below bS
        replace KA := keepc bS hA KA
        replace hA := Nat.lt_of_lt_of_le hA bS.size
        replace KB := keepc bS hB KB
        replace hB := Nat.lt_of_lt_of_le hB bS.size
        replace KX := keepc bS hX KX
        replace hX := Nat.lt_of_lt_of_le hX bS.size
        replace KY := keepc bS hY KY
        replace hY := Nat.lt_of_lt_of_le hY bS.size
        replace B := B.trans (bS.mono B.size)
        clear bS
        generalize hwv : wu = w7 at *
        clear hwv
        have KS : ∀ V, Below w7.heap.size w7 V → (fun V => Below w7.heap.size w7 V ∧ V.cell? ⟨w5.heap.size, 0, none⟩ = some (.bool d) ∧ V.cell? ⟨w5.heap.size, 1, none⟩ = some (.slice a5 ys.length c5) ∧ V.cell? ⟨w.heap.size + 1, 0, none⟩ = some (.bool d) ∧ V.cell? ⟨w.heap.size + 1, 1, none⟩ = some (.slice a' ys.length cap')) V := fun V b => ⟨b, (b.cell (p := ⟨w5.heap.size, 0, none⟩) hY).trans (KY 0), (b.cell (p := ⟨w5.heap.size, 1, none⟩) hY).trans (KY 1), (b.cell (p := ⟨w.heap.size + 1, 0, none⟩) hB).trans (KB 0), (b.cell (p := ⟨w.heap.size + 1, 1, none⟩) hB).trans (KB 1)⟩
        have KT : ∀ V V' : World, Below w7.heap.size w7 V → Below V.heap.size V V' → Below w7.heap.size w7 V' := fun V V' b b' => b.trans (b'.mono b.size)
        replace KS := Lib.hid KS
        replace KT := Lib.hid KT
        replace o4 := Lib.hid o4
        replace o5 := Lib.hid o5
        replace KA := Lib.hid KA
        replace KB := Lib.hid KB
        replace KX := Lib.hid KX
        replace KY := Lib.hid KY
        have BH := Lib.hid B
        go_wp2_with fail
        go_region_held3 (fun V => Below w7.heap.size w7 V ∧ V.cell? ⟨w5.heap.size, 0, none⟩ = some (.bool d) ∧ V.cell? ⟨w5.heap.size, 1, none⟩ = some (.slice a5 ys.length c5) ∧ V.cell? ⟨w.heap.size + 1, 0, none⟩ = some (.bool d) ∧ V.cell? ⟨w.heap.size + 1, 1, none⟩ = some (.slice a' ys.length cap'))
          (first | exact KS.out _ (drew_below _) | exact KS.out _ (KT.out _ _ (And.left (by assumption)) hb))
          (first
            | (go_at_call 32; (with_reducible refine (toNode_any d a' _ cap' ys _ (HR'.out.below (BH.out.trans (Below.mono (by first | exact drew_below _ | exact And.left (by assumption)) BH.out.size))) (by omega)).mono ?_); rintro e wt ⟨vt, rfl, ot, hb⟩; obtain ⟨at', ct, rfl, rt⟩ := ot.rd)
            | (go_at_call 33; (with_reducible refine (eqNode_same d a5 at' _ c5 ct ys _ ((rdS_owns o5.out).below (by first | exact drew_below _ | exact And.left (by assumption))) rt (by omega)).mono ?_); rintro e wu ⟨rfl, hb⟩))
        rename_i hS
        have bS := hS.1
        clear hS KS KT BH
        replace o4 := o4.out
        replace o5 := o5.out
        replace KA := KA.out
        replace KB := KB.out
        replace KX := KX.out
        replace KY := KY.out
        replace o4 := o4.below bS
        replace o5 := o5.below bS
        replace KA := keepc bS hA KA
        replace hA := Nat.lt_of_lt_of_le hA bS.size
        replace KB := keepc bS hB KB
        replace hB := Nat.lt_of_lt_of_le hB bS.size
        replace KX := keepc bS hX KX
        replace hX := Nat.lt_of_lt_of_le hX bS.size
        replace KY := keepc bS hY KY
        replace hY := Nat.lt_of_lt_of_le hY bS.size
        replace B := B.trans (bS.mono B.size)
        clear bS
        go_wp2
        go_ret
        exact ⟨rfl, B⟩
    · have hif : (if (1048576 : Int) - xs.length - ys.length < 0 then (-1 : Int) else 1048576 - xs.length - ys.length) = -1 := by rw [if_pos (by omega)]
      go_wp2_with fail
      refine (szNode_any d a' _ cap' (1048576 - xs.length) _ hm' (by omega)).mono ?_
      rintro e w2 ⟨rfl, b2⟩
      rw [hif]
      clear hif
      replace B := B.trans (b2.mono B.size)
      clear b2 KA KB hA hB
      go_wp2
      go_ret
      exact ⟨rfl, B⟩
  · have hif : (if (1048576 : Int) - xs.length < 0 then (-1 : Int) else 1048576 - xs.length) = -1 := by rw [if_pos (by omega)]
    go_enter Try.func5, Try.ntmps5
    go_wp2_with fail
    refine (szNode_any b a _ cap 1048576 _ hm (by omega)).mono ?_
    rintro e w0 ⟨rfl, b0⟩
    rw [hif]
    clear hif
    replace B := B.trans (b0.mono B.size)
    clear b0 KA KB hA hB
    go_wp2
    go_ret
    exact ⟨rfl, B⟩
end Go.Proofs.Ytckdkijhkgicnaa
