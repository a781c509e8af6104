/- The exact law of PutNode. -/
import Derived.Test.YtfgmjegemlkkkaaFormC
import Derived.Test.YtfgmjegemlkkkaaBytes
import Derived.Test.YtfgmjegemlkkkaaEntryM
import Derived.Test.YtfgmjegemlkkkaaNode
namespace Go.Proofs.Ytfgmjegemlkkkaa
open Go.RowKit

set_option maxHeartbeats 3200000 in
set_option maxRecDepth 100000 in
theorem exPutNode_core (b : Bool) (xs : List It) (zs : List Int) (hzl : zs.length ≤ 100000000) (CS : (∀ (a : Option Addr) (n cap : Nat) (w : World), RdS itLay w a n cap xs → n ≤ 1099511627776 → Calls Try.prog 19 #[.agg #[.bool b, .slice a n cap]] w (Fresh8 w zs))) (C : (∀ (a : Option Addr) (n cap : Nat) (w : World), RdS itLay w a n cap xs → n ≤ 1099511627776 → Calls Try.prog 10 #[.agg #[.bool b, .slice a n cap]] w (Fresh8 w zs))) (a : Option Addr) (n cap : Nat) (w : World) (h : RdS itLay w a n cap xs) :
    Calls Try.prog 4 #[.agg #[.bool b, .slice a n cap]] w fun e w' => e = .returned (.bool true) ∧ Below w.heap.size w w' := by
  have hln := h.1.1
  subst hln
  have hm : xs.length ≤ maxLen := Nat.le_trans h.1.2.1 h.1.2.2.1
  have HR := Lib.hid h
  have KA := (blk_new w #[.bool b, .slice a xs.length cap] 47).1
  have hA : w.heap.size < (w.alloc (.cells #[.bool b, .slice a xs.length cap] 47)).heap.size := by simp
  have B := new_below w (.cells #[.bool b, .slice a xs.length cap] 47)
  replace C := Lib.hid C
  replace CS := Lib.hid CS
  clear h
  by_cases hn : xs.length ≤ 1048576
  · have hif : (if (1048576 : Int) - xs.length < 0 then (-1 : Int) else 1048576 - xs.length) = 1048576 - xs.length := by rw [if_neg (by omega)]
    go_enter Try.func4, Try.ntmps4
    go_wp2_with fail
    refine (szNode_any b a _ cap 1048576 _ hm (by omega)).mono ?_
    rintro e w1 ⟨rfl, b1⟩
    rw [hif]
    clear hif
    replace KA := keepc b1 hA KA
    replace hA := Nat.lt_of_lt_of_le hA b1.size
    replace B := B.trans (b1.mono B.size)
    clear b1
    go_wp2_with fail
    refine (toNode_any b a _ cap xs _ (HR.out.below B) (by omega)).mono ?_
    rintro e w2 ⟨v2, rfl, o2, b2⟩
    obtain ⟨a2, c2, rfl, -⟩ := o2.rd
    have n2A : ∀ g, (Value.slice a2 xs.length c2).ownBlock = some g → g ≠ w.heap.size := fun g hg => by have := (World.ownsRow.lt o2 g hg).1; have := hA; omega
    have m2 : ∀ g, (Value.slice a2 xs.length c2).ownBlock = some g → w.heap.size ≤ g := fun g hg => by have := (World.ownsRow.lt o2 g hg).1; have := B.size; omega
    replace KA := keepc b2 hA KA
    replace hA := Nat.lt_of_lt_of_le hA b2.size
    replace B := B.trans (b2.mono B.size)
    clear b2
    go_wp2_with fail
    refine (CS.out a2 _ c2 _ (rdS_owns o2) (by omega)).mono ?_
    rintro e w3 ⟨v3, rfl, o3, b3⟩
    obtain ⟨a3, c3, rfl, -⟩ := o3.rd
    have do2o3 := rows_apart o2 o3 (Nat.le_refl _)
    have n3A : ∀ g, (Value.slice a3 zs.length c3).ownBlock = some g → g ≠ w.heap.size := fun g hg => by have := (World.ownsRow.lt o3 g hg).1; have := hA; omega
    have m3 : ∀ g, (Value.slice a3 zs.length c3).ownBlock = some g → w.heap.size ≤ g := fun g hg => by have := (World.ownsRow.lt o3 g hg).1; have := B.size; omega
    replace o2 := o2.below b3
    replace KA := keepc b3 hA KA
    replace hA := Nat.lt_of_lt_of_le hA b3.size
    replace B := B.trans (b3.mono B.size)
    clear b3
    clear o2
    go_wp2_with fail
    refine (toNode_any b a _ cap xs _ (HR.out.below B) (by omega)).mono ?_
    rintro e w4 ⟨v4, rfl, o4, b4⟩
    obtain ⟨a4, c4, rfl, -⟩ := o4.rd
    have do3o4 := rows_apart o3 o4 (Nat.le_refl _)
    have n4A : ∀ g, (Value.slice a4 xs.length c4).ownBlock = some g → g ≠ w.heap.size := fun g hg => by have := (World.ownsRow.lt o4 g hg).1; have := hA; omega
    have m4 : ∀ g, (Value.slice a4 xs.length c4).ownBlock = some g → w.heap.size ≤ g := fun g hg => by have := (World.ownsRow.lt o4 g hg).1; have := B.size; omega
    replace o3 := o3.below b4
    replace KA := keepc b4 hA KA
    replace hA := Nat.lt_of_lt_of_le hA b4.size
    replace B := B.trans (b4.mono B.size)
    clear b4
    have n3X : ∀ g, (Value.slice a3 zs.length c3).ownBlock = some g → g ≠ w4.heap.size := fun g hg => by have := (World.ownsRow.lt o3 g hg).2; omega
    have n4X : ∀ g, (Value.slice a4 xs.length c4).ownBlock = some g → g ≠ w4.heap.size := fun g hg => by have := (World.ownsRow.lt o4 g hg).2; omega
    have bb := new_below w4 (.cells #[.bool b, .slice a4 xs.length c4] 26)
    replace o3 := o3.below bb
    replace o4 := o4.below bb
    replace KA := keepc bb hA KA
    replace hA := Nat.lt_of_lt_of_le hA bb.size
    replace B := B.trans (bb.mono B.size)
    clear bb
    have KX := (blk_new w4 #[.bool b, .slice a4 xs.length c4] 26).1
    have hX : w4.heap.size < (w4.alloc (.cells #[.bool b, .slice a4 xs.length c4] 26)).heap.size := by simp
    go_wp2_with fail
    refine (C.out a4 _ c4 _ (rdS_owns o4) (by omega)).mono ?_
    rintro e w5 ⟨v5, rfl, o5, b5⟩
    obtain ⟨a5, c5, rfl, -⟩ := o5.rd
    have do3o5 := rows_apart o3 o5 (Nat.le_refl _)
    have do4o5 := rows_apart o4 o5 (Nat.le_refl _)
    have n5A : ∀ g, (Value.slice a5 zs.length c5).ownBlock = some g → g ≠ w.heap.size := fun g hg => by have := (World.ownsRow.lt o5 g hg).1; have := hA; omega
    have n5X : ∀ g, (Value.slice a5 zs.length c5).ownBlock = some g → g ≠ w4.heap.size := fun g hg => by have := (World.ownsRow.lt o5 g hg).1; have := hX; omega
    have m5 : ∀ g, (Value.slice a5 zs.length c5).ownBlock = some g → w.heap.size ≤ g := fun g hg => by have := (World.ownsRow.lt o5 g hg).1; have := B.size; omega
    replace o3 := o3.below b5
    replace o4 := o4.below b5
    replace KA := keepc b5 hA KA
    replace hA := Nat.lt_of_lt_of_le hA b5.size
    replace KX := keepc b5 hX KX
    replace hX := Nat.lt_of_lt_of_le hX b5.size
    replace B := B.trans (b5.mono B.size)
    clear b5
    go_wp2_with fail
    refine (eqByteS_same a5 a3 zs.length c5 c3 zs _ (rdB o5) (rdB o3) (by omega)).mono ?_
    rintro e w6 ⟨rfl, b6⟩
    replace o3 := o3.below b6
    replace o4 := o4.below b6
    replace o5 := o5.below b6
    replace KA := keepc b6 hA KA
    replace hA := Nat.lt_of_lt_of_le hA b6.size
    replace KX := keepc b6 hX KX
    replace hX := Nat.lt_of_lt_of_le hX b6.size
    replace B := B.trans (b6.mono B.size)
    clear b6
    have KS : ∀ V, Below w6.heap.size w6 V → (fun V => Below w6.heap.size w6 V ∧ V.cell? ⟨w4.heap.size, 0, none⟩ = some (.bool b) ∧ V.cell? ⟨w4.heap.size, 1, none⟩ = some (.slice a4 xs.length c4) ∧ V.cell? ⟨w.heap.size, 0, none⟩ = some (.bool b) ∧ V.cell? ⟨w.heap.size, 1, none⟩ = some (.slice a xs.length cap)) V := fun V b => ⟨b, (b.cell (p := ⟨w4.heap.size, 0, none⟩) hX).trans (KX 0), (b.cell (p := ⟨w4.heap.size, 1, none⟩) hX).trans (KX 1), (b.cell (p := ⟨w.heap.size, 0, none⟩) hA).trans (KA 0), (b.cell (p := ⟨w.heap.size, 1, none⟩) hA).trans (KA 1)⟩
    have KT : ∀ V V' : World, Below w6.heap.size w6 V → Below V.heap.size V V' → Below w6.heap.size w6 V' := fun V V' b b' => b.trans (b'.mono b.size)
    replace KS := Lib.hid KS
    replace KT := Lib.hid KT
    replace o3 := Lib.hid o3
    replace o4 := Lib.hid o4
    replace o5 := Lib.hid o5
    replace KA := Lib.hid KA
    replace KX := Lib.hid KX
    have BH := Lib.hid B
    go_wp2_with fail
    go_region_held3 (fun V => Below w6.heap.size w6 V ∧ V.cell? ⟨w4.heap.size, 0, none⟩ = some (.bool b) ∧ V.cell? ⟨w4.heap.size, 1, none⟩ = some (.slice a4 xs.length c4) ∧ V.cell? ⟨w.heap.size, 0, none⟩ = some (.bool b) ∧ V.cell? ⟨w.heap.size, 1, none⟩ = some (.slice a xs.length cap))
      (first | exact KS.out _ (drew_below _) | exact KS.out _ (KT.out _ _ (And.left (by assumption)) hb))
      (first
        | (go_at_call 25; (with_reducible refine (toNode_any b a _ cap xs _ (HR.out.below (BH.out.trans (Below.mono (by first | exact drew_below _ | exact And.left (by assumption)) BH.out.size))) (by omega)).mono ?_); rintro e wt ⟨vt, rfl, ot, hb⟩; obtain ⟨at', ct, rfl, rt⟩ := ot.rd)
        | (go_at_call 27; (with_reducible refine (eqNode_same b a4 at' _ c4 ct xs _ ((rdS_owns o4.out).below (by first | exact drew_below _ | exact And.left (by assumption))) rt (by omega)).mono ?_); rintro e wu ⟨rfl, hb⟩))
    rename_i hS
    have bS := hS.1
    clear hS KS KT BH
    replace o3 := o3.out
    replace o4 := o4.out
    replace o5 := o5.out
    replace KA := KA.out
    replace KX := KX.out
    replace o3 := o3.below bS
    replace o4 := o4.below bS
    replace o5 := o5.below bS
    replace KA := keepc bS hA KA
    replace hA := Nat.lt_of_lt_of_le hA bS.size
    replace KX := keepc bS hX KX
    replace hX := Nat.lt_of_lt_of_le hX bS.size
    replace B := B.trans (bS.mono B.size)
    clear bS
    go_wp2_with fail
    refine (markNode_any b a4 _ c4 xs 1 _ _ o4 rfl (by omega) (by omega) (by omega)).mono ?_
    rintro e w8 ⟨rfl, p8, g8⟩
    replace B := B.grown g8 B.size (fun g hg => m4 g hg)
    replace o3 := o3.keptApart g8 do3o4
    replace o5 := o5.keptApart g8 do4o5.symm
    replace KA := fun j => (cell_of_heap (g8.block _ hA (fun e => n4A _ e.symm rfl)) j).trans (KA j)
    replace hA := Nat.lt_of_lt_of_le hA g8.size
    replace KX := fun j => (cell_of_heap (g8.block _ hX (fun e => n4X _ e.symm rfl)) j).trans (KX j)
    replace hX := Nat.lt_of_lt_of_le hX g8.size
    have r4 := rdS_owns' (L := itLay) p8 (markedI_len _ _)
    clear o4 p8 g8
    clear r4
    go_wp2_with fail
    refine (eqByteS_same a5 a3 zs.length c5 c3 zs _ (rdB o5) (rdB o3) (by omega)).mono ?_
    rintro e w9 ⟨rfl, b9⟩
    replace o3 := o3.below b9
    replace o5 := o5.below b9
    replace KA := keepc b9 hA KA
    replace hA := Nat.lt_of_lt_of_le hA b9.size
    replace KX := keepc b9 hX KX
    replace hX := Nat.lt_of_lt_of_le hX b9.size
    replace B := B.trans (b9.mono B.size)
    clear b9
    go_wp2_with fail
    refine (markByteS_any a5 zs.length c5 zs 1 _ _ o5 rfl (by omega) (by omega) (by omega)).mono ?_
    rintro e w10 ⟨rfl, p10, g10⟩
    replace B := B.grown g10 B.size (fun g hg => m5 g hg)
    replace o3 := o3.keptApart g10 do3o5
    replace KA := fun j => (cell_of_heap (g10.block _ hA (fun e => n5A _ e.symm rfl)) j).trans (KA j)
    replace hA := Nat.lt_of_lt_of_le hA g10.size
    replace KX := fun j => (cell_of_heap (g10.block _ hX (fun e => n5X _ e.symm rfl)) j).trans (KX j)
    replace hX := Nat.lt_of_lt_of_le hX g10.size
    have r5 := rdI_owns p10 (gen_length _ _)
    clear o5 p10 g10
    go_wp2_with fail
    refine (heldByteS_any a5 zs.length c5 1 _ r5 (by omega) (by omega) (by omega)).mono ?_
    rintro e w11 ⟨rfl, rfl⟩
    go_wp2_with fail
    refine (toNode_any b a _ cap xs _ (HR.out.below B) (by omega)).mono ?_
    rintro e w12 ⟨v12, rfl, o12, b12⟩
    obtain ⟨a12, c12, rfl, -⟩ := o12.rd
    have do3o12 := rows_apart o3 o12 (Nat.le_refl _)
    have n12A : ∀ g, (Value.slice a12 xs.length c12).ownBlock = some g → g ≠ w.heap.size := fun g hg => by have := (World.ownsRow.lt o12 g hg).1; have := hA; omega
    have n12X : ∀ g, (Value.slice a12 xs.length c12).ownBlock = some g → g ≠ w4.heap.size := fun g hg => by have := (World.ownsRow.lt o12 g hg).1; have := hX; omega
    have m12 : ∀ g, (Value.slice a12 xs.length c12).ownBlock = some g → w.heap.size ≤ g := fun g hg => by have := (World.ownsRow.lt o12 g hg).1; have := B.size; omega
    replace o3 := o3.below b12
    replace r5 := r5.below b12
    replace KA := keepc b12 hA KA
    replace hA := Nat.lt_of_lt_of_le hA b12.size
    replace KX := keepc b12 hX KX
    replace hX := Nat.lt_of_lt_of_le hX b12.size
    replace B := B.trans (b12.mono B.size)
    clear b12
    go_wp2_with fail
    refine (C.out a12 _ c12 _ (rdS_owns o12) (by omega)).mono ?_
    rintro e w13 ⟨v13, rfl, o13, b13⟩
    obtain ⟨a13, c13, rfl, -⟩ := o13.rd
    have do3o13 := rows_apart o3 o13 (Nat.le_refl _)
    have do12o13 := rows_apart o12 o13 (Nat.le_refl _)
    have n13A : ∀ g, (Value.slice a13 zs.length c13).ownBlock = some g → g ≠ w.heap.size := fun g hg => by have := (World.ownsRow.lt o13 g hg).1; have := hA; omega
    have n13X : ∀ g, (Value.slice a13 zs.length c13).ownBlock = some g → g ≠ w4.heap.size := fun g hg => by have := (World.ownsRow.lt o13 g hg).1; have := hX; omega
    have m13 : ∀ g, (Value.slice a13 zs.length c13).ownBlock = some g → w.heap.size ≤ g := fun g hg => by have := (World.ownsRow.lt o13 g hg).1; have := B.size; omega
    replace o3 := o3.below b13
    replace o12 := o12.below b13
    replace r5 := r5.below b13
    replace KA := keepc b13 hA KA
    replace hA := Nat.lt_of_lt_of_le hA b13.size
    replace KX := keepc b13 hX KX
    replace hX := Nat.lt_of_lt_of_le hX b13.size
    replace B := B.trans (b13.mono B.size)
    clear b13
    go_wp2_with fail
    refine (eqByteS_same a13 a3 zs.length c13 c3 zs _ (rdB o13) (rdB o3) (by omega)).mono ?_
    rintro e w14 ⟨rfl, b14⟩
    replace o3 := o3.below b14
    replace o12 := o12.below b14
    replace o13 := o13.below b14
    replace r5 := r5.below b14
    replace KA := keepc b14 hA KA
    replace hA := Nat.lt_of_lt_of_le hA b14.size
    replace KX := keepc b14 hX KX
    replace hX := Nat.lt_of_lt_of_le hX b14.size
    replace B := B.trans (b14.mono B.size)
    clear b14
    go_wp2_with fail
    refine (heldByteS_any a5 zs.length c5 1 _ r5 (by omega) (by omega) (by omega)).mono ?_
    rintro e w15 ⟨rfl, rfl⟩
    go_wp2
    go_ret
    exact ⟨rfl, B⟩
  · have hif : (if (1048576 : Int) - xs.length < 0 then (-1 : Int) else 1048576 - xs.length) = -1 := by rw [if_pos (by omega)]
    go_enter Try.func4, Try.ntmps4
    go_wp2_with fail
    refine (szNode_any b a _ cap 1048576 _ hm (by omega)).mono ?_
    rintro e w0 ⟨rfl, b0⟩
    rw [hif]
    clear hif
    replace B := B.trans (b0.mono B.size)
    clear b0 KA hA
    go_wp2
    go_ret
    exact ⟨rfl, B⟩

theorem exPutNode_walk (C : CPutNode 10) (b : Bool) (a : Option Addr) (n cap : Nat) (xs : List It) (w : World) (h : RdS itLay w a n cap xs) : Calls Try.prog 4 #[.agg #[.bool b, .slice a n cap]] w fun e w' => e = .returned (.bool true) ∧ Below w.heap.size w w' :=
  exPutNode_core b xs (putN b xs) (putN_le b xs) (fun a n cap w h _ => sPutNode_any b a n cap xs w h) (fun a n cap w h hn => C b a n cap xs w h hn) a n cap w h
end Go.Proofs.Ytfgmjegemlkkkaa
