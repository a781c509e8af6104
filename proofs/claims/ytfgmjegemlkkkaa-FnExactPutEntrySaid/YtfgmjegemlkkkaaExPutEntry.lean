/- The exact law of PutEntry. -/
import Derived.Test.YtfgmjegemlkkkaaFormC
import Derived.Test.YtfgmjegemlkkkaaBytes
import Derived.Test.YtfgmjegemlkkkaaEntryM
import Derived.Test.YtfgmjegemlkkkaaNode
namespace Go.Proofs.Ytfgmjegemlkkkaa
open Go.RowKit

set_option maxHeartbeats 3200000 in
set_option maxRecDepth 100000 in
theorem exPutEntry_core (y : It) (zs : List Int) (hzl : zs.length ≤ 100000000) (CS : ∀ w, Calls Try.prog 22 #[.agg #[.int .i64 y.id, .int .i64 y.x0, .int .i64 y.y0, .int .i64 y.x1, .int .i64 y.y1]] w (Fresh8 w zs)) (C : ∀ w, Calls Try.prog 21 #[.agg #[.int .i64 y.id, .int .i64 y.x0, .int .i64 y.y0, .int .i64 y.x1, .int .i64 y.y1]] w (Fresh8 w zs)) (w : World) :
    Calls Try.prog 6 #[.agg #[.int .i64 y.id, .int .i64 y.x0, .int .i64 y.y0, .int .i64 y.x1, .int .i64 y.y1]] w fun e w' => e = .returned (.bool true) ∧ Below w.heap.size w w' := by
  have KA := (blk_new w #[.int .i64 y.id, .int .i64 y.x0, .int .i64 y.y0, .int .i64 y.x1, .int .i64 y.y1] 55).1
  have hA : w.heap.size < (w.alloc (.cells #[.int .i64 y.id, .int .i64 y.x0, .int .i64 y.y0, .int .i64 y.x1, .int .i64 y.y1] 55)).heap.size := by simp
  have B := new_below w (.cells #[.int .i64 y.id, .int .i64 y.x0, .int .i64 y.y0, .int .i64 y.x1, .int .i64 y.y1] 55)
  replace C := Lib.hid C
  replace CS := Lib.hid CS
  go_enter Try.func6, Try.ntmps6
  have kA0 := KA 0
  have kA1 := KA 1
  have kA2 := KA 2
  have kA3 := KA 3
  have kA4 := KA 4
  simp at kA0 kA1 kA2 kA3 kA4
  go_wp2_with fail
  refine (toEntry_any y.id y.x0 y.y0 y.x1 y.y1 _).mono ?_
  rintro e w1 ⟨rfl, b1⟩
  replace KA := keepc b1 hA KA
  replace hA := Nat.lt_of_lt_of_le hA b1.size
  replace B := B.trans (b1.mono B.size)
  clear b1
  clear kA0 kA1 kA2 kA3 kA4
  go_wp2_with fail
  refine (CS.out _).mono ?_
  rintro e w2 ⟨v2, rfl, o2, b2⟩
  obtain ⟨a2, c2, rfl, -⟩ := o2.rd
  have n2A : ∀ g, (Value.slice a2 zs.length c2).ownBlock = some g → g ≠ w.heap.size := fun g hg => by have := (World.ownsRow.lt o2 g hg).1; have := hA; omega
  have m2 : ∀ g, (Value.slice a2 zs.length c2).ownBlock = some g → w.heap.size ≤ g := fun g hg => by have := (World.ownsRow.lt o2 g hg).1; have := B.size; omega
  replace KA := keepc b2 hA KA
  replace hA := Nat.lt_of_lt_of_le hA b2.size
  replace B := B.trans (b2.mono B.size)
  clear b2
  have kA0 := KA 0
  have kA1 := KA 1
  have kA2 := KA 2
  have kA3 := KA 3
  have kA4 := KA 4
  simp at kA0 kA1 kA2 kA3 kA4
  go_wp2_with fail
  refine (toEntry_any y.id y.x0 y.y0 y.x1 y.y1 _).mono ?_
  rintro e w3 ⟨rfl, b3⟩
  replace o2 := o2.below b3
  replace KA := keepc b3 hA KA
  replace hA := Nat.lt_of_lt_of_le hA b3.size
  replace B := B.trans (b3.mono B.size)
  clear b3
  clear kA0 kA1 kA2 kA3 kA4
  go_wp2_with fail
  refine (C.out _).mono ?_
  rintro e w4 ⟨v4, rfl, o4, b4⟩
  obtain ⟨a4, c4, rfl, -⟩ := o4.rd
  have do2o4 := rows_apart o2 o4 (Nat.le_refl _)
  have n4A : ∀ g, (Value.slice a4 zs.length c4).ownBlock = some g → g ≠ w.heap.size := fun g hg => by have := (World.ownsRow.lt o4 g hg).1; have := hA; omega
  have m4 : ∀ g, (Value.slice a4 zs.length c4).ownBlock = some g → w.heap.size ≤ g := fun g hg => by have := (World.ownsRow.lt o4 g hg).1; have := B.size; omega
  replace o2 := o2.below b4
  replace KA := keepc b4 hA KA
  replace hA := Nat.lt_of_lt_of_le hA b4.size
  replace B := B.trans (b4.mono B.size)
  clear b4
  go_wp2_with fail
  refine (eqByteS_same a4 a2 zs.length c4 c2 zs _ (rdB o4) (rdB o2) (by omega)).mono ?_
  rintro e w5 ⟨rfl, b5⟩
  replace o2 := o2.below b5
  replace o4 := o4.below b5
  replace KA := keepc b5 hA KA
  replace hA := Nat.lt_of_lt_of_le hA b5.size
  replace B := B.trans (b5.mono B.size)
  clear b5
  go_wp2_with fail
  refine (markByteS_any a4 zs.length c4 zs 1 _ _ o4 rfl (by omega) (by omega) (by omega)).mono ?_
  rintro e w6 ⟨rfl, p6, g6⟩
  replace B := B.grown g6 B.size (fun g hg => m4 g hg)
  replace o2 := o2.keptApart g6 do2o4
  replace KA := fun j => (cell_of_heap (g6.block _ hA (fun e => n4A _ e.symm rfl)) j).trans (KA j)
  replace hA := Nat.lt_of_lt_of_le hA g6.size
  have r4 := rdI_owns p6 (gen_length _ _)
  clear o4 p6 g6
  go_wp2_with fail
  refine (heldByteS_any a4 zs.length c4 1 _ r4 (by omega) (by omega) (by omega)).mono ?_
  rintro e w7 ⟨rfl, rfl⟩
  have kA0 := KA 0
  have kA1 := KA 1
  have kA2 := KA 2
  have kA3 := KA 3
  have kA4 := KA 4
  simp at kA0 kA1 kA2 kA3 kA4
  go_wp2_with fail
  refine (toEntry_any y.id y.x0 y.y0 y.x1 y.y1 _).mono ?_
  rintro e w8 ⟨rfl, b8⟩
  replace o2 := o2.below b8
  replace r4 := r4.below b8
  replace KA := keepc b8 hA KA
  replace hA := Nat.lt_of_lt_of_le hA b8.size
  replace B := B.trans (b8.mono B.size)
  clear b8
  clear kA0 kA1 kA2 kA3 kA4
  go_wp2_with fail
  refine (C.out _).mono ?_
  rintro e w9 ⟨v9, rfl, o9, b9⟩
  obtain ⟨a9, c9, rfl, -⟩ := o9.rd
  have do2o9 := rows_apart o2 o9 (Nat.le_refl _)
  have n9A : ∀ g, (Value.slice a9 zs.length c9).ownBlock = some g → g ≠ w.heap.size := fun g hg => by have := (World.ownsRow.lt o9 g hg).1; have := hA; omega
  have m9 : ∀ g, (Value.slice a9 zs.length c9).ownBlock = some g → w.heap.size ≤ g := fun g hg => by have := (World.ownsRow.lt o9 g hg).1; have := B.size; omega
  replace o2 := o2.below b9
  replace r4 := r4.below b9
  replace KA := keepc b9 hA KA
  replace hA := Nat.lt_of_lt_of_le hA b9.size
  replace B := B.trans (b9.mono B.size)
  clear b9
  go_wp2_with fail
  refine (eqByteS_same a9 a2 zs.length c9 c2 zs _ (rdB o9) (rdB o2) (by omega)).mono ?_
  rintro e w10 ⟨rfl, b10⟩
  replace o2 := o2.below b10
  replace o9 := o9.below b10
  replace r4 := r4.below b10
  replace KA := keepc b10 hA KA
  replace hA := Nat.lt_of_lt_of_le hA b10.size
  replace B := B.trans (b10.mono B.size)
  clear b10
  go_wp2_with fail
  refine (heldByteS_any a4 zs.length c4 1 _ r4 (by omega) (by omega) (by omega)).mono ?_
  rintro e w11 ⟨rfl, rfl⟩
  go_wp2
  go_ret
  exact ⟨rfl, B⟩

theorem exPutEntry_walk (C : CPutEntry 21) (y : It) (w : World) : Calls Try.prog 6 #[.agg #[.int .i64 y.id, .int .i64 y.x0, .int .i64 y.y0, .int .i64 y.x1, .int .i64 y.y1]] w fun e w' => e = .returned (.bool true) ∧ Below w.heap.size w w' :=
  exPutEntry_core y (putE y) (Nat.le_trans (putE_le y) (by omega)) (fun w => sPutEntry_any y w) (fun w => C y w) w
end Go.Proofs.Ytfgmjegemlkkkaa
