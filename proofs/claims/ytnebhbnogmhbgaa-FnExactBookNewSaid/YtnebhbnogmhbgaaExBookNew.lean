/- The exact law of BookNew. -/
import Derived.Test.YtnebhbnogmhbgaaBookX
namespace Go.Proofs.Ytnebhbnogmhbgaa
open Go.RowKit

set_option maxHeartbeats 3200000 in
set_option maxRecDepth 100000 in
theorem exBookNew_walk (C : CBookNew 30) (w : World) :
    Calls Try.prog 5 #[] w fun e w' => e = .returned (.bool true) ∧ Below w.heap.size w w' := by
  have B := Below.refl w.heap.size w
  replace C := Lib.hid (fun w : World => C w)
  go_enter Try.func5, Try.ntmps5
  go_wp2_with fail
  refine (sBookNew_any _).mono ?_
  rintro e w1 ⟨v1, q1, rfl, e1, o1, b1⟩
  obtain ⟨a1, c1, rfl⟩ := o1.shape
  have Fo1 := o1.frame
  have i1 := o1.inb
  have s1 := b1.size
  have l1 := B.size
  replace B := B.trans (b1.mono B.size)
  clear b1
  have bb := new_below w1 (.cells #[.int .i64 0, .slice a1 q1.length c1] 26)
  have KW := (blk_new w1 #[.int .i64 0, .slice a1 q1.length c1] 26).1
  have FKW := cells_frame w1.heap.size (fun o => (#[.int .i64 0, .slice a1 q1.length c1] : Array Value)[o]?)
  have hW : w1.heap.size < (w1.alloc (.cells #[.int .i64 0, .slice a1 q1.length c1] 26)).heap.size := by simp
  replace o1 := Fo1.kept o1 bb (by omega)
  replace B := B.trans (bb.mono B.size)
  clear bb
  go_wp2_with fail
  refine (C.out _).mono ?_
  rintro e w2 ⟨v2, q2, rfl, e2, o2, b2⟩
  obtain ⟨a2, c2, rfl⟩ := o2.shape
  have Fo2 := o2.frame
  have i2 := o2.inb
  have s2 := b2.size
  have l2 := B.size
  replace o1 := Fo1.kept o1 b2 (by omega)
  replace KW := FKW.kept KW b2 (by omega)
  replace B := B.trans (b2.mono B.size)
  clear b2
  have bb := new_below w2 (.cells #[.int .i64 0, .slice a2 q2.length c2] 26)
  have KG := (blk_new w2 #[.int .i64 0, .slice a2 q2.length c2] 26).1
  have FKG := cells_frame w2.heap.size (fun o => (#[.int .i64 0, .slice a2 q2.length c2] : Array Value)[o]?)
  have hG : w2.heap.size < (w2.alloc (.cells #[.int .i64 0, .slice a2 q2.length c2] 26)).heap.size := by simp
  replace o1 := Fo1.kept o1 bb (by omega)
  replace KW := FKW.kept KW bb (by omega)
  replace o2 := Fo2.kept o2 bb (by omega)
  replace B := B.trans (bb.mono B.size)
  clear bb
  go_wp2_with fail
  refine (eqBook_same 0 a2 a1 _ _ c2 c1 q2 q1 _ o2.rd o1.rd (e2.trans e1.symm) (by rw [len_pgs e2]; decide) (pgs_le o2 e2 (by decide))).mono ?_
  rintro e w3 ⟨rfl, b3⟩
  have s3 := b3.size
  replace o1 := Fo1.kept o1 b3 (by omega)
  replace KW := FKW.kept KW b3 (by omega)
  replace o2 := Fo2.kept o2 b3 (by omega)
  replace KG := FKG.kept KG b3 (by omega)
  replace B := B.trans (b3.mono B.size)
  clear b3
  have m2 := endP_pg o2 e2 (by decide)
  go_wp2_with fail
  refine (markBook_any 0 a2 _ c2 q2 1 _ _ _ o2 i2 (by omega) m2).mono ?_
  rintro e w4 ⟨rfl, p4, g4⟩
  have s4 := g4.size
  replace B := ChgIn.below B B.size g4 (by omega)
  replace o1 := Fo1.chg o1 g4 (by omega) (by omega)
  replace KW := FKW.chg KW g4 (by omega) (by omega)
  replace KG := FKG.chg KG g4 (by omega) (by omega)
  clear o2 Fo2
  have Fp4 := p4.frame
  clear g4
  have hz4 : ¬ endP 1 q2 < 0 := by rw [endP_eq]; omega
  go_wp2_with fail
  refine (heldBook_any 0 a2 _ c2 q2 1 _ (by have := p4.rd; exact this) (by omega) m2).mono ?_
  rintro e w5 ⟨rfl, b5⟩
  have s5 := b5.size
  replace o1 := Fo1.kept o1 b5 (by omega)
  replace KW := FKW.kept KW b5 (by omega)
  replace KG := FKG.kept KG b5 (by omega)
  replace p4 := Fp4.kept p4 b5 (by omega)
  replace B := B.trans (b5.mono B.size)
  clear b5
  go_wp2_with fail
  refine (C.out _).mono ?_
  rintro e w6 ⟨v6, q6, rfl, e6, o6, b6⟩
  obtain ⟨a6, c6, rfl⟩ := o6.shape
  have Fo6 := o6.frame
  have i6 := o6.inb
  have s6 := b6.size
  have l6 := B.size
  replace o1 := Fo1.kept o1 b6 (by omega)
  replace KW := FKW.kept KW b6 (by omega)
  replace KG := FKG.kept KG b6 (by omega)
  replace p4 := Fp4.kept p4 b6 (by omega)
  replace B := B.trans (b6.mono B.size)
  clear b6
  have bb := new_below w6 (.cells #[.int .i64 0, .slice a6 q6.length c6] 26)
  have KZ := (blk_new w6 #[.int .i64 0, .slice a6 q6.length c6] 26).1
  have FKZ := cells_frame w6.heap.size (fun o => (#[.int .i64 0, .slice a6 q6.length c6] : Array Value)[o]?)
  have hZ : w6.heap.size < (w6.alloc (.cells #[.int .i64 0, .slice a6 q6.length c6] 26)).heap.size := by simp
  replace o1 := Fo1.kept o1 bb (by omega)
  replace KW := FKW.kept KW bb (by omega)
  replace KG := FKG.kept KG bb (by omega)
  replace p4 := Fp4.kept p4 bb (by omega)
  replace o6 := Fo6.kept o6 bb (by omega)
  replace B := B.trans (bb.mono B.size)
  clear bb
  go_wp2_with fail
  refine (eqBook_same 0 a6 a1 _ _ c6 c1 q6 q1 _ o6.rd o1.rd (e6.trans e1.symm) (by rw [len_pgs e6]; decide) (pgs_le o6 e6 (by decide))).mono ?_
  rintro e w7 ⟨rfl, b7⟩
  have s7 := b7.size
  replace o1 := Fo1.kept o1 b7 (by omega)
  replace KW := FKW.kept KW b7 (by omega)
  replace KG := FKG.kept KG b7 (by omega)
  replace p4 := Fp4.kept p4 b7 (by omega)
  replace o6 := Fo6.kept o6 b7 (by omega)
  replace KZ := FKZ.kept KZ b7 (by omega)
  replace B := B.trans (b7.mono B.size)
  clear b7
  go_wp2_with fail
  refine (heldBook_any 0 a2 _ c2 q2 1 _ (by have := p4.rd; exact this) (by omega) m2).mono ?_
  rintro e w8 ⟨rfl, b8⟩
  have s8 := b8.size
  replace o1 := Fo1.kept o1 b8 (by omega)
  replace KW := FKW.kept KW b8 (by omega)
  replace KG := FKG.kept KG b8 (by omega)
  replace p4 := Fp4.kept p4 b8 (by omega)
  replace o6 := Fo6.kept o6 b8 (by omega)
  replace KZ := FKZ.kept KZ b8 (by omega)
  replace B := B.trans (b8.mono B.size)
  clear b8
  go_wp2
  go_ret
  exact ⟨rfl, B⟩
end Go.Proofs.Ytnebhbnogmhbgaa
