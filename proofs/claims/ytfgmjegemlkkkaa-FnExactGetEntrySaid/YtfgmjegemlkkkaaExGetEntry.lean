/- The exact law of GetEntry. -/
import Derived.Test.YtfgmjegemlkkkaaFormC
import Derived.Test.YtfgmjegemlkkkaaBytes
import Derived.Test.YtfgmjegemlkkkaaEntryM
import Derived.Test.YtfgmjegemlkkkaaNode
namespace Go.Proofs.Ytfgmjegemlkkkaa
open Go.RowKit

set_option maxHeartbeats 3200000 in
set_option maxRecDepth 100000 in
theorem exGetEntry_core (bs : List Int) (x : Int) (y : It) (t : Bool) (CS : (∀ (a : Option Addr) (n c : Nat) (w : World), RdI .u8 w a n c bs → n ≤ 100000000 → Calls Try.prog 17 #[.slice a n c, .int .i64 x] w (RetE y t w))) (C : (∀ (a : Option Addr) (n c : Nat) (w : World), RdI .u8 w a n c bs → n ≤ 100000000 → Calls Try.prog 16 #[.slice a n c, .int .i64 x] w (RetE y t w))) (a : Option Addr) (n c : Nat) (w : World) (h : RdI .u8 w a n c bs) :
    Calls Try.prog 7 #[.slice a n c, .int .i64 x] w fun e w' => e = .returned (.bool true) ∧ Below w.heap.size w w' := by
  have hln := h.1.1
  subst hln
  have hnc := h.1.2.1
  have hm := h.1.2.2.1
  unfold maxLen at hm
  have HR := Lib.hid h
  have B := Below.refl w.heap.size w
  replace C := Lib.hid C
  replace CS := Lib.hid CS
  have he := itEq_self y
  clear h
  by_cases hn : bs.length ≤ 1048576
  · have hif : ¬ (bs.length : Int) > 1048576 := by omega
    go_enter Try.func7, Try.ntmps7
    go_wp2_with fail
    refine (toByteS_any a _ c bs _ (HR.out.below B) (by omega)).mono ?_
    rintro e w1 ⟨v1, rfl, o1, b1⟩
    obtain ⟨a1, c1, rfl, -⟩ := o1.rd
    have m1 : ∀ g, (Value.slice a1 bs.length c1).ownBlock = some g → w.heap.size ≤ g := fun g hg => by have := (World.ownsRow.lt o1 g hg).1; have := B.size; omega
    replace B := B.trans (b1.mono B.size)
    clear b1
    go_wp2_with fail
    refine (CS.out a1 _ c1 _ (rdB o1) (by omega)).mono ?_
    rintro e w2 ⟨rfl, b2⟩
    replace o1 := o1.below b2
    replace B := B.trans (b2.mono B.size)
    clear b2
    clear o1
    have bb := new_below w2 (.cells #[.int .i64 y.id, .int .i64 y.x0, .int .i64 y.y0, .int .i64 y.x1, .int .i64 y.y1] 35)
    replace B := B.trans (bb.mono B.size)
    clear bb
    have KW := (blk_new w2 #[.int .i64 y.id, .int .i64 y.x0, .int .i64 y.y0, .int .i64 y.x1, .int .i64 y.y1] 35).1
    have hW : w2.heap.size < (w2.alloc (.cells #[.int .i64 y.id, .int .i64 y.x0, .int .i64 y.y0, .int .i64 y.x1, .int .i64 y.y1] 35)).heap.size := by simp
    go_wp2_with fail
    refine (toByteS_any a _ c bs _ (HR.out.below B) (by omega)).mono ?_
    rintro e w3 ⟨v3, rfl, o3, b3⟩
    obtain ⟨a3, c3, rfl, -⟩ := o3.rd
    have n3W : ∀ g, (Value.slice a3 bs.length c3).ownBlock = some g → g ≠ w2.heap.size := fun g hg => by have := (World.ownsRow.lt o3 g hg).1; have := hW; omega
    have m3 : ∀ g, (Value.slice a3 bs.length c3).ownBlock = some g → w.heap.size ≤ g := fun g hg => by have := (World.ownsRow.lt o3 g hg).1; have := B.size; omega
    replace KW := keepc b3 hW KW
    replace hW := Nat.lt_of_lt_of_le hW b3.size
    replace B := B.trans (b3.mono B.size)
    clear b3
    go_wp2_with fail
    refine (C.out a3 _ c3 _ (rdB o3) (by omega)).mono ?_
    rintro e w4 ⟨rfl, b4⟩
    replace o3 := o3.below b4
    replace KW := keepc b4 hW KW
    replace hW := Nat.lt_of_lt_of_le hW b4.size
    replace B := B.trans (b4.mono B.size)
    clear b4
    have n3G : ∀ g, (Value.slice a3 bs.length c3).ownBlock = some g → g ≠ w4.heap.size := fun g hg => by have := (World.ownsRow.lt o3 g hg).2; omega
    have bb := new_below w4 (.cells #[.int .i64 y.id, .int .i64 y.x0, .int .i64 y.y0, .int .i64 y.x1, .int .i64 y.y1] 35)
    replace o3 := o3.below bb
    replace KW := keepc bb hW KW
    replace hW := Nat.lt_of_lt_of_le hW bb.size
    replace B := B.trans (bb.mono B.size)
    clear bb
    have KG := (blk_new w4 #[.int .i64 y.id, .int .i64 y.x0, .int .i64 y.y0, .int .i64 y.x1, .int .i64 y.y1] 35).1
    have hG : w4.heap.size < (w4.alloc (.cells #[.int .i64 y.id, .int .i64 y.x0, .int .i64 y.y0, .int .i64 y.x1, .int .i64 y.y1] 35)).heap.size := by simp
    have kW0 := KW 0
    have kW1 := KW 1
    have kW2 := KW 2
    have kW3 := KW 3
    have kW4 := KW 4
    simp at kW0 kW1 kW2 kW3 kW4
    have kG0 := KG 0
    have kG1 := KG 1
    have kG2 := KG 2
    have kG3 := KG 3
    have kG4 := KG 4
    simp at kG0 kG1 kG2 kG3 kG4
    go_wp2_with fail
    refine (eqEntry_any y y _).mono ?_
    rintro e w5 ⟨rfl, b5⟩
    replace o3 := o3.below b5
    replace KW := keepc b5 hW KW
    replace hW := Nat.lt_of_lt_of_le hW b5.size
    replace KG := keepc b5 hG KG
    replace hG := Nat.lt_of_lt_of_le hG b5.size
    replace B := B.trans (b5.mono B.size)
    clear b5
    clear kW0 kW1 kW2 kW3 kW4 kG0 kG1 kG2 kG3 kG4
    go_wp2_with fail
    refine (toByteS_any a _ c bs _ (HR.out.below B) (by omega)).mono ?_
    rintro e w6 ⟨v6, rfl, o6, b6⟩
    obtain ⟨a6, c6, rfl, -⟩ := o6.rd
    have do3o6 := rows_apart o3 o6 (Nat.le_refl _)
    have n6W : ∀ g, (Value.slice a6 bs.length c6).ownBlock = some g → g ≠ w2.heap.size := fun g hg => by have := (World.ownsRow.lt o6 g hg).1; have := hW; omega
    have n6G : ∀ g, (Value.slice a6 bs.length c6).ownBlock = some g → g ≠ w4.heap.size := fun g hg => by have := (World.ownsRow.lt o6 g hg).1; have := hG; omega
    have m6 : ∀ g, (Value.slice a6 bs.length c6).ownBlock = some g → w.heap.size ≤ g := fun g hg => by have := (World.ownsRow.lt o6 g hg).1; have := B.size; omega
    replace o3 := o3.below b6
    replace KW := keepc b6 hW KW
    replace hW := Nat.lt_of_lt_of_le hW b6.size
    replace KG := keepc b6 hG KG
    replace hG := Nat.lt_of_lt_of_le hG b6.size
    replace B := B.trans (b6.mono B.size)
    clear b6
    go_wp2_with fail
    refine (eqByteS_same a3 a6 bs.length c3 c6 bs _ (rdB o3) (rdB o6) (by omega)).mono ?_
    rintro e w7 ⟨rfl, b7⟩
    replace o3 := o3.below b7
    replace o6 := o6.below b7
    replace KW := keepc b7 hW KW
    replace hW := Nat.lt_of_lt_of_le hW b7.size
    replace KG := keepc b7 hG KG
    replace hG := Nat.lt_of_lt_of_le hG b7.size
    replace B := B.trans (b7.mono B.size)
    clear b7
    go_wp2
    go_ret
    exact ⟨rfl, B⟩
  · have hif : (bs.length : Int) > 1048576 := by omega
    go_enter Try.func7, Try.ntmps7
    go_wp2
    go_ret
    exact ⟨rfl, B⟩

theorem exGetEntry_walk (C : CGetEntry 16) (a : Option Addr) (n c : Nat) (bs : List Int) (x : Int) (w : World) (h : RdI .u8 w a n c bs) (hz : ∀ j, 0 ≤ bs.getD j 0 ∧ bs.getD j 0 ≤ 255) (hx : (Lit.int .i64 x).wf = true) : Calls Try.prog 7 #[.slice a n c, .int .i64 x] w fun e w' => e = .returned (.bool true) ∧ Below w.heap.size w w' :=
  exGetEntry_core bs x (getE bs x) (hasE bs x) (fun a n c w h hn => sGetEntry_any a n c bs x w h hz hn hx) (fun a n c w h hn => C a n c bs x w h hz hn hx) a n c w h
end Go.Proofs.Ytfgmjegemlkkkaa
