/- The exact law of Free. -/
import Derived.Test.YtnebhbnogmhbgaaBookX
namespace Go.Proofs.Ytnebhbnogmhbgaa
open Go.RowKit

set_option maxHeartbeats 3200000 in
set_option maxRecDepth 100000 in
theorem exFree_core (root : Int) (a : Option Addr) (n cap : Nat) (ps : List PgV) (a' : Option Addr) (n' cap' : Nat) (xs : List Int) (L : List Pg) (hL : ps.length ≤ 1048576 → totG (ps.map PgV.pg) ≤ 1048576 → L.length ≤ 1048576 ∧ totG L ≤ 2097152) (CS : (∀ (a : Option Addr) (n cap : Nat) (qs : List PgV) (a' : Option Addr) (n' cap' : Nat) (W : World), RdP W a n cap qs → RdI .i64 W a' n' cap' xs → qs.map PgV.pg = ps.map PgV.pg → n ≤ 1099511627776 → (∀ p ∈ qs, p.n ≤ 1099511627776) → Calls Try.prog 25 #[.agg #[.int .i64 root, .slice a n cap], .slice a' n' cap'] W (NewBook root L W))) (C : (∀ (a : Option Addr) (n cap : Nat) (qs : List PgV) (a' : Option Addr) (n' cap' : Nat) (W : World), RdP W a n cap qs → RdI .i64 W a' n' cap' xs → qs.map PgV.pg = ps.map PgV.pg → n ≤ 1099511627776 → (∀ p ∈ qs, p.n ≤ 1099511627776) → Calls Try.prog 24 #[.agg #[.int .i64 root, .slice a n cap], .slice a' n' cap'] W (NewBook root L W))) (w : World) (h : RdP w a n cap ps) (h' : RdI .i64 w a' n' cap' xs) :
    Calls Try.prog 9 #[.agg #[.int .i64 root, .slice a n cap], .slice a' n' cap'] w fun e w' => e = .returned (.bool true) ∧ Below w.heap.size w w' := by
  have hln := h.1.1.1
  subst hln
  have hln' := h'.1.1
  subst hln'
  have KA := (blk_new w #[.int .i64 root, .slice a ps.length cap] 56).1
  have hA : w.heap.size < (w.alloc (.cells #[.int .i64 root, .slice a ps.length cap] 56)).heap.size := by simp
  have B := new_below w (.cells #[.int .i64 root, .slice a ps.length cap] 56)
  have FKA := cells_frame (w.heap.size) (fun o => (#[.int .i64 root, .slice a ps.length cap] : Array Value)[o]?)
  have HR := Lib.hid h
  have HX := Lib.hid h'
  clear h h'
  replace C := Lib.hid C
  replace CS := Lib.hid CS
  by_cases hx : 1048576 < xs.length
  · go_enter Try.func9, Try.ntmps9
    go_wp2
    go_ret
    exact ⟨rfl, B⟩
  replace hx : xs.length ≤ 1048576 := by omega
  go_enter Try.func9, Try.ntmps9
  go_wp2_with fail
  refine (szBook_any root a _ cap ps 1048576 _ (HR.out.below B) (by omega)).mono ?_
  rintro e w1 ⟨r1, rfl, z1, b1⟩
  have s1 := b1.size
  replace KA := FKA.kept KA b1 (by omega)
  replace B := B.trans (b1.mono B.size)
  clear b1
  by_cases y1 : r1 < 0
  · go_wp2
    go_ret
    exact ⟨rfl, B⟩
  have hn : ps.length ≤ 1048576 := by omega
  have hT : totG (ps.map PgV.pg) ≤ 1048576 := by rw [← totP_rd HR.out]; omega
  have hP : Hid (∀ p ∈ ps, p.n ≤ 1048576) := Lib.hid (pgs_rd HR.out rfl hT)
  have hr : 0 ≤ r1 ∧ r1 ≤ 1048576 := by omega
  clear z1
  obtain ⟨hL1, hL2⟩ := hL hn hT
  clear hL
  go_wp2_with fail
  refine (toBook_any root a _ cap ps _ (HR.out.below B) (by omega) (fun p hp => Nat.le_trans (hP.out p hp) (by decide))).mono ?_
  rintro e w2 ⟨v2, q2, rfl, e2, o2, b2⟩
  obtain ⟨a2, c2, rfl⟩ := o2.shape
  have Fo2 := o2.frame
  have i2 := o2.inb
  have s2 := b2.size
  have l2 := B.size
  replace KA := FKA.kept KA b2 (by omega)
  replace B := B.trans (b2.mono B.size)
  clear b2
  go_wp2_with fail
  refine (toIntS_any a' _ cap' xs _ (HX.out.below B) (by omega)).mono ?_
  rintro e w3 ⟨v3, rfl, o3, b3⟩
  obtain ⟨a3, c3, rfl, -⟩ := o3.rd
  have Fo3 := Own.frame o3
  have t3 := World.ownsRow.lt o3
  have s3 := b3.size
  have l3 := B.size
  replace KA := FKA.kept KA b3 (by omega)
  replace o2 := Fo2.kept o2 b3 (by omega)
  replace B := B.trans (b3.mono B.size)
  clear b3
  go_wp2_with fail
  refine (CS.out a2 _ c2 q2 a3 _ c3 _ o2.rd (rdI_own o3) e2 (by rw [len_pgs e2, List.length_map]; omega) (pgs_le o2 e2 (by omega))).mono ?_
  rintro e w4 ⟨v4, q4, rfl, e4, o4, b4⟩
  obtain ⟨a4, c4, rfl⟩ := o4.shape
  have Fo4 := o4.frame
  have i4 := o4.inb
  have s4 := b4.size
  have l4 := B.size
  replace KA := FKA.kept KA b4 (by omega)
  replace o2 := Fo2.kept o2 b4 (by omega)
  replace o3 := Fo3.kept o3 b4 (by omega)
  replace B := B.trans (b4.mono B.size)
  clear b4
  clear o2 o3 Fo2 Fo3
  have bb := new_below w4 (.cells #[.int .i64 root, .slice a4 q4.length c4] 26)
  have KW := (blk_new w4 #[.int .i64 root, .slice a4 q4.length c4] 26).1
  have FKW := cells_frame w4.heap.size (fun o => (#[.int .i64 root, .slice a4 q4.length c4] : Array Value)[o]?)
  have hW : w4.heap.size < (w4.alloc (.cells #[.int .i64 root, .slice a4 q4.length c4] 26)).heap.size := by simp
  replace KA := FKA.kept KA bb (by omega)
  replace o4 := Fo4.kept o4 bb (by omega)
  replace B := B.trans (bb.mono B.size)
  clear bb
  go_wp2_with fail
  refine (toBook_any root a _ cap ps _ (HR.out.below B) (by omega) (fun p hp => Nat.le_trans (hP.out p hp) (by decide))).mono ?_
  rintro e w5 ⟨v5, q5, rfl, e5, o5, b5⟩
  obtain ⟨a5, c5, rfl⟩ := o5.shape
  have Fo5 := o5.frame
  have i5 := o5.inb
  have s5 := b5.size
  have l5 := B.size
  replace KA := FKA.kept KA b5 (by omega)
  replace o4 := Fo4.kept o4 b5 (by omega)
  replace KW := FKW.kept KW b5 (by omega)
  replace B := B.trans (b5.mono B.size)
  clear b5
  have bb := new_below w5 (.cells #[.int .i64 root, .slice a5 q5.length c5] 26)
  have KX := (blk_new w5 #[.int .i64 root, .slice a5 q5.length c5] 26).1
  have FKX := cells_frame w5.heap.size (fun o => (#[.int .i64 root, .slice a5 q5.length c5] : Array Value)[o]?)
  have hX : w5.heap.size < (w5.alloc (.cells #[.int .i64 root, .slice a5 q5.length c5] 26)).heap.size := by simp
  replace KA := FKA.kept KA bb (by omega)
  replace o4 := Fo4.kept o4 bb (by omega)
  replace KW := FKW.kept KW bb (by omega)
  replace o5 := Fo5.kept o5 bb (by omega)
  replace B := B.trans (bb.mono B.size)
  clear bb
  go_wp2_with fail
  refine (toIntS_any a' _ cap' xs _ (HX.out.below B) (by omega)).mono ?_
  rintro e w6 ⟨v6, rfl, o6, b6⟩
  obtain ⟨a6, c6, rfl, -⟩ := o6.rd
  have Fo6 := Own.frame o6
  have t6 := World.ownsRow.lt o6
  have s6 := b6.size
  have l6 := B.size
  replace KA := FKA.kept KA b6 (by omega)
  replace o4 := Fo4.kept o4 b6 (by omega)
  replace KW := FKW.kept KW b6 (by omega)
  replace o5 := Fo5.kept o5 b6 (by omega)
  replace KX := FKX.kept KX b6 (by omega)
  replace B := B.trans (b6.mono B.size)
  clear b6
  go_wp2_with fail
  refine (C.out a5 _ c5 q5 a6 _ c6 _ o5.rd (rdI_own o6) e5 (by rw [len_pgs e5, List.length_map]; omega) (pgs_le o5 e5 (by omega))).mono ?_
  rintro e w7 ⟨v7, q7, rfl, e7, o7, b7⟩
  obtain ⟨a7, c7, rfl⟩ := o7.shape
  have Fo7 := o7.frame
  have i7 := o7.inb
  have s7 := b7.size
  have l7 := B.size
  replace KA := FKA.kept KA b7 (by omega)
  replace o4 := Fo4.kept o4 b7 (by omega)
  replace KW := FKW.kept KW b7 (by omega)
  replace o5 := Fo5.kept o5 b7 (by omega)
  replace KX := FKX.kept KX b7 (by omega)
  replace o6 := Fo6.kept o6 b7 (by omega)
  replace B := B.trans (b7.mono B.size)
  clear b7
  have bb := new_below w7 (.cells #[.int .i64 root, .slice a7 q7.length c7] 26)
  have KG := (blk_new w7 #[.int .i64 root, .slice a7 q7.length c7] 26).1
  have FKG := cells_frame w7.heap.size (fun o => (#[.int .i64 root, .slice a7 q7.length c7] : Array Value)[o]?)
  have hG : w7.heap.size < (w7.alloc (.cells #[.int .i64 root, .slice a7 q7.length c7] 26)).heap.size := by simp
  replace KA := FKA.kept KA bb (by omega)
  replace o4 := Fo4.kept o4 bb (by omega)
  replace KW := FKW.kept KW bb (by omega)
  replace o5 := Fo5.kept o5 bb (by omega)
  replace KX := FKX.kept KX bb (by omega)
  replace o6 := Fo6.kept o6 bb (by omega)
  replace o7 := Fo7.kept o7 bb (by omega)
  replace B := B.trans (bb.mono B.size)
  clear bb
  go_wp2_with fail
  refine (eqBook_same root a7 a4 _ _ c7 c4 q7 q4 _ o7.rd o4.rd (e7.trans e4.symm) (by rw [len_pgs e7]; omega) (pgs_le o7 e7 (by omega))).mono ?_
  rintro e w8 ⟨rfl, b8⟩
  have s8 := b8.size
  replace KA := FKA.kept KA b8 (by omega)
  replace o4 := Fo4.kept o4 b8 (by omega)
  replace KW := FKW.kept KW b8 (by omega)
  replace o5 := Fo5.kept o5 b8 (by omega)
  replace KX := FKX.kept KX b8 (by omega)
  replace o6 := Fo6.kept o6 b8 (by omega)
  replace o7 := Fo7.kept o7 b8 (by omega)
  replace KG := FKG.kept KG b8 (by omega)
  replace B := B.trans (b8.mono B.size)
  clear b8
  have KS : ∀ V, Below w8.heap.size w8 V → (fun V => Below w8.heap.size w8 V ∧ V.cell? ⟨w5.heap.size, 0, none⟩ = some (.int .i64 root) ∧ V.cell? ⟨w5.heap.size, 1, none⟩ = some (.slice a5 q5.length c5) ∧ V.cell? ⟨w.heap.size, 0, none⟩ = some (.int .i64 root) ∧ V.cell? ⟨w.heap.size, 1, none⟩ = some (.slice a ps.length cap)) V := fun V b => ⟨b, (b.cell (p := ⟨w5.heap.size, 0, none⟩) (by show w5.heap.size < _; omega)).trans (KX 0), (b.cell (p := ⟨w5.heap.size, 1, none⟩) (by show w5.heap.size < _; omega)).trans (KX 1), (b.cell (p := ⟨w.heap.size, 0, none⟩) (by show w.heap.size < _; omega)).trans (KA 0), (b.cell (p := ⟨w.heap.size, 1, none⟩) (by show w.heap.size < _; omega)).trans (KA 1)⟩
  have KT : ∀ V V' : World, Below w8.heap.size w8 V → Below V.heap.size V V' → Below w8.heap.size w8 V' := fun V V' b b' => b.trans (b'.mono b.size)
  replace KS := Lib.hid KS
  replace KT := Lib.hid KT
  have BH := Lib.hid B
  replace KA := Lib.hid KA
  replace o4 := Lib.hid o4
  replace KW := Lib.hid KW
  replace o5 := Lib.hid o5
  replace KX := Lib.hid KX
  replace o6 := Lib.hid o6
  replace o7 := Lib.hid o7
  replace KG := Lib.hid KG
  go_wp2_with fail
  go_region_held3 (fun V => Below w8.heap.size w8 V ∧ V.cell? ⟨w5.heap.size, 0, none⟩ = some (.int .i64 root) ∧ V.cell? ⟨w5.heap.size, 1, none⟩ = some (.slice a5 q5.length c5) ∧ V.cell? ⟨w.heap.size, 0, none⟩ = some (.int .i64 root) ∧ V.cell? ⟨w.heap.size, 1, none⟩ = some (.slice a ps.length cap))
    (first | exact KS.out _ (drew_below _) | exact KS.out _ (KT.out _ _ (And.left (by assumption)) hb))
    (first
      | (go_at_call 43; (with_reducible refine (toBook_any root a _ cap ps _ (HR.out.below (BH.out.trans (Below.mono (by first | exact drew_below _ | exact And.left (by assumption)) BH.out.size))) (by omega) (fun p hp => Nat.le_trans (hP.out p hp) (by decide))).mono ?_); rintro e wt ⟨vt, qt, rfl, et, ot, hb⟩; obtain ⟨at', ct, rfl⟩ := ot.shape; have rt := ot.rd; have et' := Lib.hid et; clear et)
      | (go_at_call 39; (with_reducible refine (eqBook_same root a5 at' _ _ c5 ct q5 qt _ ((o5.out.rd).below (by first | exact drew_below _ | exact And.left (by assumption))) rt (e5.trans et'.out.symm) (by rw [len_pgs e5, List.length_map]; omega) (pgs_le o5.out e5 (by omega))).mono ?_); rintro e wu ⟨rfl, hb⟩))
  rename_i hS
  have b9 := hS.1
  clear hS KS KT BH
  replace KA := KA.out
  replace o4 := o4.out
  replace KW := KW.out
  replace o5 := o5.out
  replace KX := KX.out
  replace o6 := o6.out
  replace o7 := o7.out
  replace KG := KG.out
  have s9 := b9.size
  replace KA := FKA.kept KA b9 (by omega)
  replace o4 := Fo4.kept o4 b9 (by omega)
  replace KW := FKW.kept KW b9 (by omega)
  replace o5 := Fo5.kept o5 b9 (by omega)
  replace KX := FKX.kept KX b9 (by omega)
  replace o6 := Fo6.kept o6 b9 (by omega)
  replace o7 := Fo7.kept o7 b9 (by omega)
  replace KG := FKG.kept KG b9 (by omega)
  replace B := B.trans (b9.mono B.size)
  clear b9
  go_wp2_with fail
  refine (toIntS_any a' _ cap' xs _ (HX.out.below B) (by omega)).mono ?_
  rintro e w10 ⟨v10, rfl, o10, b10⟩
  obtain ⟨a10, c10, rfl, -⟩ := o10.rd
  have Fo10 := Own.frame o10
  have t10 := World.ownsRow.lt o10
  have s10 := b10.size
  have l10 := B.size
  replace KA := FKA.kept KA b10 (by omega)
  replace o4 := Fo4.kept o4 b10 (by omega)
  replace KW := FKW.kept KW b10 (by omega)
  replace o5 := Fo5.kept o5 b10 (by omega)
  replace KX := FKX.kept KX b10 (by omega)
  replace o6 := Fo6.kept o6 b10 (by omega)
  replace o7 := Fo7.kept o7 b10 (by omega)
  replace KG := FKG.kept KG b10 (by omega)
  replace B := B.trans (b10.mono B.size)
  clear b10
  go_wp2_with fail
  refine (eqIntS_same a6 a10 _ c6 c10 xs _ (rdI_own o6) (rdI_own o10) (by omega)).mono ?_
  rintro e w11 ⟨rfl, b11⟩
  have s11 := b11.size
  replace KA := FKA.kept KA b11 (by omega)
  replace o4 := Fo4.kept o4 b11 (by omega)
  replace KW := FKW.kept KW b11 (by omega)
  replace o5 := Fo5.kept o5 b11 (by omega)
  replace KX := FKX.kept KX b11 (by omega)
  replace o6 := Fo6.kept o6 b11 (by omega)
  replace o7 := Fo7.kept o7 b11 (by omega)
  replace KG := FKG.kept KG b11 (by omega)
  replace o10 := Fo10.kept o10 b11 (by omega)
  replace B := B.trans (b11.mono B.size)
  clear b11
  clear o10 Fo10
  have m5 := endP_pg o5 e5 (by rw [List.length_map]; omega)
  have hz0 : 0 ≤ endP 1 q5 := by rw [endP_eq]; omega
  go_wp2_with fail
  refine (markBook_any root a5 _ c5 q5 1 _ _ _ o5 i5 (by omega) m5).mono ?_
  rintro e w12 ⟨rfl, p12, g12⟩
  have s12 := g12.size
  replace B := ChgIn.below B B.size g12 (by omega)
  replace KA := FKA.chg KA g12 (by omega) (by omega)
  replace o4 := Fo4.chg o4 g12 (by omega) (by omega)
  replace KW := FKW.chg KW g12 (by omega) (by omega)
  replace KX := FKX.chg KX g12 (by omega) (by omega)
  replace o6 := Fo6.chg o6 g12 (by omega) (by omega)
  replace o7 := Fo7.chg o7 g12 (by omega) (by omega)
  replace KG := FKG.chg KG g12 (by omega) (by omega)
  clear o5 Fo5
  clear g12 p12
  have hz : ¬ endP 1 q5 + (xs.length : Int) < 0 := by omega
  go_wp2_with fail
  refine (markIntS_any a6 _ c6 xs (endP 1 q5) _ _ o6 rfl (by omega) (by omega) (by omega)).mono ?_
  rintro e w13 ⟨rfl, p6, y6⟩
  have g6 := ChgIn.of_grown (lo := (w5.alloc (.cells #[.int .i64 root, .slice a5 q5.length c5] 26)).heap.size) (hi := w6.heap.size) y6 t6
  have s13 := g6.size
  replace B := ChgIn.below B B.size g6 (by omega)
  replace KA := FKA.chg KA g6 (by omega) (by omega)
  replace o4 := Fo4.chg o4 g6 (by omega) (by omega)
  replace KW := FKW.chg KW g6 (by omega) (by omega)
  replace KX := FKX.chg KX g6 (by omega) (by omega)
  replace o7 := Fo7.chg o7 g6 (by omega) (by omega)
  replace KG := FKG.chg KG g6 (by omega) (by omega)
  clear o6 Fo6 y6 g6 p6
  go_wp2_with fail
  refine (eqBook_same root a7 a4 _ _ c7 c4 q7 q4 _ o7.rd o4.rd (e7.trans e4.symm) (by rw [len_pgs e7]; omega) (pgs_le o7 e7 (by omega))).mono ?_
  rintro e w14 ⟨rfl, b14⟩
  have s14 := b14.size
  replace KA := FKA.kept KA b14 (by omega)
  replace o4 := Fo4.kept o4 b14 (by omega)
  replace KW := FKW.kept KW b14 (by omega)
  replace KX := FKX.kept KX b14 (by omega)
  replace o7 := Fo7.kept o7 b14 (by omega)
  replace KG := FKG.kept KG b14 (by omega)
  replace B := B.trans (b14.mono B.size)
  clear b14
  have m7 := endP_pg o7 e7 (by omega)
  have hz2 : ¬ endP 1 q7 < 0 := by rw [endP_eq]; omega
  go_wp2_with fail
  refine (markBook_any root a7 _ c7 q7 1 _ _ _ o7 i7 (by omega) m7).mono ?_
  rintro e w15 ⟨rfl, p15, g15⟩
  have s15 := g15.size
  replace B := ChgIn.below B B.size g15 (by omega)
  replace KA := FKA.chg KA g15 (by omega) (by omega)
  replace o4 := Fo4.chg o4 g15 (by omega) (by omega)
  replace KW := FKW.chg KW g15 (by omega) (by omega)
  replace KX := FKX.chg KX g15 (by omega) (by omega)
  replace KG := FKG.chg KG g15 (by omega) (by omega)
  clear o7 Fo7
  have Fp15 := p15.frame
  clear g15
  go_wp2_with fail
  refine (heldBook_any root a7 _ c7 q7 1 _ (by have := p15.rd; exact this) (by omega) m7).mono ?_
  rintro e w16 ⟨rfl, b16⟩
  have s16 := b16.size
  replace KA := FKA.kept KA b16 (by omega)
  replace o4 := Fo4.kept o4 b16 (by omega)
  replace KW := FKW.kept KW b16 (by omega)
  replace KX := FKX.kept KX b16 (by omega)
  replace KG := FKG.kept KG b16 (by omega)
  replace p15 := Fp15.kept p15 b16 (by omega)
  replace B := B.trans (b16.mono B.size)
  clear b16
  go_wp2_with fail
  refine (toBook_any root a _ cap ps _ (HR.out.below B) (by omega) (fun p hp => Nat.le_trans (hP.out p hp) (by decide))).mono ?_
  rintro e w17 ⟨v17, q17, rfl, e17, o17, b17⟩
  obtain ⟨a17, c17, rfl⟩ := o17.shape
  have Fo17 := o17.frame
  have i17 := o17.inb
  have s17 := b17.size
  have l17 := B.size
  replace KA := FKA.kept KA b17 (by omega)
  replace o4 := Fo4.kept o4 b17 (by omega)
  replace KW := FKW.kept KW b17 (by omega)
  replace KX := FKX.kept KX b17 (by omega)
  replace KG := FKG.kept KG b17 (by omega)
  replace p15 := Fp15.kept p15 b17 (by omega)
  replace B := B.trans (b17.mono B.size)
  clear b17
  go_wp2_with fail
  refine (toIntS_any a' _ cap' xs _ (HX.out.below B) (by omega)).mono ?_
  rintro e w18 ⟨v18, rfl, o18, b18⟩
  obtain ⟨a18, c18, rfl, -⟩ := o18.rd
  have Fo18 := Own.frame o18
  have t18 := World.ownsRow.lt o18
  have s18 := b18.size
  have l18 := B.size
  replace KA := FKA.kept KA b18 (by omega)
  replace o4 := Fo4.kept o4 b18 (by omega)
  replace KW := FKW.kept KW b18 (by omega)
  replace KX := FKX.kept KX b18 (by omega)
  replace KG := FKG.kept KG b18 (by omega)
  replace p15 := Fp15.kept p15 b18 (by omega)
  replace o17 := Fo17.kept o17 b18 (by omega)
  replace B := B.trans (b18.mono B.size)
  clear b18
  go_wp2_with fail
  refine (C.out a17 _ c17 q17 a18 _ c18 _ o17.rd (rdI_own o18) e17 (by rw [len_pgs e17, List.length_map]; omega) (pgs_le o17 e17 (by omega))).mono ?_
  rintro e w19 ⟨v19, q19, rfl, e19, o19, b19⟩
  obtain ⟨a19, c19, rfl⟩ := o19.shape
  have Fo19 := o19.frame
  have i19 := o19.inb
  have s19 := b19.size
  have l19 := B.size
  replace KA := FKA.kept KA b19 (by omega)
  replace o4 := Fo4.kept o4 b19 (by omega)
  replace KW := FKW.kept KW b19 (by omega)
  replace KX := FKX.kept KX b19 (by omega)
  replace KG := FKG.kept KG b19 (by omega)
  replace p15 := Fp15.kept p15 b19 (by omega)
  replace o17 := Fo17.kept o17 b19 (by omega)
  replace o18 := Fo18.kept o18 b19 (by omega)
  replace B := B.trans (b19.mono B.size)
  clear b19
  have bb := new_below w19 (.cells #[.int .i64 root, .slice a19 q19.length c19] 26)
  have KZ := (blk_new w19 #[.int .i64 root, .slice a19 q19.length c19] 26).1
  have FKZ := cells_frame w19.heap.size (fun o => (#[.int .i64 root, .slice a19 q19.length c19] : Array Value)[o]?)
  have hZ : w19.heap.size < (w19.alloc (.cells #[.int .i64 root, .slice a19 q19.length c19] 26)).heap.size := by simp
  replace KA := FKA.kept KA bb (by omega)
  replace o4 := Fo4.kept o4 bb (by omega)
  replace KW := FKW.kept KW bb (by omega)
  replace KX := FKX.kept KX bb (by omega)
  replace KG := FKG.kept KG bb (by omega)
  replace p15 := Fp15.kept p15 bb (by omega)
  replace o17 := Fo17.kept o17 bb (by omega)
  replace o18 := Fo18.kept o18 bb (by omega)
  replace o19 := Fo19.kept o19 bb (by omega)
  replace B := B.trans (bb.mono B.size)
  clear bb
  go_wp2_with fail
  refine (eqBook_same root a19 a4 _ _ c19 c4 q19 q4 _ o19.rd o4.rd (e19.trans e4.symm) (by rw [len_pgs e19]; omega) (pgs_le o19 e19 (by omega))).mono ?_
  rintro e w20 ⟨rfl, b20⟩
  have s20 := b20.size
  replace KA := FKA.kept KA b20 (by omega)
  replace o4 := Fo4.kept o4 b20 (by omega)
  replace KW := FKW.kept KW b20 (by omega)
  replace KX := FKX.kept KX b20 (by omega)
  replace KG := FKG.kept KG b20 (by omega)
  replace p15 := Fp15.kept p15 b20 (by omega)
  replace o17 := Fo17.kept o17 b20 (by omega)
  replace o18 := Fo18.kept o18 b20 (by omega)
  replace o19 := Fo19.kept o19 b20 (by omega)
  replace KZ := FKZ.kept KZ b20 (by omega)
  replace B := B.trans (b20.mono B.size)
  clear b20
  go_wp2_with fail
  refine (heldBook_any root a7 _ c7 q7 1 _ (by have := p15.rd; exact this) (by omega) m7).mono ?_
  rintro e w21 ⟨rfl, b21⟩
  have s21 := b21.size
  replace KA := FKA.kept KA b21 (by omega)
  replace o4 := Fo4.kept o4 b21 (by omega)
  replace KW := FKW.kept KW b21 (by omega)
  replace KX := FKX.kept KX b21 (by omega)
  replace KG := FKG.kept KG b21 (by omega)
  replace p15 := Fp15.kept p15 b21 (by omega)
  replace o17 := Fo17.kept o17 b21 (by omega)
  replace o18 := Fo18.kept o18 b21 (by omega)
  replace o19 := Fo19.kept o19 b21 (by omega)
  replace KZ := FKZ.kept KZ b21 (by omega)
  replace B := B.trans (b21.mono B.size)
  clear b21
  go_wp2
  go_ret
  exact ⟨rfl, B⟩

theorem exFree_walk (C : CFree 24) (root : Int) (a : Option Addr) (n cap : Nat) (ps : List PgV) (a' : Option Addr) (n' cap' : Nat) (xs : List Int) (w : World) (h : RdP w a n cap ps) (h' : RdI .i64 w a' n' cap' xs) :
    Calls Try.prog 9 #[.agg #[.int .i64 root, .slice a n cap], .slice a' n' cap'] w fun e w' => e = .returned (.bool true) ∧ Below w.heap.size w w' :=
  exFree_core root a n cap ps a' n' cap' xs (freeV (ps.map PgV.pg) xs)
    (fun h1 h2 => by
      obtain ⟨h4, h5⟩ := freeV_le xs (ps.map PgV.pg)
      rw [List.length_map] at h4
      exact ⟨by omega, by omega⟩)
    (fun a n cap qs a' n' cap' W hq hx e hn hp => by have := sFree_any root a n cap qs a' n' cap' xs W hq hx hn hp; rw [e] at this; exact this)
    (fun a n cap qs a' n' cap' W hq hx e hn hp => by have := C root a n cap qs a' n' cap' xs W hq hx hn hp; rw [e] at this; exact this) w h h'
end Go.Proofs.Ytnebhbnogmhbgaa
