/- The exact law of Alloc. -/
import Derived.Test.YtnebhbnogmhbgaaBookX
namespace Go.Proofs.Ytnebhbnogmhbgaa
open Go.RowKit

set_option maxHeartbeats 3200000 in
set_option maxRecDepth 100000 in
theorem exAlloc_core (root : Int) (a : Option Addr) (n cap : Nat) (ps : List PgV) (L : List Pg) (y : Int) (hL : L.length ≤ ps.length + 1 ∧ totG L ≤ totG (ps.map PgV.pg)) (CS : (∀ (a : Option Addr) (n cap : Nat) (qs : List PgV) (W : World), RdP W a n cap qs → qs.map PgV.pg = ps.map PgV.pg → n ≤ 1099511627776 → (∀ p ∈ qs, p.n ≤ 1099511627776) → Calls Try.prog 16 #[.agg #[.int .i64 root, .slice a n cap]] W (NewBookI root (L, y) W))) (C : (∀ (a : Option Addr) (n cap : Nat) (qs : List PgV) (W : World), RdP W a n cap qs → qs.map PgV.pg = ps.map PgV.pg → n ≤ 1099511627776 → (∀ p ∈ qs, p.n ≤ 1099511627776) → Calls Try.prog 15 #[.agg #[.int .i64 root, .slice a n cap]] W (NewBookI root (L, y) W))) (w : World) (h : RdP w a n cap ps) :
    Calls Try.prog 8 #[.agg #[.int .i64 root, .slice a n cap]] w fun e w' => e = .returned (.bool true) ∧ Below w.heap.size w w' := by
  have hln := h.1.1.1
  subst hln
  have KA := (blk_new w #[.int .i64 root, .slice a ps.length cap] 56).1
  have hA : w.heap.size < (w.alloc (.cells #[.int .i64 root, .slice a ps.length cap] 56)).heap.size := by simp
  have B := new_below w (.cells #[.int .i64 root, .slice a ps.length cap] 56)
  have FKA := cells_frame (w.heap.size) (fun o => (#[.int .i64 root, .slice a ps.length cap] : Array Value)[o]?)
  have HR := Lib.hid h
  clear h
  replace C := Lib.hid C
  replace CS := Lib.hid CS
  go_enter Try.func8, Try.ntmps8
  go_wp2_with fail
  refine (szBook_any root a _ cap ps 1048576 _ (HR.out.below B) (by omega)).mono ?_
  rintro e w1 ⟨r1, rfl, z1, b1⟩
  have s1 := b1.size
  replace KA := FKA.kept KA b1 (by omega)
  replace B := B.trans (b1.mono B.size)
  clear b1
  by_cases y1 : r1 < 0
  · go_wp2
    go_ret
    exact ⟨rfl, B⟩
  have hn : ps.length ≤ 1048576 := by omega
  have hT : totG (ps.map PgV.pg) ≤ 1048576 := by rw [← totP_rd HR.out]; omega
  have hP : Hid (∀ p ∈ ps, p.n ≤ 1048576) := Lib.hid (pgs_rd HR.out rfl hT)
  have hr : 0 ≤ r1 ∧ r1 ≤ 1048576 := by omega
  clear z1
  obtain ⟨hL1, hL2⟩ := hL
  go_wp2_with fail
  refine (toBook_any root a _ cap ps _ (HR.out.below B) (by omega) (fun p hp => Nat.le_trans (hP.out p hp) (by decide))).mono ?_
  rintro e w2 ⟨v2, q2, rfl, e2, o2, b2⟩
  obtain ⟨a2, c2, rfl⟩ := o2.shape
  have Fo2 := o2.frame
  have i2 := o2.inb
  have s2 := b2.size
  have l2 := B.size
  replace KA := FKA.kept KA b2 (by omega)
  replace B := B.trans (b2.mono B.size)
  clear b2
  go_wp2_with fail
  refine (CS.out a2 _ c2 q2 _ o2.rd e2 (by rw [len_pgs e2, List.length_map]; omega) (pgs_le o2 e2 (by omega))).mono ?_
  rintro e w3 ⟨v3, q3, rfl, e3, o3, b3⟩
  replace e3 : q3.map PgV.pg = L := e3
  obtain ⟨a3, c3, rfl⟩ := o3.shape
  have Fo3 := o3.frame
  have i3 := o3.inb
  have s3 := b3.size
  have l3 := B.size
  replace KA := FKA.kept KA b3 (by omega)
  replace o2 := Fo2.kept o2 b3 (by omega)
  replace B := B.trans (b3.mono B.size)
  clear b3
  clear o2 Fo2
  have bb := new_below w3 (.cells #[.int .i64 root, .slice a3 q3.length c3] 26)
  have KW := (blk_new w3 #[.int .i64 root, .slice a3 q3.length c3] 26).1
  have FKW := cells_frame w3.heap.size (fun o => (#[.int .i64 root, .slice a3 q3.length c3] : Array Value)[o]?)
  have hW : w3.heap.size < (w3.alloc (.cells #[.int .i64 root, .slice a3 q3.length c3] 26)).heap.size := by simp
  replace KA := FKA.kept KA bb (by omega)
  replace o3 := Fo3.kept o3 bb (by omega)
  replace B := B.trans (bb.mono B.size)
  clear bb
  go_wp2_with fail
  refine (toBook_any root a _ cap ps _ (HR.out.below B) (by omega) (fun p hp => Nat.le_trans (hP.out p hp) (by decide))).mono ?_
  rintro e w4 ⟨v4, q4, rfl, e4, o4, b4⟩
  obtain ⟨a4, c4, rfl⟩ := o4.shape
  have Fo4 := o4.frame
  have i4 := o4.inb
  have s4 := b4.size
  have l4 := B.size
  replace KA := FKA.kept KA b4 (by omega)
  replace o3 := Fo3.kept o3 b4 (by omega)
  replace KW := FKW.kept KW b4 (by omega)
  replace B := B.trans (b4.mono B.size)
  clear b4
  have bb := new_below w4 (.cells #[.int .i64 root, .slice a4 q4.length c4] 26)
  have KX := (blk_new w4 #[.int .i64 root, .slice a4 q4.length c4] 26).1
  have FKX := cells_frame w4.heap.size (fun o => (#[.int .i64 root, .slice a4 q4.length c4] : Array Value)[o]?)
  have hX : w4.heap.size < (w4.alloc (.cells #[.int .i64 root, .slice a4 q4.length c4] 26)).heap.size := by simp
  replace KA := FKA.kept KA bb (by omega)
  replace o3 := Fo3.kept o3 bb (by omega)
  replace KW := FKW.kept KW bb (by omega)
  replace o4 := Fo4.kept o4 bb (by omega)
  replace B := B.trans (bb.mono B.size)
  clear bb
  go_wp2_with fail
  refine (C.out a4 _ c4 q4 _ o4.rd e4 (by rw [len_pgs e4, List.length_map]; omega) (pgs_le o4 e4 (by omega))).mono ?_
  rintro e w5 ⟨v5, q5, rfl, e5, o5, b5⟩
  replace e5 : q5.map PgV.pg = L := e5
  obtain ⟨a5, c5, rfl⟩ := o5.shape
  have Fo5 := o5.frame
  have i5 := o5.inb
  have s5 := b5.size
  have l5 := B.size
  replace KA := FKA.kept KA b5 (by omega)
  replace o3 := Fo3.kept o3 b5 (by omega)
  replace KW := FKW.kept KW b5 (by omega)
  replace o4 := Fo4.kept o4 b5 (by omega)
  replace KX := FKX.kept KX b5 (by omega)
  replace B := B.trans (b5.mono B.size)
  clear b5
  have bb := new_below w5 (.cells #[.int .i64 root, .slice a5 q5.length c5] 26)
  have KG := (blk_new w5 #[.int .i64 root, .slice a5 q5.length c5] 26).1
  have FKG := cells_frame w5.heap.size (fun o => (#[.int .i64 root, .slice a5 q5.length c5] : Array Value)[o]?)
  have hG : w5.heap.size < (w5.alloc (.cells #[.int .i64 root, .slice a5 q5.length c5] 26)).heap.size := by simp
  replace KA := FKA.kept KA bb (by omega)
  replace o3 := Fo3.kept o3 bb (by omega)
  replace KW := FKW.kept KW bb (by omega)
  replace o4 := Fo4.kept o4 bb (by omega)
  replace KX := FKX.kept KX bb (by omega)
  replace o5 := Fo5.kept o5 bb (by omega)
  replace B := B.trans (bb.mono B.size)
  clear bb
  go_wp2_with fail
  refine (eqBook_same root a5 a3 _ _ c5 c3 q5 q3 _ o5.rd o3.rd (e5.trans e3.symm) (by rw [len_pgs e5]; omega) (pgs_le o5 e5 (by omega))).mono ?_
  rintro e w6 ⟨rfl, b6⟩
  have s6 := b6.size
  replace KA := FKA.kept KA b6 (by omega)
  replace o3 := Fo3.kept o3 b6 (by omega)
  replace KW := FKW.kept KW b6 (by omega)
  replace o4 := Fo4.kept o4 b6 (by omega)
  replace KX := FKX.kept KX b6 (by omega)
  replace o5 := Fo5.kept o5 b6 (by omega)
  replace KG := FKG.kept KG b6 (by omega)
  replace B := B.trans (b6.mono B.size)
  clear b6
  have KS : ∀ V, Below w6.heap.size w6 V → (fun V => Below w6.heap.size w6 V ∧ V.cell? ⟨w4.heap.size, 0, none⟩ = some (.int .i64 root) ∧ V.cell? ⟨w4.heap.size, 1, none⟩ = some (.slice a4 q4.length c4) ∧ V.cell? ⟨w.heap.size, 0, none⟩ = some (.int .i64 root) ∧ V.cell? ⟨w.heap.size, 1, none⟩ = some (.slice a ps.length cap)) V := fun V b => ⟨b, (b.cell (p := ⟨w4.heap.size, 0, none⟩) (by show w4.heap.size < _; omega)).trans (KX 0), (b.cell (p := ⟨w4.heap.size, 1, none⟩) (by show w4.heap.size < _; omega)).trans (KX 1), (b.cell (p := ⟨w.heap.size, 0, none⟩) (by show w.heap.size < _; omega)).trans (KA 0), (b.cell (p := ⟨w.heap.size, 1, none⟩) (by show w.heap.size < _; omega)).trans (KA 1)⟩
  have KT : ∀ V V' : World, Below w6.heap.size w6 V → Below V.heap.size V V' → Below w6.heap.size w6 V' := fun V V' b b' => b.trans (b'.mono b.size)
  replace KS := Lib.hid KS
  replace KT := Lib.hid KT
  have BH := Lib.hid B
  replace KA := Lib.hid KA
  replace o3 := Lib.hid o3
  replace KW := Lib.hid KW
  replace o4 := Lib.hid o4
  replace KX := Lib.hid KX
  replace o5 := Lib.hid o5
  replace KG := Lib.hid KG
  go_wp2_with fail
  go_region_held3 (fun V => Below w6.heap.size w6 V ∧ V.cell? ⟨w4.heap.size, 0, none⟩ = some (.int .i64 root) ∧ V.cell? ⟨w4.heap.size, 1, none⟩ = some (.slice a4 q4.length c4) ∧ V.cell? ⟨w.heap.size, 0, none⟩ = some (.int .i64 root) ∧ V.cell? ⟨w.heap.size, 1, none⟩ = some (.slice a ps.length cap))
    (first | exact KS.out _ (drew_below _) | exact KS.out _ (KT.out _ _ (And.left (by assumption)) hb))
    (first
      | (go_at_call 43; (with_reducible refine (toBook_any root a _ cap ps _ (HR.out.below (BH.out.trans (Below.mono (by first | exact drew_below _ | exact And.left (by assumption)) BH.out.size))) (by omega) (fun p hp => Nat.le_trans (hP.out p hp) (by decide))).mono ?_); rintro e wt ⟨vt, qt, rfl, et, ot, hb⟩; obtain ⟨at', ct, rfl⟩ := ot.shape; have rt := ot.rd; have et' := Lib.hid et; clear et)
      | (go_at_call 39; (with_reducible refine (eqBook_same root a4 at' _ _ c4 ct q4 qt _ ((o4.out.rd).below (by first | exact drew_below _ | exact And.left (by assumption))) rt (e4.trans et'.out.symm) (by rw [len_pgs e4, List.length_map]; omega) (pgs_le o4.out e4 (by omega))).mono ?_); rintro e wu ⟨rfl, hb⟩))
  rename_i hS
  have b7 := hS.1
  clear hS KS KT BH
  replace KA := KA.out
  replace o3 := o3.out
  replace KW := KW.out
  replace o4 := o4.out
  replace KX := KX.out
  replace o5 := o5.out
  replace KG := KG.out
  have s7 := b7.size
  replace KA := FKA.kept KA b7 (by omega)
  replace o3 := Fo3.kept o3 b7 (by omega)
  replace KW := FKW.kept KW b7 (by omega)
  replace o4 := Fo4.kept o4 b7 (by omega)
  replace KX := FKX.kept KX b7 (by omega)
  replace o5 := Fo5.kept o5 b7 (by omega)
  replace KG := FKG.kept KG b7 (by omega)
  replace B := B.trans (b7.mono B.size)
  clear b7
  have m4 := endP_pg o4 e4 (by rw [List.length_map]; omega)
  have hz : ¬ endP 1 q4 < 0 := by rw [endP_eq]; omega
  go_wp2_with fail
  refine (markBook_any root a4 _ c4 q4 1 _ _ _ o4 i4 (by omega) m4).mono ?_
  rintro e w8 ⟨rfl, p8, g8⟩
  have s8 := g8.size
  replace B := ChgIn.below B B.size g8 (by omega)
  replace KA := FKA.chg KA g8 (by omega) (by omega)
  replace o3 := Fo3.chg o3 g8 (by omega) (by omega)
  replace KW := FKW.chg KW g8 (by omega) (by omega)
  replace KX := FKX.chg KX g8 (by omega) (by omega)
  replace o5 := Fo5.chg o5 g8 (by omega) (by omega)
  replace KG := FKG.chg KG g8 (by omega) (by omega)
  clear o4 Fo4
  clear g8 p8
  go_wp2_with fail
  refine (eqBook_same root a5 a3 _ _ c5 c3 q5 q3 _ o5.rd o3.rd (e5.trans e3.symm) (by rw [len_pgs e5]; omega) (pgs_le o5 e5 (by omega))).mono ?_
  rintro e w9 ⟨rfl, b9⟩
  have s9 := b9.size
  replace KA := FKA.kept KA b9 (by omega)
  replace o3 := Fo3.kept o3 b9 (by omega)
  replace KW := FKW.kept KW b9 (by omega)
  replace KX := FKX.kept KX b9 (by omega)
  replace o5 := Fo5.kept o5 b9 (by omega)
  replace KG := FKG.kept KG b9 (by omega)
  replace B := B.trans (b9.mono B.size)
  clear b9
  have m5 := endP_pg o5 e5 (by omega)
  have hz2 : ¬ endP 1 q5 < 0 := by rw [endP_eq]; omega
  go_wp2_with fail
  refine (markBook_any root a5 _ c5 q5 1 _ _ _ o5 i5 (by omega) m5).mono ?_
  rintro e w10 ⟨rfl, p10, g10⟩
  have s10 := g10.size
  replace B := ChgIn.below B B.size g10 (by omega)
  replace KA := FKA.chg KA g10 (by omega) (by omega)
  replace o3 := Fo3.chg o3 g10 (by omega) (by omega)
  replace KW := FKW.chg KW g10 (by omega) (by omega)
  replace KX := FKX.chg KX g10 (by omega) (by omega)
  replace KG := FKG.chg KG g10 (by omega) (by omega)
  clear o5 Fo5
  have Fp10 := p10.frame
  clear g10
  go_wp2_with fail
  refine (heldBook_any root a5 _ c5 q5 1 _ (by have := p10.rd; exact this) (by omega) m5).mono ?_
  rintro e w11 ⟨rfl, b11⟩
  have s11 := b11.size
  replace KA := FKA.kept KA b11 (by omega)
  replace o3 := Fo3.kept o3 b11 (by omega)
  replace KW := FKW.kept KW b11 (by omega)
  replace KX := FKX.kept KX b11 (by omega)
  replace KG := FKG.kept KG b11 (by omega)
  replace p10 := Fp10.kept p10 b11 (by omega)
  replace B := B.trans (b11.mono B.size)
  clear b11
  go_wp2_with fail
  refine (toBook_any root a _ cap ps _ (HR.out.below B) (by omega) (fun p hp => Nat.le_trans (hP.out p hp) (by decide))).mono ?_
  rintro e w12 ⟨v12, q12, rfl, e12, o12, b12⟩
  obtain ⟨a12, c12, rfl⟩ := o12.shape
  have Fo12 := o12.frame
  have i12 := o12.inb
  have s12 := b12.size
  have l12 := B.size
  replace KA := FKA.kept KA b12 (by omega)
  replace o3 := Fo3.kept o3 b12 (by omega)
  replace KW := FKW.kept KW b12 (by omega)
  replace KX := FKX.kept KX b12 (by omega)
  replace KG := FKG.kept KG b12 (by omega)
  replace p10 := Fp10.kept p10 b12 (by omega)
  replace B := B.trans (b12.mono B.size)
  clear b12
  go_wp2_with fail
  refine (C.out a12 _ c12 q12 _ o12.rd e12 (by rw [len_pgs e12, List.length_map]; omega) (pgs_le o12 e12 (by omega))).mono ?_
  rintro e w13 ⟨v13, q13, rfl, e13, o13, b13⟩
  replace e13 : q13.map PgV.pg = L := e13
  obtain ⟨a13, c13, rfl⟩ := o13.shape
  have Fo13 := o13.frame
  have i13 := o13.inb
  have s13 := b13.size
  have l13 := B.size
  replace KA := FKA.kept KA b13 (by omega)
  replace o3 := Fo3.kept o3 b13 (by omega)
  replace KW := FKW.kept KW b13 (by omega)
  replace KX := FKX.kept KX b13 (by omega)
  replace KG := FKG.kept KG b13 (by omega)
  replace p10 := Fp10.kept p10 b13 (by omega)
  replace o12 := Fo12.kept o12 b13 (by omega)
  replace B := B.trans (b13.mono B.size)
  clear b13
  have bb := new_below w13 (.cells #[.int .i64 root, .slice a13 q13.length c13] 26)
  have KZ := (blk_new w13 #[.int .i64 root, .slice a13 q13.length c13] 26).1
  have FKZ := cells_frame w13.heap.size (fun o => (#[.int .i64 root, .slice a13 q13.length c13] : Array Value)[o]?)
  have hZ : w13.heap.size < (w13.alloc (.cells #[.int .i64 root, .slice a13 q13.length c13] 26)).heap.size := by simp
  replace KA := FKA.kept KA bb (by omega)
  replace o3 := Fo3.kept o3 bb (by omega)
  replace KW := FKW.kept KW bb (by omega)
  replace KX := FKX.kept KX bb (by omega)
  replace KG := FKG.kept KG bb (by omega)
  replace p10 := Fp10.kept p10 bb (by omega)
  replace o12 := Fo12.kept o12 bb (by omega)
  replace o13 := Fo13.kept o13 bb (by omega)
  replace B := B.trans (bb.mono B.size)
  clear bb
  go_wp2_with fail
  refine (eqBook_same root a13 a3 _ _ c13 c3 q13 q3 _ o13.rd o3.rd (e13.trans e3.symm) (by rw [len_pgs e13]; omega) (pgs_le o13 e13 (by omega))).mono ?_
  rintro e w14 ⟨rfl, b14⟩
  have s14 := b14.size
  replace KA := FKA.kept KA b14 (by omega)
  replace o3 := Fo3.kept o3 b14 (by omega)
  replace KW := FKW.kept KW b14 (by omega)
  replace KX := FKX.kept KX b14 (by omega)
  replace KG := FKG.kept KG b14 (by omega)
  replace p10 := Fp10.kept p10 b14 (by omega)
  replace o12 := Fo12.kept o12 b14 (by omega)
  replace o13 := Fo13.kept o13 b14 (by omega)
  replace KZ := FKZ.kept KZ b14 (by omega)
  replace B := B.trans (b14.mono B.size)
  clear b14
  go_wp2_with fail
  refine (heldBook_any root a5 _ c5 q5 1 _ (by have := p10.rd; exact this) (by omega) m5).mono ?_
  rintro e w15 ⟨rfl, b15⟩
  have s15 := b15.size
  replace KA := FKA.kept KA b15 (by omega)
  replace o3 := Fo3.kept o3 b15 (by omega)
  replace KW := FKW.kept KW b15 (by omega)
  replace KX := FKX.kept KX b15 (by omega)
  replace KG := FKG.kept KG b15 (by omega)
  replace p10 := Fp10.kept p10 b15 (by omega)
  replace o12 := Fo12.kept o12 b15 (by omega)
  replace o13 := Fo13.kept o13 b15 (by omega)
  replace KZ := FKZ.kept KZ b15 (by omega)
  replace B := B.trans (b15.mono B.size)
  clear b15
  go_wp2
  go_ret
  exact ⟨rfl, B⟩

theorem exAlloc_walk (C : CAlloc 15) (root : Int) (a : Option Addr) (n cap : Nat) (ps : List PgV) (w : World) (h : RdP w a n cap ps) :
    Calls Try.prog 8 #[.agg #[.int .i64 root, .slice a n cap]] w fun e w' => e = .returned (.bool true) ∧ Below w.heap.size w w' :=
  exAlloc_core root a n cap ps (allocV (ps.map PgV.pg)).1 (allocV (ps.map PgV.pg)).2
    (by have := allocV_le (ps.map PgV.pg); rw [List.length_map] at this; exact this)
    (fun a n cap qs W hq e hn hp => by have := sAlloc_any root a n cap qs W hq hn hp; rw [e] at this; exact this)
    (fun a n cap qs W hq e hn hp => by have := C root a n cap qs W hq hn hp; rw [e] at this; exact this) w h
end Go.Proofs.Ytnebhbnogmhbgaa
