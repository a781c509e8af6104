/- The exact law of Leaves. -/
import Derived.Test.YtfefggcfeppeiaaLookYZExSix
import Derived.Test.YtfefggcfeppeiaaQExSixd
namespace Go.Proofs.Ytfefggcfeppeiaa
open Go.RowKit

set_option maxHeartbeats 3200000 in
set_option maxRecDepth 100000 in
theorem exLeaves_core (root : Int) (a : Option Addr) (n cap : Nat) (ps : List PgV) (L : List Int) (hL : totG (ps.map PgV.pg) ≤ 1048576 → ps.length ≤ 1048576 → L.length ≤ 1048576) (CS : (∀ (a : Option Addr) (n cap : Nat) (qs : List PgV) (W : World), RdP W a n cap qs → qs.map PgV.pg = ps.map PgV.pg → n ≤ 1048576 → totG (ps.map PgV.pg) ≤ 1048576 → Calls Try.prog 44 #[.agg #[.int .i64 root, .slice a n cap]] W (RetI L W))) (C : (∀ (a : Option Addr) (n cap : Nat) (qs : List PgV) (W : World), RdP W a n cap qs → qs.map PgV.pg = ps.map PgV.pg → n ≤ 1048576 → totG (ps.map PgV.pg) ≤ 1048576 → Calls Try.prog 45 #[.agg #[.int .i64 root, .slice a n cap]] W (RetI L W))) (w : World) (h : RdP w a n cap ps) :
    Calls Try.prog 7 #[.agg #[.int .i64 root, .slice a n cap]] w fun e w' => e = .returned (.bool true) ∧ Below w.heap.size w w' := by
  have hln := h.1.1.1
  subst hln
  have KA := (blk_new w #[.int .i64 root, .slice a ps.length cap] 51).1
  have hA : w.heap.size < (w.alloc (.cells #[.int .i64 root, .slice a ps.length cap] 51)).heap.size := by simp
  have B := new_below w (.cells #[.int .i64 root, .slice a ps.length cap] 51)
  have FKA := cells_frame (w.heap.size) (fun o => (#[.int .i64 root, .slice a ps.length cap] : Array Value)[o]?)
  have HR := Lib.hid h
  clear h
  replace C := Lib.hid C
  replace CS := Lib.hid CS
  go_enter Try.func7, Try.ntmps7
  go_wp2_with fail
  refine (szBook_any root a _ cap ps 1048576 _ (HR.out.below B) (by omega)).mono ?_
  rintro e w1 ⟨r1, rfl, z1, b1⟩
  have s1 := b1.size
  replace KA := FKA.kept KA b1 (by omega)
  replace B := B.trans (b1.mono B.size)
  clear b1
  by_cases y1 : r1 < 0
  · go_wp2
    go_ret
    exact ⟨rfl, B⟩
  have hn : ps.length ≤ 1048576 := by omega
  have hT : totG (ps.map PgV.pg) ≤ 1048576 := by rw [← totP_rd HR.out]; omega
  have hP : Hid (∀ p ∈ ps, p.n ≤ 1048576) := Lib.hid (pgs_rd HR.out rfl hT)
  have hr : 0 ≤ r1 ∧ r1 ≤ 1048576 := by omega
  clear z1
  replace hL := hL hT hn
  go_wp2_with fail
  refine (toBook_any root a _ cap ps _ (HR.out.below B) (by omega) (fun p hp => Nat.le_trans (hP.out p hp) (by decide))).mono ?_
  rintro e w2 ⟨v2, q2, rfl, e2, o2, b2⟩
  obtain ⟨a2, c2, rfl⟩ := o2.shape
  have Fo2 := o2.frame
  have i2 := o2.inb
  have s2 := b2.size
  have l2 := B.size
  replace KA := FKA.kept KA b2 (by omega)
  replace B := B.trans (b2.mono B.size)
  clear b2
  go_wp2_with fail
  refine (CS.out a2 _ c2 q2 _ o2.rd e2 (by rw [len_pgs e2, List.length_map]; omega) hT).mono ?_
  rintro e w3 ⟨v3, rfl, o3, b3⟩
  obtain ⟨a3, c3, rfl, -⟩ := o3.rd
  have Fo3 := Own.frame o3
  have t3 := World.ownsRow.lt o3
  have s3 := b3.size
  have l3 := B.size
  replace KA := FKA.kept KA b3 (by omega)
  replace o2 := Fo2.kept o2 b3 (by omega)
  replace B := B.trans (b3.mono B.size)
  clear b3
  clear o2 Fo2
  go_wp2_with fail
  refine (toBook_any root a _ cap ps _ (HR.out.below B) (by omega) (fun p hp => Nat.le_trans (hP.out p hp) (by decide))).mono ?_
  rintro e w4 ⟨v4, q4, rfl, e4, o4, b4⟩
  obtain ⟨a4, c4, rfl⟩ := o4.shape
  have Fo4 := o4.frame
  have i4 := o4.inb
  have s4 := b4.size
  have l4 := B.size
  replace KA := FKA.kept KA b4 (by omega)
  replace o3 := Fo3.kept o3 b4 (by omega)
  replace B := B.trans (b4.mono B.size)
  clear b4
  have bb := new_below w4 (.cells #[.int .i64 root, .slice a4 q4.length c4] 26)
  have KX := (blk_new w4 #[.int .i64 root, .slice a4 q4.length c4] 26).1
  have FKX := cells_frame w4.heap.size (fun o => (#[.int .i64 root, .slice a4 q4.length c4] : Array Value)[o]?)
  have hX : w4.heap.size < (w4.alloc (.cells #[.int .i64 root, .slice a4 q4.length c4] 26)).heap.size := by simp
  replace KA := FKA.kept KA bb (by omega)
  replace o3 := Fo3.kept o3 bb (by omega)
  replace o4 := Fo4.kept o4 bb (by omega)
  replace B := B.trans (bb.mono B.size)
  clear bb
  go_wp2_with fail
  refine (C.out a4 _ c4 q4 _ o4.rd e4 (by rw [len_pgs e4, List.length_map]; omega) hT).mono ?_
  rintro e w5 ⟨v5, rfl, o5, b5⟩
  obtain ⟨a5, c5, rfl, -⟩ := o5.rd
  have Fo5 := Own.frame o5
  have t5 := World.ownsRow.lt o5
  have s5 := b5.size
  have l5 := B.size
  replace KA := FKA.kept KA b5 (by omega)
  replace o3 := Fo3.kept o3 b5 (by omega)
  replace o4 := Fo4.kept o4 b5 (by omega)
  replace KX := FKX.kept KX b5 (by omega)
  replace B := B.trans (b5.mono B.size)
  clear b5
  go_wp2_with fail
  refine (eqIntS_same a5 a3 _ c5 c3 L _ (rdI_own o5) (rdI_own o3) (by omega)).mono ?_
  rintro e w6 ⟨rfl, b6⟩
  have s6 := b6.size
  replace KA := FKA.kept KA b6 (by omega)
  replace o3 := Fo3.kept o3 b6 (by omega)
  replace o4 := Fo4.kept o4 b6 (by omega)
  replace KX := FKX.kept KX b6 (by omega)
  replace o5 := Fo5.kept o5 b6 (by omega)
  replace B := B.trans (b6.mono B.size)
  clear b6
  have KS : ∀ V, Below w6.heap.size w6 V → (fun V => Below w6.heap.size w6 V ∧ V.cell? ⟨w4.heap.size, 0, none⟩ = some (.int .i64 root) ∧ V.cell? ⟨w4.heap.size, 1, none⟩ = some (.slice a4 q4.length c4) ∧ V.cell? ⟨w.heap.size, 0, none⟩ = some (.int .i64 root) ∧ V.cell? ⟨w.heap.size, 1, none⟩ = some (.slice a ps.length cap)) V := fun V b => ⟨b, (b.cell (p := ⟨w4.heap.size, 0, none⟩) (by show w4.heap.size < _; omega)).trans (KX 0), (b.cell (p := ⟨w4.heap.size, 1, none⟩) (by show w4.heap.size < _; omega)).trans (KX 1), (b.cell (p := ⟨w.heap.size, 0, none⟩) (by show w.heap.size < _; omega)).trans (KA 0), (b.cell (p := ⟨w.heap.size, 1, none⟩) (by show w.heap.size < _; omega)).trans (KA 1)⟩
  have KT : ∀ V V' : World, Below w6.heap.size w6 V → Below V.heap.size V V' → Below w6.heap.size w6 V' := fun V V' b b' => b.trans (b'.mono b.size)
  replace KS := Lib.hid KS
  replace KT := Lib.hid KT
  have BH := Lib.hid B
  replace KA := Lib.hid KA
  replace o3 := Lib.hid o3
  replace o4 := Lib.hid o4
  replace KX := Lib.hid KX
  replace o5 := Lib.hid o5
  go_wp2_with fail
  go_region_held3 (fun V => Below w6.heap.size w6 V ∧ V.cell? ⟨w4.heap.size, 0, none⟩ = some (.int .i64 root) ∧ V.cell? ⟨w4.heap.size, 1, none⟩ = some (.slice a4 q4.length c4) ∧ V.cell? ⟨w.heap.size, 0, none⟩ = some (.int .i64 root) ∧ V.cell? ⟨w.heap.size, 1, none⟩ = some (.slice a ps.length cap))
    (first | exact KS.out _ (drew_below _) | exact KS.out _ (KT.out _ _ (And.left (by assumption)) hb))
    (first
      | (go_at_call 31; (with_reducible refine (toBook_any root a _ cap ps _ (HR.out.below (BH.out.trans (Below.mono (by first | exact drew_below _ | exact And.left (by assumption)) BH.out.size))) (by omega) (fun p hp => Nat.le_trans (hP.out p hp) (by decide))).mono ?_); rintro e wt ⟨vt, qt, rfl, et, ot, hb⟩; obtain ⟨at', ct, rfl⟩ := ot.shape; have rt := ot.rd; have et' := Lib.hid et; clear et)
      | (go_at_call 34; (with_reducible refine (eqBook_same root a4 at' _ _ c4 ct q4 qt _ ((o4.out.rd).below (by first | exact drew_below _ | exact And.left (by assumption))) rt (e4.trans et'.out.symm) (by rw [len_pgs e4, List.length_map]; omega) (pgs_le o4.out e4 (by omega))).mono ?_); rintro e wu ⟨rfl, hb⟩))
  rename_i hS
  have b7 := hS.1
  clear hS KS KT BH
  replace KA := KA.out
  replace o3 := o3.out
  replace o4 := o4.out
  replace KX := KX.out
  replace o5 := o5.out
  have s7 := b7.size
  replace KA := FKA.kept KA b7 (by omega)
  replace o3 := Fo3.kept o3 b7 (by omega)
  replace o4 := Fo4.kept o4 b7 (by omega)
  replace KX := FKX.kept KX b7 (by omega)
  replace o5 := Fo5.kept o5 b7 (by omega)
  replace B := B.trans (b7.mono B.size)
  clear b7
  have m4 := endP_pg o4 e4 (by rw [List.length_map]; omega)
  have hz : ¬ endP 1 q4 < 0 := by rw [endP_eq]; omega
  go_wp2_with fail
  refine (markBook_any root a4 _ c4 q4 1 _ _ _ o4 i4 (by omega) m4).mono ?_
  rintro e w8 ⟨rfl, p8, g8⟩
  have s8 := g8.size
  replace B := ChgIn.below B B.size g8 (by omega)
  replace KA := FKA.chg KA g8 (by omega) (by omega)
  replace o3 := Fo3.chg o3 g8 (by omega) (by omega)
  replace KX := FKX.chg KX g8 (by omega) (by omega)
  replace o5 := Fo5.chg o5 g8 (by omega) (by omega)
  clear o4 Fo4
  clear g8 p8
  go_wp2_with fail
  refine (eqIntS_same a5 a3 _ c5 c3 L _ (rdI_own o5) (rdI_own o3) (by omega)).mono ?_
  rintro e w9 ⟨rfl, b9⟩
  have s9 := b9.size
  replace KA := FKA.kept KA b9 (by omega)
  replace o3 := Fo3.kept o3 b9 (by omega)
  replace KX := FKX.kept KX b9 (by omega)
  replace o5 := Fo5.kept o5 b9 (by omega)
  replace B := B.trans (b9.mono B.size)
  clear b9
  go_wp2_with fail
  refine (markIntS_any a5 _ c5 L (1) _ _ o5 rfl (by omega) (by omega) (by omega)).mono ?_
  rintro e w10 ⟨rfl, p5, y5⟩
  have g5 := ChgIn.of_grown (lo := (w4.alloc (.cells #[.int .i64 root, .slice a4 q4.length c4] 26)).heap.size) (hi := w5.heap.size) y5 t5
  have s10 := g5.size
  replace B := ChgIn.below B B.size g5 (by omega)
  replace KA := FKA.chg KA g5 (by omega) (by omega)
  replace o3 := Fo3.chg o3 g5 (by omega) (by omega)
  replace KX := FKX.chg KX g5 (by omega) (by omega)
  clear o5 Fo5 y5 g5
  have Fp5 := ownsRow_frame (base := (w4.alloc (.cells #[.int .i64 root, .slice a4 q4.length c4] 26)).heap.size) (e := 3) (size := 1) (n := L.length) (xs := (gen L.length fun j => (1 + (j : Int))).map (Value.int .i64)) t5
  have hz2 : ¬ (1 : Int) + (L.length : Int) < 0 := by omega
  go_wp2_with fail
  refine (heldIntS_any a5 _ c5 1 _ (rdI_owns p5 (by rw [gen_length])) (by omega) (by omega) (by omega)).mono ?_
  rintro e w11 ⟨rfl, rfl⟩
  go_wp2_with fail
  refine (toBook_any root a _ cap ps _ (HR.out.below B) (by omega) (fun p hp => Nat.le_trans (hP.out p hp) (by decide))).mono ?_
  rintro e w12 ⟨v12, q12, rfl, e12, o12, b12⟩
  obtain ⟨a12, c12, rfl⟩ := o12.shape
  have Fo12 := o12.frame
  have i12 := o12.inb
  have s12 := b12.size
  have l12 := B.size
  replace KA := FKA.kept KA b12 (by omega)
  replace o3 := Fo3.kept o3 b12 (by omega)
  replace KX := FKX.kept KX b12 (by omega)
  replace p5 := Fp5.kept p5 b12 (by omega)
  replace B := B.trans (b12.mono B.size)
  clear b12
  go_wp2_with fail
  refine (C.out a12 _ c12 q12 _ o12.rd e12 (by rw [len_pgs e12, List.length_map]; omega) hT).mono ?_
  rintro e w13 ⟨v13, rfl, o13, b13⟩
  obtain ⟨a13, c13, rfl, -⟩ := o13.rd
  have Fo13 := Own.frame o13
  have t13 := World.ownsRow.lt o13
  have s13 := b13.size
  have l13 := B.size
  replace KA := FKA.kept KA b13 (by omega)
  replace o3 := Fo3.kept o3 b13 (by omega)
  replace KX := FKX.kept KX b13 (by omega)
  replace p5 := Fp5.kept p5 b13 (by omega)
  replace o12 := Fo12.kept o12 b13 (by omega)
  replace B := B.trans (b13.mono B.size)
  clear b13
  go_wp2_with fail
  refine (eqIntS_same a13 a3 _ c13 c3 L _ (rdI_own o13) (rdI_own o3) (by omega)).mono ?_
  rintro e w14 ⟨rfl, b14⟩
  have s14 := b14.size
  replace KA := FKA.kept KA b14 (by omega)
  replace o3 := Fo3.kept o3 b14 (by omega)
  replace KX := FKX.kept KX b14 (by omega)
  replace p5 := Fp5.kept p5 b14 (by omega)
  replace o12 := Fo12.kept o12 b14 (by omega)
  replace o13 := Fo13.kept o13 b14 (by omega)
  replace B := B.trans (b14.mono B.size)
  clear b14
  go_wp2_with fail
  refine (heldIntS_any a5 _ c5 1 _ (rdI_owns p5 (by rw [gen_length])) (by omega) (by omega) (by omega)).mono ?_
  rintro e w15 ⟨rfl, rfl⟩
  go_wp2
  go_ret
  exact ⟨rfl, B⟩

theorem exLeaves_walk (CS : CLeaves 44) (C : CLeaves 45) (root : Int) (a : Option Addr) (n cap : Nat) (ps : List PgV) (w : World) (h : RdP w a n cap ps) :
    Calls Try.prog 7 #[.agg #[.int .i64 root, .slice a n cap]] w fun e w' => e = .returned (.bool true) ∧ Below w.heap.size w w' :=
  exLeaves_core root a n cap ps (leavesV (ps.map PgV.pg) root)
    (fun _ h1 => by have := leaves_len (ps.map PgV.pg) root; rw [List.length_map] at this; omega)
    (fun a n cap qs W hq e hn ht => by have := CS root a n cap qs W hq hn (pgs_rd hq e ht) (by rw [e]; exact ht); rw [e] at this; exact this)
    (fun a n cap qs W hq e hn ht => by have := C root a n cap qs W hq hn (pgs_rd hq e ht) (by rw [e]; exact ht); rw [e] at this; exact this) w h
end Go.Proofs.Ytfefggcfeppeiaa
