/- The exact law of Deep. -/
import Derived.Test.YtfefggcfeppeiaaLookYZExSix
import Derived.Test.YtfefggcfeppeiaaQExSixd
namespace Go.Proofs.Ytfefggcfeppeiaa
open Go.RowKit

set_option maxHeartbeats 3200000 in
set_option maxRecDepth 100000 in
theorem exDeep_core (root : Int) (a : Option Addr) (n cap : Nat) (ps : List PgV) (L : Nat) (_ : True) (CS : (∀ (a : Option Addr) (n cap : Nat) (qs : List PgV) (W : World), RdP W a n cap qs → qs.map PgV.pg = ps.map PgV.pg → n ≤ 1048576 → totG (ps.map PgV.pg) ≤ 1048576 → Calls Try.prog 51 #[.agg #[.int .i64 root, .slice a n cap]] W (RetN L W))) (C : (∀ (a : Option Addr) (n cap : Nat) (qs : List PgV) (W : World), RdP W a n cap qs → qs.map PgV.pg = ps.map PgV.pg → n ≤ 1048576 → totG (ps.map PgV.pg) ≤ 1048576 → Calls Try.prog 52 #[.agg #[.int .i64 root, .slice a n cap]] W (RetN L W))) (w : World) (h : RdP w a n cap ps) :
    Calls Try.prog 9 #[.agg #[.int .i64 root, .slice a n cap]] w fun e w' => e = .returned (.bool true) ∧ Below w.heap.size w w' := by
  have hln := h.1.1.1
  subst hln
  have KA := (blk_new w #[.int .i64 root, .slice a ps.length cap] 51).1
  have hA : w.heap.size < (w.alloc (.cells #[.int .i64 root, .slice a ps.length cap] 51)).heap.size := by simp
  have B := new_below w (.cells #[.int .i64 root, .slice a ps.length cap] 51)
  have FKA := cells_frame (w.heap.size) (fun o => (#[.int .i64 root, .slice a ps.length cap] : Array Value)[o]?)
  have HR := Lib.hid h
  clear h
  replace C := Lib.hid C
  replace CS := Lib.hid CS
  go_enter Try.func9, Try.ntmps9
  go_wp2_with fail
  refine (szBook_any root a _ cap ps 1048576 _ (HR.out.below B) (by omega)).mono ?_
  rintro e w1 ⟨r1, rfl, z1, b1⟩
  have s1 := b1.size
  replace KA := FKA.kept KA b1 (by omega)
  replace B := B.trans (b1.mono B.size)
  clear b1
  by_cases y1 : r1 < 0
  · go_wp2
    go_ret
    exact ⟨rfl, B⟩
  have hn : ps.length ≤ 1048576 := by omega
  have hT : totG (ps.map PgV.pg) ≤ 1048576 := by rw [← totP_rd HR.out]; omega
  have hP : Hid (∀ p ∈ ps, p.n ≤ 1048576) := Lib.hid (pgs_rd HR.out rfl hT)
  have hr : 0 ≤ r1 ∧ r1 ≤ 1048576 := by omega
  clear z1
  go_wp2_with fail
  refine (toBook_any root a _ cap ps _ (HR.out.below B) (by omega) (fun p hp => Nat.le_trans (hP.out p hp) (by decide))).mono ?_
  rintro e w2 ⟨v2, q2, rfl, e2, o2, b2⟩
  obtain ⟨a2, c2, rfl⟩ := o2.shape
  have Fo2 := o2.frame
  have i2 := o2.inb
  have s2 := b2.size
  have l2 := B.size
  replace KA := FKA.kept KA b2 (by omega)
  replace B := B.trans (b2.mono B.size)
  clear b2
  go_wp2_with fail
  refine (CS.out a2 _ c2 q2 _ o2.rd e2 (by rw [len_pgs e2, List.length_map]; omega) hT).mono ?_
  rintro e w3 ⟨rfl, b3⟩
  have s3 := b3.size
  replace KA := FKA.kept KA b3 (by omega)
  replace o2 := Fo2.kept o2 b3 (by omega)
  replace B := B.trans (b3.mono B.size)
  clear b3
  clear o2 Fo2
  go_wp2_with fail
  refine (toBook_any root a _ cap ps _ (HR.out.below B) (by omega) (fun p hp => Nat.le_trans (hP.out p hp) (by decide))).mono ?_
  rintro e w4 ⟨v4, q4, rfl, e4, o4, b4⟩
  obtain ⟨a4, c4, rfl⟩ := o4.shape
  have Fo4 := o4.frame
  have i4 := o4.inb
  have s4 := b4.size
  have l4 := B.size
  replace KA := FKA.kept KA b4 (by omega)
  replace B := B.trans (b4.mono B.size)
  clear b4
  have bb := new_below w4 (.cells #[.int .i64 root, .slice a4 q4.length c4] 26)
  have KX := (blk_new w4 #[.int .i64 root, .slice a4 q4.length c4] 26).1
  have FKX := cells_frame w4.heap.size (fun o => (#[.int .i64 root, .slice a4 q4.length c4] : Array Value)[o]?)
  have hX : w4.heap.size < (w4.alloc (.cells #[.int .i64 root, .slice a4 q4.length c4] 26)).heap.size := by simp
  replace KA := FKA.kept KA bb (by omega)
  replace o4 := Fo4.kept o4 bb (by omega)
  replace B := B.trans (bb.mono B.size)
  clear bb
  go_wp2_with fail
  refine (C.out a4 _ c4 q4 _ o4.rd e4 (by rw [len_pgs e4, List.length_map]; omega) hT).mono ?_
  rintro e w5 ⟨rfl, b5⟩
  have s5 := b5.size
  replace KA := FKA.kept KA b5 (by omega)
  replace o4 := Fo4.kept o4 b5 (by omega)
  replace KX := FKX.kept KX b5 (by omega)
  replace B := B.trans (b5.mono B.size)
  clear b5
  have hbn : ((L : Int) != (L : Int)) = false := bne_self_eq_false _
  have KS : ∀ V, Below w5.heap.size w5 V → (fun V => Below w5.heap.size w5 V ∧ V.cell? ⟨w4.heap.size, 0, none⟩ = some (.int .i64 root) ∧ V.cell? ⟨w4.heap.size, 1, none⟩ = some (.slice a4 q4.length c4) ∧ V.cell? ⟨w.heap.size, 0, none⟩ = some (.int .i64 root) ∧ V.cell? ⟨w.heap.size, 1, none⟩ = some (.slice a ps.length cap)) V := fun V b => ⟨b, (b.cell (p := ⟨w4.heap.size, 0, none⟩) (by show w4.heap.size < _; omega)).trans (KX 0), (b.cell (p := ⟨w4.heap.size, 1, none⟩) (by show w4.heap.size < _; omega)).trans (KX 1), (b.cell (p := ⟨w.heap.size, 0, none⟩) (by show w.heap.size < _; omega)).trans (KA 0), (b.cell (p := ⟨w.heap.size, 1, none⟩) (by show w.heap.size < _; omega)).trans (KA 1)⟩
  have KT : ∀ V V' : World, Below w5.heap.size w5 V → Below V.heap.size V V' → Below w5.heap.size w5 V' := fun V V' b b' => b.trans (b'.mono b.size)
  replace KS := Lib.hid KS
  replace KT := Lib.hid KT
  have BH := Lib.hid B
  replace KA := Lib.hid KA
  replace o4 := Lib.hid o4
  replace KX := Lib.hid KX
  go_wp2_with fail
  go_region_held3 (fun V => Below w5.heap.size w5 V ∧ V.cell? ⟨w4.heap.size, 0, none⟩ = some (.int .i64 root) ∧ V.cell? ⟨w4.heap.size, 1, none⟩ = some (.slice a4 q4.length c4) ∧ V.cell? ⟨w.heap.size, 0, none⟩ = some (.int .i64 root) ∧ V.cell? ⟨w.heap.size, 1, none⟩ = some (.slice a ps.length cap))
    (first | exact KS.out _ (drew_below _) | exact KS.out _ (KT.out _ _ (And.left (by assumption)) hb))
    (first
      | (go_at_call 31; (with_reducible refine (toBook_any root a _ cap ps _ (HR.out.below (BH.out.trans (Below.mono (by first | exact drew_below _ | exact And.left (by assumption)) BH.out.size))) (by omega) (fun p hp => Nat.le_trans (hP.out p hp) (by decide))).mono ?_); rintro e wt ⟨vt, qt, rfl, et, ot, hb⟩; obtain ⟨at', ct, rfl⟩ := ot.shape; have rt := ot.rd; have et' := Lib.hid et; clear et)
      | (go_at_call 34; (with_reducible refine (eqBook_same root a4 at' _ _ c4 ct q4 qt _ ((o4.out.rd).below (by first | exact drew_below _ | exact And.left (by assumption))) rt (e4.trans et'.out.symm) (by rw [len_pgs e4, List.length_map]; omega) (pgs_le o4.out e4 (by omega))).mono ?_); rintro e wu ⟨rfl, hb⟩))
  rename_i hS
  have b6 := hS.1
  clear hS KS KT BH
  replace KA := KA.out
  replace o4 := o4.out
  replace KX := KX.out
  have s6 := b6.size
  replace KA := FKA.kept KA b6 (by omega)
  replace o4 := Fo4.kept o4 b6 (by omega)
  replace KX := FKX.kept KX b6 (by omega)
  replace B := B.trans (b6.mono B.size)
  clear b6
  go_wp2
  go_ret
  exact ⟨rfl, B⟩

theorem exDeep_walk (CS : CDeep 51) (C : CDeep 52) (root : Int) (a : Option Addr) (n cap : Nat) (ps : List PgV) (w : World) (h : RdP w a n cap ps) :
    Calls Try.prog 9 #[.agg #[.int .i64 root, .slice a n cap]] w fun e w' => e = .returned (.bool true) ∧ Below w.heap.size w w' :=
  exDeep_core root a n cap ps (deepV (ps.map PgV.pg) 12 root)
    trivial
    (fun a n cap qs W hq e hn ht => by have := CS root a n cap qs W hq hn (pgs_rd hq e ht) (by rw [e]; exact ht); rw [e] at this; exact this)
    (fun a n cap qs W hq e hn ht => by have := C root a n cap qs W hq hn (pgs_rd hq e ht) (by rw [e]; exact ht); rw [e] at this; exact this) w h
end Go.Proofs.Ytfefggcfeppeiaa
