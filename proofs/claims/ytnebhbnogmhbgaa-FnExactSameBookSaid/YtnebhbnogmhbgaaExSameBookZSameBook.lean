/- The exact law of SameBook. -/
import Derived.Test.YtnebhbnogmhbgaaBookYZSameBook
namespace Go.Proofs.Ytnebhbnogmhbgaa
open Go.RowKit

set_option maxHeartbeats 3200000 in
set_option maxRecDepth 100000 in
theorem exSameBook_core (root root' : Int) (a a' : Option Addr) (n cap n' cap' : Nat) (ps ps' : List PgV) (L : Bool) (CS : (∀ (a : Option Addr) (n cap : Nat) (qs : List PgV) (a' : Option Addr) (n' cap' : Nat) (qs' : List PgV) (W : World), RdP W a n cap qs → RdP W a' n' cap' qs' → qs.map PgV.pg = ps.map PgV.pg → qs'.map PgV.pg = ps'.map PgV.pg → n ≤ 1099511627776 → n' ≤ 1099511627776 → (∀ p ∈ qs, p.n ≤ 1099511627776) → (∀ p ∈ qs', p.n ≤ 1099511627776) → Calls Try.prog 26 #[.agg #[.int .i64 root, .slice a n cap], .agg #[.int .i64 root', .slice a' n' cap']] W (RetB L W))) (C : (∀ (a : Option Addr) (n cap : Nat) (qs : List PgV) (a' : Option Addr) (n' cap' : Nat) (qs' : List PgV) (W : World), RdP W a n cap qs → RdP W a' n' cap' qs' → qs.map PgV.pg = ps.map PgV.pg → qs'.map PgV.pg = ps'.map PgV.pg → n ≤ 1099511627776 → n' ≤ 1099511627776 → (∀ p ∈ qs, p.n ≤ 1099511627776) → (∀ p ∈ qs', p.n ≤ 1099511627776) → Calls Try.prog 22 #[.agg #[.int .i64 root, .slice a n cap], .agg #[.int .i64 root', .slice a' n' cap']] W (RetB L W))) (w : World) (h : RdP w a n cap ps) (h' : RdP w a' n' cap' ps') :
    Calls Try.prog 12 #[.agg #[.int .i64 root, .slice a n cap], .agg #[.int .i64 root', .slice a' n' cap']] w fun e w' => e = .returned (.bool true) ∧ Below w.heap.size w w' := by
  have hln := h.1.1.1
  subst hln
  have hln' := h'.1.1.1
  subst hln'
  have KA := ((Loc.new w #[.int .i64 root, .slice a ps.length cap] 56).alloc (.cells #[.int .i64 root', .slice a' ps'.length cap'] 56)).2.1
  have KB := (Loc.new (w.alloc (.cells #[.int .i64 root, .slice a ps.length cap] 56)) #[.int .i64 root', .slice a' ps'.length cap'] 56).2.1
  rw [show (w.alloc (.cells #[.int .i64 root, .slice a ps.length cap] 56)).heap.size = w.heap.size + 1 by simp] at KB
  have hA : w.heap.size + 1 < ((w.alloc (.cells #[.int .i64 root, .slice a ps.length cap] 56)).alloc (.cells #[.int .i64 root', .slice a' ps'.length cap'] 56)).heap.size := by simp
  have B : Below w.heap.size w ((w.alloc (.cells #[.int .i64 root, .slice a ps.length cap] 56)).alloc (.cells #[.int .i64 root', .slice a' ps'.length cap'] 56)) := ((Below.refl _ _).alloc (Nat.le_refl _) _).alloc (by simp) _
  have FKA := cells_frame (w.heap.size) (fun o => (#[.int .i64 root, .slice a ps.length cap] : Array Value)[o]?)
  have FKB := cells_frame (w.heap.size + 1) (fun o => (#[.int .i64 root', .slice a' ps'.length cap'] : Array Value)[o]?)
  have HR := Lib.hid h
  have HR' := Lib.hid h'
  clear h h'
  replace C := Lib.hid C
  replace CS := Lib.hid CS
  go_enter Try.func12, Try.ntmps12
  go_wp2_with fail
  refine (szBook_any root a _ cap ps 1048576 _ (HR.out.below B) (by omega)).mono ?_
  rintro e w1 ⟨r1, rfl, z1, b1⟩
  have s1 := b1.size
  replace KA := FKA.kept KA b1 (by omega)
  replace KB := FKB.kept KB b1 (by omega)
  replace B := B.trans (b1.mono B.size)
  clear b1
  by_cases y1 : r1 < 0
  · go_wp2
    go_ret
    exact ⟨rfl, B⟩
  have hn : ps.length ≤ 1048576 := by omega
  have hT : totG (ps.map PgV.pg) ≤ 1048576 := by rw [← totP_rd HR.out]; omega
  have hP : Hid (∀ p ∈ ps, p.n ≤ 1048576) := Lib.hid (pgs_rd HR.out rfl hT)
  have hr : 0 ≤ r1 ∧ r1 ≤ 1048576 := by omega
  clear z1
  go_wp2_with fail
  refine (szBook_any root' a' _ cap' ps' r1 _ (HR'.out.below B) (by omega)).mono ?_
  rintro e w2 ⟨r2, rfl, z2, b2⟩
  have s2 := b2.size
  replace KA := FKA.kept KA b2 (by omega)
  replace KB := FKB.kept KB b2 (by omega)
  replace B := B.trans (b2.mono B.size)
  clear b2
  by_cases y2 : r2 < 0
  · go_wp2
    go_ret
    exact ⟨rfl, B⟩
  have hn' : ps'.length ≤ 1048576 := by omega
  have hT' : totG (ps'.map PgV.pg) ≤ 1048576 := by rw [← totP_rd HR'.out]; omega
  have hP' : Hid (∀ p ∈ ps', p.n ≤ 1048576) := Lib.hid (pgs_rd HR'.out rfl hT')
  clear z2
  have KS : ∀ V, Below w2.heap.size w2 V → (fun V => Below w2.heap.size w2 V ∧ V.cell? ⟨w.heap.size, 0, none⟩ = some (.int .i64 root) ∧ V.cell? ⟨w.heap.size, 1, none⟩ = some (.slice a ps.length cap) ∧ V.cell? ⟨w.heap.size + 1, 0, none⟩ = some (.int .i64 root') ∧ V.cell? ⟨w.heap.size + 1, 1, none⟩ = some (.slice a' ps'.length cap')) V := fun V b => ⟨b, (b.cell (p := ⟨w.heap.size, 0, none⟩) (by show w.heap.size < _; omega)).trans (KA 0), (b.cell (p := ⟨w.heap.size, 1, none⟩) (by show w.heap.size < _; omega)).trans (KA 1), (b.cell (p := ⟨w.heap.size + 1, 0, none⟩) (by show w.heap.size + 1 < _; omega)).trans (KB 0), (b.cell (p := ⟨w.heap.size + 1, 1, none⟩) (by show w.heap.size + 1 < _; omega)).trans (KB 1)⟩
  have KT : ∀ V V' : World, Below w2.heap.size w2 V → Below V.heap.size V V' → Below w2.heap.size w2 V' := fun V V' b b' => b.trans (b'.mono b.size)
  replace KS := Lib.hid KS
  replace KT := Lib.hid KT
  have BH := Lib.hid B
  replace KA := Lib.hid KA
  replace KB := Lib.hid KB
  go_wp2_with fail
  go_region_held3 (fun V => Below w2.heap.size w2 V ∧ V.cell? ⟨w.heap.size, 0, none⟩ = some (.int .i64 root) ∧ V.cell? ⟨w.heap.size, 1, none⟩ = some (.slice a ps.length cap) ∧ V.cell? ⟨w.heap.size + 1, 0, none⟩ = some (.int .i64 root') ∧ V.cell? ⟨w.heap.size + 1, 1, none⟩ = some (.slice a' ps'.length cap'))
    (first | exact KS.out _ (drew_below _) | exact KS.out _ (KT.out _ _ (And.left (by assumption)) hb))
    (first
      | (go_at_call 43; (with_reducible refine (toBook_any root a _ cap ps _ (HR.out.below (BH.out.trans (Below.mono (by first | exact drew_below _ | exact And.left (by assumption)) BH.out.size))) (by omega) (fun p hp => Nat.le_trans (hP.out p hp) (by decide))).mono ?_); rintro e wa ⟨va, qa, rfl, ea, oa, hb⟩; obtain ⟨aa', ca, rfl⟩ := oa.shape; have ra := oa.rd; have la := Lib.hid (pgs_le oa ea (B := 1099511627776) (by omega)); replace ea := Lib.hid ea; clear oa)
      | (go_at_call 43; (with_reducible refine (toBook_any root' a' _ cap' ps' _ (HR'.out.below (BH.out.trans (Below.mono (by first | exact drew_below _ | exact And.left (by assumption)) BH.out.size))) (by omega) (fun p hp => Nat.le_trans (hP'.out p hp) (by decide))).mono ?_); rintro e wb ⟨vb, qb, rfl, eb, ob, hb⟩; obtain ⟨ab', cb, rfl⟩ := ob.shape; have rb := ob.rd; have lb := Lib.hid (pgs_le ob eb (B := 1099511627776) (by omega)); replace eb := Lib.hid eb; clear ob; replace ra := ra.below hb)
      | (go_at_call 26; (with_reducible refine (CS.out _ _ _ _ _ _ _ _ _ ra rb ea.out eb.out (by rw [len_pgs ea.out, List.length_map]; omega) (by rw [len_pgs eb.out, List.length_map]; omega) la.out lb.out).mono ?_); rintro e wu ⟨rfl, hb⟩))
  rename_i hS
  have b3 := hS.1
  clear hS KS KT BH
  replace KA := KA.out
  replace KB := KB.out
  have s3 := b3.size
  replace KA := FKA.kept KA b3 (by omega)
  replace KB := FKB.kept KB b3 (by omega)
  replace B := B.trans (b3.mono B.size)
  clear b3
  clear ra rb ea eb la lb
  try clear hb
  go_wp2_with fail
  refine (toBook_any root a _ cap ps _ (HR.out.below B) (by omega) (fun p hp => Nat.le_trans (hP.out p hp) (by decide))).mono ?_
  rintro e w4 ⟨v4, q4, rfl, e4, o4, b4⟩
  obtain ⟨a4, c4, rfl⟩ := o4.shape
  have Fo4 := o4.frame
  have i4 := o4.inb
  have s4 := b4.size
  have l4 := B.size
  replace KA := FKA.kept KA b4 (by omega)
  replace KB := FKB.kept KB b4 (by omega)
  replace B := B.trans (b4.mono B.size)
  clear b4
  have bb := new_below w4 (.cells #[.int .i64 root, .slice a4 q4.length c4] 26)
  have KX := (blk_new w4 #[.int .i64 root, .slice a4 q4.length c4] 26).1
  have FKX := cells_frame w4.heap.size (fun o => (#[.int .i64 root, .slice a4 q4.length c4] : Array Value)[o]?)
  have hX : w4.heap.size < (w4.alloc (.cells #[.int .i64 root, .slice a4 q4.length c4] 26)).heap.size := by simp
  replace KA := FKA.kept KA bb (by omega)
  replace KB := FKB.kept KB bb (by omega)
  replace o4 := Fo4.kept o4 bb (by omega)
  replace B := B.trans (bb.mono B.size)
  clear bb
  go_wp2_with fail
  refine (toBook_any root' a' _ cap' ps' _ (HR'.out.below B) (by omega) (fun p hp => Nat.le_trans (hP'.out p hp) (by decide))).mono ?_
  rintro e w5 ⟨v5, q5, rfl, e5, o5, b5⟩
  obtain ⟨a5, c5, rfl⟩ := o5.shape
  have Fo5 := o5.frame
  have i5 := o5.inb
  have s5 := b5.size
  have l5 := B.size
  replace KA := FKA.kept KA b5 (by omega)
  replace KB := FKB.kept KB b5 (by omega)
  replace o4 := Fo4.kept o4 b5 (by omega)
  replace KX := FKX.kept KX b5 (by omega)
  replace B := B.trans (b5.mono B.size)
  clear b5
  have bb := new_below w5 (.cells #[.int .i64 root', .slice a5 q5.length c5] 26)
  have KY := (blk_new w5 #[.int .i64 root', .slice a5 q5.length c5] 26).1
  have FKY := cells_frame w5.heap.size (fun o => (#[.int .i64 root', .slice a5 q5.length c5] : Array Value)[o]?)
  have hY : w5.heap.size < (w5.alloc (.cells #[.int .i64 root', .slice a5 q5.length c5] 26)).heap.size := by simp
  replace KA := FKA.kept KA bb (by omega)
  replace KB := FKB.kept KB bb (by omega)
  replace o4 := Fo4.kept o4 bb (by omega)
  replace KX := FKX.kept KX bb (by omega)
  replace o5 := Fo5.kept o5 bb (by omega)
  replace B := B.trans (bb.mono B.size)
  clear bb
  go_wp2_with fail
  refine (C.out a4 _ c4 q4 a5 _ c5 q5 _ o4.rd o5.rd e4 e5 (by rw [len_pgs e4, List.length_map]; omega) (by rw [len_pgs e5, List.length_map]; omega) (pgs_le o4 e4 (by omega)) (pgs_le o5 e5 (by omega))).mono ?_
  rintro e w6 ⟨rfl, b6⟩
  have s6 := b6.size
  replace KA := FKA.kept KA b6 (by omega)
  replace KB := FKB.kept KB b6 (by omega)
  replace o4 := Fo4.kept o4 b6 (by omega)
  replace KX := FKX.kept KX b6 (by omega)
  replace o5 := Fo5.kept o5 b6 (by omega)
  replace KY := FKY.kept KY b6 (by omega)
  replace B := B.trans (b6.mono B.size)
  clear b6
  have hbn : (L != L) = false := bne_self_eq_false L
  have KS : ∀ V, Below w6.heap.size w6 V → (fun V => Below w6.heap.size w6 V ∧ V.cell? ⟨w4.heap.size, 0, none⟩ = some (.int .i64 root) ∧ V.cell? ⟨w4.heap.size, 1, none⟩ = some (.slice a4 q4.length c4) ∧ V.cell? ⟨w.heap.size, 0, none⟩ = some (.int .i64 root) ∧ V.cell? ⟨w.heap.size, 1, none⟩ = some (.slice a ps.length cap)) V := fun V b => ⟨b, (b.cell (p := ⟨w4.heap.size, 0, none⟩) (by show w4.heap.size < _; omega)).trans (KX 0), (b.cell (p := ⟨w4.heap.size, 1, none⟩) (by show w4.heap.size < _; omega)).trans (KX 1), (b.cell (p := ⟨w.heap.size, 0, none⟩) (by show w.heap.size < _; omega)).trans (KA 0), (b.cell (p := ⟨w.heap.size, 1, none⟩) (by show w.heap.size < _; omega)).trans (KA 1)⟩
  have KT : ∀ V V' : World, Below w6.heap.size w6 V → Below V.heap.size V V' → Below w6.heap.size w6 V' := fun V V' b b' => b.trans (b'.mono b.size)
  replace KS := Lib.hid KS
  replace KT := Lib.hid KT
  have BH := Lib.hid B
  replace KA := Lib.hid KA
  replace KB := Lib.hid KB
  replace o4 := Lib.hid o4
  replace KX := Lib.hid KX
  replace o5 := Lib.hid o5
  replace KY := Lib.hid KY
  go_wp2_with fail
  go_region_held3 (fun V => Below w6.heap.size w6 V ∧ V.cell? ⟨w4.heap.size, 0, none⟩ = some (.int .i64 root) ∧ V.cell? ⟨w4.heap.size, 1, none⟩ = some (.slice a4 q4.length c4) ∧ V.cell? ⟨w.heap.size, 0, none⟩ = some (.int .i64 root) ∧ V.cell? ⟨w.heap.size, 1, none⟩ = some (.slice a ps.length cap))
    (first | exact KS.out _ (drew_below _) | exact KS.out _ (KT.out _ _ (And.left (by assumption)) hb))
    (first
      | (go_at_call 43; (with_reducible refine (toBook_any root a _ cap ps _ (HR.out.below (BH.out.trans (Below.mono (by first | exact drew_below _ | exact And.left (by assumption)) BH.out.size))) (by omega) (fun p hp => Nat.le_trans (hP.out p hp) (by decide))).mono ?_); rintro e wt ⟨vt, qt, rfl, et, ot, hb⟩; obtain ⟨at', ct, rfl⟩ := ot.shape; have rt := ot.rd; have et' := Lib.hid et; clear et)
      | (go_at_call 39; (with_reducible refine (eqBook_same root a4 at' _ _ c4 ct q4 qt _ ((o4.out.rd).below (by first | exact drew_below _ | exact And.left (by assumption))) rt (e4.trans et'.out.symm) (by rw [len_pgs e4, List.length_map]; omega) (pgs_le o4.out e4 (by omega))).mono ?_); rintro e wu ⟨rfl, hb⟩))
  rename_i hS
  have b7 := hS.1
  clear hS KS KT BH
  replace KA := KA.out
  replace KB := KB.out
  replace o4 := o4.out
  replace KX := KX.out
  replace o5 := o5.out
  replace KY := KY.out
  have s7 := b7.size
  replace KA := FKA.kept KA b7 (by omega)
  replace KB := FKB.kept KB b7 (by omega)
  replace o4 := Fo4.kept o4 b7 (by omega)
  replace KX := FKX.kept KX b7 (by omega)
  replace o5 := Fo5.kept o5 b7 (by omega)
  replace KY := FKY.kept KY b7 (by omega)
  replace B := B.trans (b7.mono B.size)
  clear b7
  have KS : ∀ V, Below wu.heap.size wu V → (fun V => Below wu.heap.size wu V ∧ V.cell? ⟨w5.heap.size, 0, none⟩ = some (.int .i64 root') ∧ V.cell? ⟨w5.heap.size, 1, none⟩ = some (.slice a5 q5.length c5) ∧ V.cell? ⟨w.heap.size + 1, 0, none⟩ = some (.int .i64 root') ∧ V.cell? ⟨w.heap.size + 1, 1, none⟩ = some (.slice a' ps'.length cap')) V := fun V b => ⟨b, (b.cell (p := ⟨w5.heap.size, 0, none⟩) (by show w5.heap.size < _; omega)).trans (KY 0), (b.cell (p := ⟨w5.heap.size, 1, none⟩) (by show w5.heap.size < _; omega)).trans (KY 1), (b.cell (p := ⟨w.heap.size + 1, 0, none⟩) (by show w.heap.size + 1 < _; omega)).trans (KB 0), (b.cell (p := ⟨w.heap.size + 1, 1, none⟩) (by show w.heap.size + 1 < _; omega)).trans (KB 1)⟩
  have KT : ∀ V V' : World, Below wu.heap.size wu V → Below V.heap.size V V' → Below wu.heap.size wu V' := fun V V' b b' => b.trans (b'.mono b.size)
  replace KS := Lib.hid KS
  replace KT := Lib.hid KT
  have BH := Lib.hid B
  replace KA := Lib.hid KA
  replace KB := Lib.hid KB
  replace o4 := Lib.hid o4
  replace KX := Lib.hid KX
  replace o5 := Lib.hid o5
  replace KY := Lib.hid KY
  go_wp2_with fail
  go_region_held3 (fun V => Below wu.heap.size wu V ∧ V.cell? ⟨w5.heap.size, 0, none⟩ = some (.int .i64 root') ∧ V.cell? ⟨w5.heap.size, 1, none⟩ = some (.slice a5 q5.length c5) ∧ V.cell? ⟨w.heap.size + 1, 0, none⟩ = some (.int .i64 root') ∧ V.cell? ⟨w.heap.size + 1, 1, none⟩ = some (.slice a' ps'.length cap'))
    (first | exact KS.out _ (drew_below _) | exact KS.out _ (KT.out _ _ (And.left (by assumption)) hb))
    (first
      | (go_at_call 43; (with_reducible refine (toBook_any root' a' _ cap' ps' _ (HR'.out.below (BH.out.trans (Below.mono (by first | exact drew_below _ | exact And.left (by assumption)) BH.out.size))) (by omega) (fun p hp => Nat.le_trans (hP'.out p hp) (by decide))).mono ?_); rintro e wt2 ⟨vt2, qt2, rfl, et2, ot2, hb⟩; obtain ⟨at2, ct2, rfl⟩ := ot2.shape; have rt2 := ot2.rd; have et2' := Lib.hid et2; clear et2)
      | (go_at_call 39; (with_reducible refine (eqBook_same root' a5 at2 _ _ c5 ct2 q5 qt2 _ ((o5.out.rd).below (by first | exact drew_below _ | exact And.left (by assumption))) rt2 (e5.trans et2'.out.symm) (by rw [len_pgs e5, List.length_map]; omega) (pgs_le o5.out e5 (by omega))).mono ?_); rintro e wu ⟨rfl, hb⟩))
  rename_i hS
  have b8 := hS.1
  clear hS KS KT BH
  replace KA := KA.out
  replace KB := KB.out
  replace o4 := o4.out
  replace KX := KX.out
  replace o5 := o5.out
  replace KY := KY.out
  have s8 := b8.size
  replace KA := FKA.kept KA b8 (by omega)
  replace KB := FKB.kept KB b8 (by omega)
  replace o4 := Fo4.kept o4 b8 (by omega)
  replace KX := FKX.kept KX b8 (by omega)
  replace o5 := Fo5.kept o5 b8 (by omega)
  replace KY := FKY.kept KY b8 (by omega)
  replace B := B.trans (b8.mono B.size)
  clear b8
  go_wp2
  go_ret
  exact ⟨rfl, B⟩

theorem exSameBook_walk (C : CSameBook 22) (root root' : Int) (a a' : Option Addr) (n cap n' cap' : Nat) (ps ps' : List PgV) (w : World) (h : RdP w a n cap ps) (h' : RdP w a' n' cap' ps') :
    Calls Try.prog 12 #[.agg #[.int .i64 root, .slice a n cap], .agg #[.int .i64 root', .slice a' n' cap']] w fun e w' => e = .returned (.bool true) ∧ Below w.heap.size w w' :=
  exSameBook_core root root' a a' n cap n' cap' ps ps' (sameB root root' (ps.map PgV.pg) (ps'.map PgV.pg))
    (fun a n cap qs a' n' cap' qs' W hq hq' e e' hn hn' hp hp' => by have := sSameBook_c root root' a a' n n' cap cap' qs qs' W hq hq' hn hn' hp hp'; rw [e, e'] at this; exact this)
    (fun a n cap qs a' n' cap' qs' W hq hq' e e' hn hn' hp hp' => by have := C root root' a a' n n' cap cap' qs qs' W hq hq' hn hn' hp hp'; rw [e, e'] at this; exact this) w h h'
end Go.Proofs.Ytnebhbnogmhbgaa
