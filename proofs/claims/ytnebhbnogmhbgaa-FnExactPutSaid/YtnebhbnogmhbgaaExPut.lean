/- The exact law of Put. -/
import Derived.Test.YtnebhbnogmhbgaaBookX
namespace Go.Proofs.Ytnebhbnogmhbgaa
open Go.RowKit

set_option maxHeartbeats 3200000 in
set_option maxRecDepth 100000 in
theorem exPut_core (root i : Int) (a : Option Addr) (n cap : Nat) (ps : List PgV) (lf : Bool) (a' : Option Addr) (n' cap' : Nat) (xs : List It) (L : List Pg) (hL : ps.length ≤ 1048576 → totG (ps.map PgV.pg) ≤ 1048576 → xs.length ≤ 1048576 → L.length ≤ 1048576 ∧ totG L ≤ 2097152) (CS : (∀ (a : Option Addr) (n cap : Nat) (qs : List PgV) (a' : Option Addr) (n' cap' : Nat) (W : World), RdP W a n cap qs → RdS itLay W a' n' cap' xs → qs.map PgV.pg = ps.map PgV.pg → n ≤ 1099511627776 → n' ≤ 1099511627776 → (∀ p ∈ qs, p.n ≤ 1099511627776) → Calls Try.prog 23 #[.agg #[.int .i64 root, .slice a n cap], .int .i64 i, .agg #[.bool lf, .slice a' n' cap']] W (NewBook root L W))) (C : (∀ (a : Option Addr) (n cap : Nat) (qs : List PgV) (a' : Option Addr) (n' cap' : Nat) (W : World), RdP W a n cap qs → RdS itLay W a' n' cap' xs → qs.map PgV.pg = ps.map PgV.pg → n ≤ 1099511627776 → n' ≤ 1099511627776 → (∀ p ∈ qs, p.n ≤ 1099511627776) → Calls Try.prog 18 #[.agg #[.int .i64 root, .slice a n cap], .int .i64 i, .agg #[.bool lf, .slice a' n' cap']] W (NewBook root L W))) (w : World) (h : RdP w a n cap ps) (h' : RdS itLay w a' n' cap' xs) :
    Calls Try.prog 7 #[.agg #[.int .i64 root, .slice a n cap], .int .i64 i, .agg #[.bool lf, .slice a' n' cap']] w fun e w' => e = .returned (.bool true) ∧ Below w.heap.size w w' := by
  have hln := h.1.1.1
  subst hln
  have hln' := h'.1.1
  subst hln'
  have hm : xs.length ≤ maxLen := Nat.le_trans h'.1.2.1 h'.1.2.2.1
  have KA := ((Loc.new w #[.int .i64 root, .slice a ps.length cap] 56).alloc (.cells #[.bool lf, .slice a' xs.length cap'] 63)).2.1
  have KN := (Loc.new (w.alloc (.cells #[.int .i64 root, .slice a ps.length cap] 56)) #[.bool lf, .slice a' xs.length cap'] 63).2.1
  rw [show (w.alloc (.cells #[.int .i64 root, .slice a ps.length cap] 56)).heap.size = w.heap.size + 1 by simp] at KN
  have hA : w.heap.size + 1 < ((w.alloc (.cells #[.int .i64 root, .slice a ps.length cap] 56)).alloc (.cells #[.bool lf, .slice a' xs.length cap'] 63)).heap.size := by simp
  have B : Below w.heap.size w ((w.alloc (.cells #[.int .i64 root, .slice a ps.length cap] 56)).alloc (.cells #[.bool lf, .slice a' xs.length cap'] 63)) := ((Below.refl _ _).alloc (Nat.le_refl _) _).alloc (by simp) _
  have FKA := cells_frame (w.heap.size) (fun o => (#[.int .i64 root, .slice a ps.length cap] : Array Value)[o]?)
  have FKN := cells_frame (w.heap.size + 1) (fun o => (#[.bool lf, .slice a' xs.length cap'] : Array Value)[o]?)
  have HR := Lib.hid h
  have HX := Lib.hid h'
  clear h h'
  replace C := Lib.hid C
  replace CS := Lib.hid CS
  go_enter Try.func7, Try.ntmps7
  go_wp2_with fail
  refine (szBook_any root a _ cap ps 1048576 _ (HR.out.below B) (by omega)).mono ?_
  rintro e w1 ⟨r1, rfl, z1, b1⟩
  have s1 := b1.size
  replace KA := FKA.kept KA b1 (by omega)
  replace KN := FKN.kept KN b1 (by omega)
  replace B := B.trans (b1.mono B.size)
  clear b1
  by_cases y1 : r1 < 0
  · go_wp2
    go_ret
    exact ⟨rfl, B⟩
  have hn : ps.length ≤ 1048576 := by omega
  have hT : totG (ps.map PgV.pg) ≤ 1048576 := by rw [← totP_rd HR.out]; omega
  have hP : Hid (∀ p ∈ ps, p.n ≤ 1048576) := Lib.hid (pgs_rd HR.out rfl hT)
  have hr : 0 ≤ r1 ∧ r1 ≤ 1048576 := by omega
  clear z1
  go_wp2_with fail
  refine (szNode_any lf a' _ cap' r1 _ hm (by omega)).mono ?_
  rintro e w2 ⟨rfl, b2⟩
  have s2 := b2.size
  replace KA := FKA.kept KA b2 (by omega)
  replace KN := FKN.kept KN b2 (by omega)
  replace B := B.trans (b2.mono B.size)
  clear b2
  by_cases y2 : r1 - xs.length < 0
  · rw [if_pos y2]
    go_wp2
    go_ret
    exact ⟨rfl, B⟩
  rw [if_neg y2]
  have hx : xs.length ≤ 1048576 := by omega
  obtain ⟨hL1, hL2⟩ := hL hn hT hx
  clear hL
  go_upto_region 8 with (fail)
  have KS := Lib.hid (show ∀ V, Below w2.heap.size w2 V → (fun V => Below w2.heap.size w2 V ∧ V.cell? ⟨w.heap.size, 0, none⟩ = some (.int .i64 root) ∧ V.cell? ⟨w.heap.size, 1, none⟩ = some (.slice a ps.length cap) ∧ V.cell? ⟨w.heap.size + 1, 0, none⟩ = some (.bool lf) ∧ V.cell? ⟨w.heap.size + 1, 1, none⟩ = some (.slice a' xs.length cap')) V from fun V b => ⟨b, (b.cell (p := ⟨w.heap.size, 0, none⟩) (by show w.heap.size < _; omega)).trans (KA 0), (b.cell (p := ⟨w.heap.size, 1, none⟩) (by show w.heap.size < _; omega)).trans (KA 1), (b.cell (p := ⟨w.heap.size + 1, 0, none⟩) (by show w.heap.size + 1 < _; omega)).trans (KN 0), (b.cell (p := ⟨w.heap.size + 1, 1, none⟩) (by show w.heap.size + 1 < _; omega)).trans (KN 1)⟩)
  have KT := Lib.hid (show ∀ V V' : World, Below w2.heap.size w2 V → Below V.heap.size V V' → Below w2.heap.size w2 V' from fun V V' b b' => b.trans (b'.mono b.size))
  have BH := Lib.hid B
  replace KA := Lib.hid KA
  replace KN := Lib.hid KN
  go_cut [8] (fun s V => ∃ g, s = .pointer (some ⟨g, 0, none⟩) ∧ PutIn w2 root L g V)
  case first =>
    go_region_held3 (fun V => Below w2.heap.size w2 V ∧ V.cell? ⟨w.heap.size, 0, none⟩ = some (.int .i64 root) ∧ V.cell? ⟨w.heap.size, 1, none⟩ = some (.slice a ps.length cap) ∧ V.cell? ⟨w.heap.size + 1, 0, none⟩ = some (.bool lf) ∧ V.cell? ⟨w.heap.size + 1, 1, none⟩ = some (.slice a' xs.length cap'))
      (first | exact KS.out _ (drew_below _) | exact KS.out _ (KT.out _ _ (And.left (by assumption)) hb) | exact KS.out _ (KT.out _ _ (And.left (by assumption)) (new_below _ _)) | exact KS.out _ (KT.out _ _ Bc (new_below _ _)) | exact KS.out _ (st2 Bc (by omega)))
      (first
        | (go_at_call 43; (with_reducible refine (toBook_any root a _ cap ps _ (HR.out.below (BH.out.trans (Below.mono (by first | exact drew_below _ | exact And.left (by assumption)) BH.out.size))) (by omega) (fun p hp => Nat.le_trans (hP.out p hp) (by decide))).mono ?_); rintro e wa ⟨va, qa, rfl, ea, oa, hb⟩; obtain ⟨aa, ca, rfl⟩ := oa.shape; have ra := oa.rd; have la := Lib.hid (pgs_le oa ea (B := 1099511627776) (by omega)); replace ea := Lib.hid ea; clear oa; have Ba := KT.out _ _ (by first | exact drew_below _ | exact And.left (by assumption)) hb; have za := Ba.size; have hza := hb.size; (try simp at hza); (first | (have k5 := below_keep hb (by simp) _ _ (blk_new _ _ _)) | (have k5 := below_keep hb (by omega) _ _ k5) | skip); (try simp only [size_alloc] at k5))
        | (go_at_call 48; (with_reducible refine (toNode_any lf a' _ cap' xs _ (HX.out.below (BH.out.trans (Below.mono (by first | exact drew_below _ | exact And.left (by assumption)) BH.out.size))) (by omega)).mono ?_); rintro e wb ⟨vb, rfl, ob, hb⟩; obtain ⟨ab, cb, rfl, -⟩ := ob.rd; have rb := rdS_ownsP ob; clear ob; (first | replace ra := ra.below hb | replace ra := (ra.below (new_below _ _)).below hb); have Bb := KT.out _ _ (by first | exact drew_below _ | exact And.left (by assumption)) hb; have zb := Bb.size; have hzb := hb.size; (try simp at hzb); (first | (have k5 := below_keep hb (by simp) _ _ (blk_new _ _ _)) | (have k5 := below_keep hb (by omega) _ _ k5) | skip); (try simp only [size_alloc] at k5))
        | (go_at_call 23; (with_reducible first | refine (CS.out _ _ _ _ _ _ _ _ ra rb ea.out (by rw [len_pgs ea.out, List.length_map]; omega) (by omega) la.out).mono ?_ | refine (CS.out _ _ _ _ _ _ _ _ (ra.below (new_below _ _)) (rb.below (new_below _ _)) ea.out (by rw [len_pgs ea.out, List.length_map]; omega) (by omega) la.out).mono ?_); rintro e wc ⟨vc, qc, rfl, ec, oc, hb⟩; obtain ⟨ac, cc, rfl⟩ := oc.shape; have Bc := KT.out _ _ (by first | exact drew_below _ | exact And.left (by assumption)) hb; replace ec := Lib.hid ec; have fc := oc.frame; have lc := hb.size; replace oc := Lib.hid oc; replace fc := Lib.hid fc; have zc := Bc.size; have hzc := hb.size; (try simp at hzc); (first | (have k5 := below_keep hb (by simp) _ _ (blk_new _ _ _)) | (have k5 := below_keep hb (by omega) _ _ k5) | skip); (try simp only [size_alloc] at k5)))
    all_goals
      clear KS KT BH
      go_wp2_with fail
      go_meet
      first
        | exact ⟨_, rfl, putIn_new Bc ec.out oc.out (by omega)⟩
        | exact ⟨_, rfl, putIn_old Bc ec.out oc.out (by omega) (by simp; done) (by omega) k5⟩
        | exact ⟨_, rfl, putIn_old Bc ec.out oc.out (by omega) (by omega) (by omega) k5⟩
  obtain ⟨g3, rfl, hcut⟩ := hcut
  rename_i w3
  obtain ⟨lo3, hi3, a3, q3, c3, b3, e3, o3, Fo3, lw3, hw3, gl3, hg3, gd3, KN3⟩ := hcut
  clear KS KT BH
  replace KA := KA.out
  replace KN := KN.out
  have s3 := b3.size
  replace KA := FKA.kept KA b3 (by omega)
  replace KN := FKN.kept KN b3 (by omega)
  replace B := B.trans (b3.mono B.size)
  clear b3
  have FKN3 := cells_frame g3 (fun o => (#[.int .i64 root, .slice a3 q3.length c3] : Array Value)[o]?)
  go_wp2_with fail
  refine (toBook_any root a _ cap ps _ (HR.out.below B) (by omega) (fun p hp => Nat.le_trans (hP.out p hp) (by decide))).mono ?_
  rintro e w4 ⟨v4, q4, rfl, e4, o4, b4⟩
  obtain ⟨a4, c4, rfl⟩ := o4.shape
  have Fo4 := o4.frame
  have i4 := o4.inb
  have s4 := b4.size
  have l4 := B.size
  replace KA := FKA.kept KA b4 (by omega)
  replace KN := FKN.kept KN b4 (by omega)
  replace o3 := Fo3.kept o3 b4 (by omega)
  replace KN3 := FKN3.kept KN3 b4 (by omega)
  replace B := B.trans (b4.mono B.size)
  clear b4
  have bb := new_below w4 (.cells #[.int .i64 root, .slice a4 q4.length c4] 26)
  have KX := (blk_new w4 #[.int .i64 root, .slice a4 q4.length c4] 26).1
  have FKX := cells_frame w4.heap.size (fun o => (#[.int .i64 root, .slice a4 q4.length c4] : Array Value)[o]?)
  have hX : w4.heap.size < (w4.alloc (.cells #[.int .i64 root, .slice a4 q4.length c4] 26)).heap.size := by simp
  replace KA := FKA.kept KA bb (by omega)
  replace KN := FKN.kept KN bb (by omega)
  replace o3 := Fo3.kept o3 bb (by omega)
  replace KN3 := FKN3.kept KN3 bb (by omega)
  replace o4 := Fo4.kept o4 bb (by omega)
  replace B := B.trans (bb.mono B.size)
  clear bb
  go_wp2_with fail
  refine (toNode_any lf a' _ cap' xs _ (HX.out.below B) (by omega)).mono ?_
  rintro e w5 ⟨v5, rfl, o5, b5⟩
  obtain ⟨a5, c5, rfl, -⟩ := o5.rd
  have Fo5 := OwnS.frame o5
  have t5 := World.ownsRow.lt o5
  have s5 := b5.size
  have l5 := B.size
  replace KA := FKA.kept KA b5 (by omega)
  replace KN := FKN.kept KN b5 (by omega)
  replace o3 := Fo3.kept o3 b5 (by omega)
  replace KN3 := FKN3.kept KN3 b5 (by omega)
  replace o4 := Fo4.kept o4 b5 (by omega)
  replace KX := FKX.kept KX b5 (by omega)
  replace B := B.trans (b5.mono B.size)
  clear b5
  have bb := new_below w5 (.cells #[.bool lf, .slice a5 xs.length c5] 32)
  have KY := (blk_new w5 #[.bool lf, .slice a5 xs.length c5] 32).1
  have FKY := cells_frame w5.heap.size (fun o => (#[.bool lf, .slice a5 xs.length c5] : Array Value)[o]?)
  have hY : w5.heap.size < (w5.alloc (.cells #[.bool lf, .slice a5 xs.length c5] 32)).heap.size := by simp
  replace KA := FKA.kept KA bb (by omega)
  replace KN := FKN.kept KN bb (by omega)
  replace o3 := Fo3.kept o3 bb (by omega)
  replace KN3 := FKN3.kept KN3 bb (by omega)
  replace o4 := Fo4.kept o4 bb (by omega)
  replace KX := FKX.kept KX bb (by omega)
  replace o5 := Fo5.kept o5 bb (by omega)
  replace B := B.trans (bb.mono B.size)
  clear bb
  go_wp2_with fail
  refine (C.out a4 _ c4 q4 a5 _ c5 _ o4.rd (rdS_ownsP o5) e4 (by rw [len_pgs e4, List.length_map]; omega) (by omega) (pgs_le o4 e4 (by omega))).mono ?_
  rintro e w6 ⟨v6, q6, rfl, e6, o6, b6⟩
  obtain ⟨a6, c6, rfl⟩ := o6.shape
  have Fo6 := o6.frame
  have i6 := o6.inb
  have s6 := b6.size
  have l6 := B.size
  replace KA := FKA.kept KA b6 (by omega)
  replace KN := FKN.kept KN b6 (by omega)
  replace o3 := Fo3.kept o3 b6 (by omega)
  replace KN3 := FKN3.kept KN3 b6 (by omega)
  replace o4 := Fo4.kept o4 b6 (by omega)
  replace KX := FKX.kept KX b6 (by omega)
  replace o5 := Fo5.kept o5 b6 (by omega)
  replace KY := FKY.kept KY b6 (by omega)
  replace B := B.trans (b6.mono B.size)
  clear b6
  have bb := new_below w6 (.cells #[.int .i64 root, .slice a6 q6.length c6] 26)
  have KG := (blk_new w6 #[.int .i64 root, .slice a6 q6.length c6] 26).1
  have FKG := cells_frame w6.heap.size (fun o => (#[.int .i64 root, .slice a6 q6.length c6] : Array Value)[o]?)
  have hG : w6.heap.size < (w6.alloc (.cells #[.int .i64 root, .slice a6 q6.length c6] 26)).heap.size := by simp
  replace KA := FKA.kept KA bb (by omega)
  replace KN := FKN.kept KN bb (by omega)
  replace o3 := Fo3.kept o3 bb (by omega)
  replace KN3 := FKN3.kept KN3 bb (by omega)
  replace o4 := Fo4.kept o4 bb (by omega)
  replace KX := FKX.kept KX bb (by omega)
  replace o5 := Fo5.kept o5 bb (by omega)
  replace KY := FKY.kept KY bb (by omega)
  replace o6 := Fo6.kept o6 bb (by omega)
  replace B := B.trans (bb.mono B.size)
  clear bb
  go_wp2_with fail
  refine (eqBook_same root a6 a3 _ _ c6 c3 q6 q3 _ o6.rd o3.rd (e6.trans e3.symm) (by rw [len_pgs e6]; omega) (pgs_le o6 e6 (by omega))).mono ?_
  rintro e w7 ⟨rfl, b7⟩
  have s7 := b7.size
  replace KA := FKA.kept KA b7 (by omega)
  replace KN := FKN.kept KN b7 (by omega)
  replace o3 := Fo3.kept o3 b7 (by omega)
  replace KN3 := FKN3.kept KN3 b7 (by omega)
  replace o4 := Fo4.kept o4 b7 (by omega)
  replace KX := FKX.kept KX b7 (by omega)
  replace o5 := Fo5.kept o5 b7 (by omega)
  replace KY := FKY.kept KY b7 (by omega)
  replace o6 := Fo6.kept o6 b7 (by omega)
  replace KG := FKG.kept KG b7 (by omega)
  replace B := B.trans (b7.mono B.size)
  clear b7
  have KS : ∀ V, Below w7.heap.size w7 V → (fun V => Below w7.heap.size w7 V ∧ V.cell? ⟨w4.heap.size, 0, none⟩ = some (.int .i64 root) ∧ V.cell? ⟨w4.heap.size, 1, none⟩ = some (.slice a4 q4.length c4) ∧ V.cell? ⟨w.heap.size, 0, none⟩ = some (.int .i64 root) ∧ V.cell? ⟨w.heap.size, 1, none⟩ = some (.slice a ps.length cap)) V := fun V b => ⟨b, (b.cell (p := ⟨w4.heap.size, 0, none⟩) (by show w4.heap.size < _; omega)).trans (KX 0), (b.cell (p := ⟨w4.heap.size, 1, none⟩) (by show w4.heap.size < _; omega)).trans (KX 1), (b.cell (p := ⟨w.heap.size, 0, none⟩) (by show w.heap.size < _; omega)).trans (KA 0), (b.cell (p := ⟨w.heap.size, 1, none⟩) (by show w.heap.size < _; omega)).trans (KA 1)⟩
  have KT : ∀ V V' : World, Below w7.heap.size w7 V → Below V.heap.size V V' → Below w7.heap.size w7 V' := fun V V' b b' => b.trans (b'.mono b.size)
  replace KS := Lib.hid KS
  replace KT := Lib.hid KT
  have BH := Lib.hid B
  replace KA := Lib.hid KA
  replace KN := Lib.hid KN
  replace o3 := Lib.hid o3
  replace KN3 := Lib.hid KN3
  replace o4 := Lib.hid o4
  replace KX := Lib.hid KX
  replace o5 := Lib.hid o5
  replace KY := Lib.hid KY
  replace o6 := Lib.hid o6
  replace KG := Lib.hid KG
  go_wp2_with fail
  go_region_held3 (fun V => Below w7.heap.size w7 V ∧ V.cell? ⟨w4.heap.size, 0, none⟩ = some (.int .i64 root) ∧ V.cell? ⟨w4.heap.size, 1, none⟩ = some (.slice a4 q4.length c4) ∧ V.cell? ⟨w.heap.size, 0, none⟩ = some (.int .i64 root) ∧ V.cell? ⟨w.heap.size, 1, none⟩ = some (.slice a ps.length cap))
    (first | exact KS.out _ (drew_below _) | exact KS.out _ (KT.out _ _ (And.left (by assumption)) hb))
    (first
      | (go_at_call 43; (with_reducible refine (toBook_any root a _ cap ps _ (HR.out.below (BH.out.trans (Below.mono (by first | exact drew_below _ | exact And.left (by assumption)) BH.out.size))) (by omega) (fun p hp => Nat.le_trans (hP.out p hp) (by decide))).mono ?_); rintro e wt ⟨vt, qt, rfl, et, ot, hb⟩; obtain ⟨at', ct, rfl⟩ := ot.shape; have rt := ot.rd; have et' := Lib.hid et; clear et)
      | (go_at_call 39; (with_reducible refine (eqBook_same root a4 at' _ _ c4 ct q4 qt _ ((o4.out.rd).below (by first | exact drew_below _ | exact And.left (by assumption))) rt (e4.trans et'.out.symm) (by rw [len_pgs e4, List.length_map]; omega) (pgs_le o4.out e4 (by omega))).mono ?_); rintro e wu ⟨rfl, hb⟩))
  rename_i hS
  have b8 := hS.1
  clear hS KS KT BH
  replace KA := KA.out
  replace KN := KN.out
  replace o3 := o3.out
  replace KN3 := KN3.out
  replace o4 := o4.out
  replace KX := KX.out
  replace o5 := o5.out
  replace KY := KY.out
  replace o6 := o6.out
  replace KG := KG.out
  have s8 := b8.size
  replace KA := FKA.kept KA b8 (by omega)
  replace KN := FKN.kept KN b8 (by omega)
  replace o3 := Fo3.kept o3 b8 (by omega)
  replace KN3 := FKN3.kept KN3 b8 (by omega)
  replace o4 := Fo4.kept o4 b8 (by omega)
  replace KX := FKX.kept KX b8 (by omega)
  replace o5 := Fo5.kept o5 b8 (by omega)
  replace KY := FKY.kept KY b8 (by omega)
  replace o6 := Fo6.kept o6 b8 (by omega)
  replace KG := FKG.kept KG b8 (by omega)
  replace B := B.trans (b8.mono B.size)
  clear b8
  have KS : ∀ V, Below wu.heap.size wu V → (fun V => Below wu.heap.size wu V ∧ V.cell? ⟨w5.heap.size, 0, none⟩ = some (.bool lf) ∧ V.cell? ⟨w5.heap.size, 1, none⟩ = some (.slice a5 xs.length c5) ∧ V.cell? ⟨w.heap.size + 1, 0, none⟩ = some (.bool lf) ∧ V.cell? ⟨w.heap.size + 1, 1, none⟩ = some (.slice a' xs.length cap')) V := fun V b => ⟨b, (b.cell (p := ⟨w5.heap.size, 0, none⟩) (by show w5.heap.size < _; omega)).trans (KY 0), (b.cell (p := ⟨w5.heap.size, 1, none⟩) (by show w5.heap.size < _; omega)).trans (KY 1), (b.cell (p := ⟨w.heap.size + 1, 0, none⟩) (by show w.heap.size + 1 < _; omega)).trans (KN 0), (b.cell (p := ⟨w.heap.size + 1, 1, none⟩) (by show w.heap.size + 1 < _; omega)).trans (KN 1)⟩
  have KT : ∀ V V' : World, Below wu.heap.size wu V → Below V.heap.size V V' → Below wu.heap.size wu V' := fun V V' b b' => b.trans (b'.mono b.size)
  replace KS := Lib.hid KS
  replace KT := Lib.hid KT
  have BH := Lib.hid B
  replace KA := Lib.hid KA
  replace KN := Lib.hid KN
  replace o3 := Lib.hid o3
  replace KN3 := Lib.hid KN3
  replace o4 := Lib.hid o4
  replace KX := Lib.hid KX
  replace o5 := Lib.hid o5
  replace KY := Lib.hid KY
  replace o6 := Lib.hid o6
  replace KG := Lib.hid KG
  go_wp2_with fail
  go_region_held3 (fun V => Below wu.heap.size wu V ∧ V.cell? ⟨w5.heap.size, 0, none⟩ = some (.bool lf) ∧ V.cell? ⟨w5.heap.size, 1, none⟩ = some (.slice a5 xs.length c5) ∧ V.cell? ⟨w.heap.size + 1, 0, none⟩ = some (.bool lf) ∧ V.cell? ⟨w.heap.size + 1, 1, none⟩ = some (.slice a' xs.length cap'))
    (first | exact KS.out _ (drew_below _) | exact KS.out _ (KT.out _ _ (And.left (by assumption)) hb))
    (first
      | (go_at_call 48; (with_reducible refine (toNode_any lf a' _ cap' xs _ (HX.out.below (BH.out.trans (Below.mono (by first | exact drew_below _ | exact And.left (by assumption)) BH.out.size))) (by omega)).mono ?_); rintro e wt ⟨vt, rfl, ot, hb⟩; obtain ⟨at', ct, rfl, -⟩ := ot.rd; have rt := rdS_ownsP ot)
      | (go_at_call 44; (with_reducible refine (eqNode_same lf a5 at' _ c5 ct xs _ ((rdS_ownsP o5.out).below (by first | exact drew_below _ | exact And.left (by assumption))) rt (by omega)).mono ?_); rintro e wu ⟨rfl, hb⟩))
  rename_i hS
  have b9 := hS.1
  clear hS KS KT BH
  replace KA := KA.out
  replace KN := KN.out
  replace o3 := o3.out
  replace KN3 := KN3.out
  replace o4 := o4.out
  replace KX := KX.out
  replace o5 := o5.out
  replace KY := KY.out
  replace o6 := o6.out
  replace KG := KG.out
  have s9 := b9.size
  replace KA := FKA.kept KA b9 (by omega)
  replace KN := FKN.kept KN b9 (by omega)
  replace o3 := Fo3.kept o3 b9 (by omega)
  replace KN3 := FKN3.kept KN3 b9 (by omega)
  replace o4 := Fo4.kept o4 b9 (by omega)
  replace KX := FKX.kept KX b9 (by omega)
  replace o5 := Fo5.kept o5 b9 (by omega)
  replace KY := FKY.kept KY b9 (by omega)
  replace o6 := Fo6.kept o6 b9 (by omega)
  replace KG := FKG.kept KG b9 (by omega)
  replace B := B.trans (b9.mono B.size)
  clear b9
  have m4 := endP_pg o4 e4 (by rw [List.length_map]; omega)
  have hz0 : 0 ≤ endP 1 q4 := by rw [endP_eq]; omega
  go_wp2_with fail
  refine (markBook_any root a4 _ c4 q4 1 _ _ _ o4 i4 (by omega) m4).mono ?_
  rintro e w10 ⟨rfl, p10, g10⟩
  have s10 := g10.size
  replace B := ChgIn.below B B.size g10 (by omega)
  replace KA := FKA.chg KA g10 (by omega) (by omega)
  replace KN := FKN.chg KN g10 (by omega) (by omega)
  replace o3 := Fo3.chg o3 g10 (by omega) (by omega)
  replace KN3 := FKN3.chg KN3 g10 (by omega) (by omega)
  replace KX := FKX.chg KX g10 (by omega) (by omega)
  replace o5 := Fo5.chg o5 g10 (by omega) (by omega)
  replace KY := FKY.chg KY g10 (by omega) (by omega)
  replace o6 := Fo6.chg o6 g10 (by omega) (by omega)
  replace KG := FKG.chg KG g10 (by omega) (by omega)
  clear o4 Fo4
  clear g10 p10
  have hz : ¬ endP 1 q4 + 5 * (xs.length : Int) < 0 := by omega
  go_wp2_with fail
  refine (markNode_any lf a5 _ c5 xs (endP 1 q4) _ _ o5 rfl (by omega) (by omega) (by omega)).mono ?_
  rintro e w11 ⟨rfl, p5, y5⟩
  have g5 := ChgIn.of_grown (lo := (w4.alloc (.cells #[.int .i64 root, .slice a4 q4.length c4] 26)).heap.size) (hi := w5.heap.size) y5 t5
  have s11 := g5.size
  replace B := ChgIn.below B B.size g5 (by omega)
  replace KA := FKA.chg KA g5 (by omega) (by omega)
  replace KN := FKN.chg KN g5 (by omega) (by omega)
  replace o3 := Fo3.chg o3 g5 (by omega) (by omega)
  replace KN3 := FKN3.chg KN3 g5 (by omega) (by omega)
  replace KX := FKX.chg KX g5 (by omega) (by omega)
  replace KY := FKY.chg KY g5 (by omega) (by omega)
  replace o6 := Fo6.chg o6 g5 (by omega) (by omega)
  replace KG := FKG.chg KG g5 (by omega) (by omega)
  clear o5 Fo5 y5 g5
  clear p5
  go_wp2_with fail
  refine (eqBook_same root a6 a3 _ _ c6 c3 q6 q3 _ o6.rd o3.rd (e6.trans e3.symm) (by rw [len_pgs e6]; omega) (pgs_le o6 e6 (by omega))).mono ?_
  rintro e w12 ⟨rfl, b12⟩
  have s12 := b12.size
  replace KA := FKA.kept KA b12 (by omega)
  replace KN := FKN.kept KN b12 (by omega)
  replace o3 := Fo3.kept o3 b12 (by omega)
  replace KN3 := FKN3.kept KN3 b12 (by omega)
  replace KX := FKX.kept KX b12 (by omega)
  replace KY := FKY.kept KY b12 (by omega)
  replace o6 := Fo6.kept o6 b12 (by omega)
  replace KG := FKG.kept KG b12 (by omega)
  replace B := B.trans (b12.mono B.size)
  clear b12
  have m6 := endP_pg o6 e6 (by omega)
  have hz2 : ¬ endP 1 q6 < 0 := by rw [endP_eq]; omega
  go_wp2_with fail
  refine (markBook_any root a6 _ c6 q6 1 _ _ _ o6 i6 (by omega) m6).mono ?_
  rintro e w13 ⟨rfl, p13, g13⟩
  have s13 := g13.size
  replace B := ChgIn.below B B.size g13 (by omega)
  replace KA := FKA.chg KA g13 (by omega) (by omega)
  replace KN := FKN.chg KN g13 (by omega) (by omega)
  replace o3 := Fo3.chg o3 g13 (by omega) (by omega)
  replace KN3 := FKN3.chg KN3 g13 (by omega) (by omega)
  replace KX := FKX.chg KX g13 (by omega) (by omega)
  replace KY := FKY.chg KY g13 (by omega) (by omega)
  replace KG := FKG.chg KG g13 (by omega) (by omega)
  clear o6 Fo6
  have Fp13 := p13.frame
  clear g13
  go_wp2_with fail
  refine (heldBook_any root a6 _ c6 q6 1 _ (by have := p13.rd; exact this) (by omega) m6).mono ?_
  rintro e w14 ⟨rfl, b14⟩
  have s14 := b14.size
  replace KA := FKA.kept KA b14 (by omega)
  replace KN := FKN.kept KN b14 (by omega)
  replace o3 := Fo3.kept o3 b14 (by omega)
  replace KN3 := FKN3.kept KN3 b14 (by omega)
  replace KX := FKX.kept KX b14 (by omega)
  replace KY := FKY.kept KY b14 (by omega)
  replace KG := FKG.kept KG b14 (by omega)
  replace p13 := Fp13.kept p13 b14 (by omega)
  replace B := B.trans (b14.mono B.size)
  clear b14
  go_upto_region 20 with (fail)
  have KS := Lib.hid (show ∀ V, Below w14.heap.size w14 V → (fun V => Below w14.heap.size w14 V ∧ V.cell? ⟨w.heap.size, 0, none⟩ = some (.int .i64 root) ∧ V.cell? ⟨w.heap.size, 1, none⟩ = some (.slice a ps.length cap) ∧ V.cell? ⟨w.heap.size + 1, 0, none⟩ = some (.bool lf) ∧ V.cell? ⟨w.heap.size + 1, 1, none⟩ = some (.slice a' xs.length cap')) V from fun V b => ⟨b, (b.cell (p := ⟨w.heap.size, 0, none⟩) (by show w.heap.size < _; omega)).trans (KA 0), (b.cell (p := ⟨w.heap.size, 1, none⟩) (by show w.heap.size < _; omega)).trans (KA 1), (b.cell (p := ⟨w.heap.size + 1, 0, none⟩) (by show w.heap.size + 1 < _; omega)).trans (KN 0), (b.cell (p := ⟨w.heap.size + 1, 1, none⟩) (by show w.heap.size + 1 < _; omega)).trans (KN 1)⟩)
  have KT := Lib.hid (show ∀ V V' : World, Below w14.heap.size w14 V → Below V.heap.size V V' → Below w14.heap.size w14 V' from fun V V' b b' => b.trans (b'.mono b.size))
  have BH := Lib.hid B
  replace KA := Lib.hid KA
  replace KN := Lib.hid KN
  replace o3 := Lib.hid o3
  replace KN3 := Lib.hid KN3
  replace KX := Lib.hid KX
  replace KY := Lib.hid KY
  replace KG := Lib.hid KG
  replace p13 := Lib.hid p13
  go_cut [15] (fun s V => ∃ g, s = .pointer (some ⟨g, 0, none⟩) ∧ PutIn w14 root L g V)
  case first =>
    go_region_held3 (fun V => Below w14.heap.size w14 V ∧ V.cell? ⟨w.heap.size, 0, none⟩ = some (.int .i64 root) ∧ V.cell? ⟨w.heap.size, 1, none⟩ = some (.slice a ps.length cap) ∧ V.cell? ⟨w.heap.size + 1, 0, none⟩ = some (.bool lf) ∧ V.cell? ⟨w.heap.size + 1, 1, none⟩ = some (.slice a' xs.length cap'))
      (first | exact KS.out _ (drew_below _) | exact KS.out _ (KT.out _ _ (And.left (by assumption)) hb) | exact KS.out _ (KT.out _ _ (And.left (by assumption)) (new_below _ _)) | exact KS.out _ (KT.out _ _ Bc (new_below _ _)) | exact KS.out _ (st2 Bc (by omega)))
      (first
        | (go_at_call 43; (with_reducible refine (toBook_any root a _ cap ps _ (HR.out.below (BH.out.trans (Below.mono (by first | exact drew_below _ | exact And.left (by assumption)) BH.out.size))) (by omega) (fun p hp => Nat.le_trans (hP.out p hp) (by decide))).mono ?_); rintro e wa ⟨va, qa, rfl, ea, oa, hb⟩; obtain ⟨aa, ca, rfl⟩ := oa.shape; have ra := oa.rd; have la := Lib.hid (pgs_le oa ea (B := 1099511627776) (by omega)); replace ea := Lib.hid ea; clear oa; have Ba := KT.out _ _ (by first | exact drew_below _ | exact And.left (by assumption)) hb; have za := Ba.size; have hza := hb.size; (try simp at hza); (first | (have k5 := below_keep hb (by simp) _ _ (blk_new _ _ _)) | (have k5 := below_keep hb (by omega) _ _ k5) | skip); (try simp only [size_alloc] at k5))
        | (go_at_call 48; (with_reducible refine (toNode_any lf a' _ cap' xs _ (HX.out.below (BH.out.trans (Below.mono (by first | exact drew_below _ | exact And.left (by assumption)) BH.out.size))) (by omega)).mono ?_); rintro e wb ⟨vb, rfl, ob, hb⟩; obtain ⟨ab, cb, rfl, -⟩ := ob.rd; have rb := rdS_ownsP ob; clear ob; (first | replace ra := ra.below hb | replace ra := (ra.below (new_below _ _)).below hb); have Bb := KT.out _ _ (by first | exact drew_below _ | exact And.left (by assumption)) hb; have zb := Bb.size; have hzb := hb.size; (try simp at hzb); (first | (have k5 := below_keep hb (by simp) _ _ (blk_new _ _ _)) | (have k5 := below_keep hb (by omega) _ _ k5) | skip); (try simp only [size_alloc] at k5))
        | (go_at_call 18; (with_reducible first | refine (C.out _ _ _ _ _ _ _ _ ra rb ea.out (by rw [len_pgs ea.out, List.length_map]; omega) (by omega) la.out).mono ?_ | refine (C.out _ _ _ _ _ _ _ _ (ra.below (new_below _ _)) (rb.below (new_below _ _)) ea.out (by rw [len_pgs ea.out, List.length_map]; omega) (by omega) la.out).mono ?_); rintro e wc ⟨vc, qc, rfl, ec, oc, hb⟩; obtain ⟨ac, cc, rfl⟩ := oc.shape; have Bc := KT.out _ _ (by first | exact drew_below _ | exact And.left (by assumption)) hb; replace ec := Lib.hid ec; have fc := oc.frame; have lc := hb.size; replace oc := Lib.hid oc; replace fc := Lib.hid fc; have zc := Bc.size; have hzc := hb.size; (try simp at hzc); (first | (have k5 := below_keep hb (by simp) _ _ (blk_new _ _ _)) | (have k5 := below_keep hb (by omega) _ _ k5) | skip); (try simp only [size_alloc] at k5)))
    all_goals
      clear KS KT BH
      go_wp2_with fail
      go_meet
      first
        | exact ⟨_, rfl, putIn_new Bc ec.out oc.out (by omega)⟩
        | exact ⟨_, rfl, putIn_old Bc ec.out oc.out (by omega) (by simp; done) (by omega) k5⟩
        | exact ⟨_, rfl, putIn_old Bc ec.out oc.out (by omega) (by omega) (by omega) k5⟩
  obtain ⟨g15, rfl, hcut⟩ := hcut
  rename_i w15
  obtain ⟨lo15, hi15, a15, q15, c15, b15, e15, o15, Fo15, lw15, hw15, gl15, hg15, gd15, KN15⟩ := hcut
  clear KS KT BH
  replace KA := KA.out
  replace KN := KN.out
  replace o3 := o3.out
  replace KN3 := KN3.out
  replace KX := KX.out
  replace KY := KY.out
  replace KG := KG.out
  replace p13 := p13.out
  have s15 := b15.size
  replace KA := FKA.kept KA b15 (by omega)
  replace KN := FKN.kept KN b15 (by omega)
  replace o3 := Fo3.kept o3 b15 (by omega)
  replace KN3 := FKN3.kept KN3 b15 (by omega)
  replace KX := FKX.kept KX b15 (by omega)
  replace KY := FKY.kept KY b15 (by omega)
  replace KG := FKG.kept KG b15 (by omega)
  replace p13 := Fp13.kept p13 b15 (by omega)
  replace B := B.trans (b15.mono B.size)
  clear b15
  have FKN15 := cells_frame g15 (fun o => (#[.int .i64 root, .slice a15 q15.length c15] : Array Value)[o]?)
  go_wp2_with fail
  refine (eqBook_same root a15 a3 _ _ c15 c3 q15 q3 _ o15.rd o3.rd (e15.trans e3.symm) (by rw [len_pgs e15]; omega) (pgs_le o15 e15 (by omega))).mono ?_
  rintro e w16 ⟨rfl, b16⟩
  have s16 := b16.size
  replace KA := FKA.kept KA b16 (by omega)
  replace KN := FKN.kept KN b16 (by omega)
  replace o3 := Fo3.kept o3 b16 (by omega)
  replace KN3 := FKN3.kept KN3 b16 (by omega)
  replace KX := FKX.kept KX b16 (by omega)
  replace KY := FKY.kept KY b16 (by omega)
  replace KG := FKG.kept KG b16 (by omega)
  replace p13 := Fp13.kept p13 b16 (by omega)
  replace o15 := Fo15.kept o15 b16 (by omega)
  replace KN15 := FKN15.kept KN15 b16 (by omega)
  replace B := B.trans (b16.mono B.size)
  clear b16
  go_wp2_with fail
  refine (heldBook_any root a6 _ c6 q6 1 _ (by have := p13.rd; exact this) (by omega) m6).mono ?_
  rintro e w17 ⟨rfl, b17⟩
  have s17 := b17.size
  replace KA := FKA.kept KA b17 (by omega)
  replace KN := FKN.kept KN b17 (by omega)
  replace o3 := Fo3.kept o3 b17 (by omega)
  replace KN3 := FKN3.kept KN3 b17 (by omega)
  replace KX := FKX.kept KX b17 (by omega)
  replace KY := FKY.kept KY b17 (by omega)
  replace KG := FKG.kept KG b17 (by omega)
  replace p13 := Fp13.kept p13 b17 (by omega)
  replace o15 := Fo15.kept o15 b17 (by omega)
  replace KN15 := FKN15.kept KN15 b17 (by omega)
  replace B := B.trans (b17.mono B.size)
  clear b17
  go_wp2
  go_ret
  exact ⟨rfl, B⟩

theorem exPut_walk (C : CPut 18) (root i : Int) (a : Option Addr) (n cap : Nat) (ps : List PgV) (lf : Bool) (a' : Option Addr) (n' cap' : Nat) (xs : List It) (w : World) (h : RdP w a n cap ps) (h' : RdS itLay w a' n' cap' xs) (hi : (Lit.int .i64 i).wf = true) :
    Calls Try.prog 7 #[.agg #[.int .i64 root, .slice a n cap], .int .i64 i, .agg #[.bool lf, .slice a' n' cap']] w fun e w' => e = .returned (.bool true) ∧ Below w.heap.size w w' :=
  exPut_core root i a n cap ps lf a' n' cap' xs (putV (ps.map PgV.pg) i ⟨true, lf, xs⟩)
    (fun h1 h2 h3 => by
      obtain ⟨h4, h5⟩ := putV_le (ps.map PgV.pg) i ⟨true, lf, xs⟩
      rw [List.length_map] at h4
      exact ⟨by omega, Nat.le_trans h5 (Nat.add_le_add h2 h3)⟩)
    (fun a n cap qs a' n' cap' W hq hx e hn hn' hp => by have := sPut_any root i a n cap qs lf a' n' cap' xs W hq hx hi hn hn' hp; rw [e] at this; exact this)
    (fun a n cap qs a' n' cap' W hq hx e hn hn' hp => by have := C root i a n cap qs lf a' n' cap' xs W hq hx hi hn hn' hp; rw [e] at this; exact this) w h h'
end Go.Proofs.Ytnebhbnogmhbgaa
