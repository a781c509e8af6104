/- The exact law of Search. -/
import Derived.Test.YtfefggcfeppeiaaLookYZExSix
import Derived.Test.YtfefggcfeppeiaaQExSixd
namespace Go.Proofs.Ytfefggcfeppeiaa
open Go.RowKit

set_option maxHeartbeats 3200000 in
set_option maxRecDepth 100000 in
theorem exSearch_core (root : Int) (c : Bx) (a : Option Addr) (n cap : Nat) (ps : List PgV) (L : List It) (hL : L.length ≤ 22369620) (CS : (∀ (a : Option Addr) (n cap : Nat) (qs : List PgV) (W : World), RdP W a n cap qs → qs.map PgV.pg = ps.map PgV.pg → n ≤ 1048576 → totG (ps.map PgV.pg) ≤ 1048576 → Calls Try.prog 41 #[.agg #[.int .i64 root, .slice a n cap], .agg #[.int .i64 c.x0, .int .i64 c.y0, .int .i64 c.x1, .int .i64 c.y1]] W (NewItems L W))) (C : (∀ (a : Option Addr) (n cap : Nat) (qs : List PgV) (W : World), RdP W a n cap qs → qs.map PgV.pg = ps.map PgV.pg → n ≤ 1048576 → totG (ps.map PgV.pg) ≤ 1048576 → Calls Try.prog 43 #[.agg #[.int .i64 root, .slice a n cap], .agg #[.int .i64 c.x0, .int .i64 c.y0, .int .i64 c.x1, .int .i64 c.y1]] W (NewItems L W))) (w : World) (h : RdP w a n cap ps) :
    Calls Try.prog 6 #[.agg #[.int .i64 root, .slice a n cap], .agg #[.int .i64 c.x0, .int .i64 c.y0, .int .i64 c.x1, .int .i64 c.y1]] w fun e w' => e = .returned (.bool true) ∧ Below w.heap.size w w' := by
  have hln := h.1.1.1
  subst hln
  have KA := ((Loc.new w #[.int .i64 root, .slice a ps.length cap] 51).alloc (.cells #[.int .i64 c.x0, .int .i64 c.y0, .int .i64 c.x1, .int .i64 c.y1] 66)).2.1
  have KC := (Loc.new (w.alloc (.cells #[.int .i64 root, .slice a ps.length cap] 51)) #[.int .i64 c.x0, .int .i64 c.y0, .int .i64 c.x1, .int .i64 c.y1] 66).2.1
  rw [show (w.alloc (.cells #[.int .i64 root, .slice a ps.length cap] 51)).heap.size = w.heap.size + 1 by simp] at KC
  have hA : w.heap.size + 1 < ((w.alloc (.cells #[.int .i64 root, .slice a ps.length cap] 51)).alloc (.cells #[.int .i64 c.x0, .int .i64 c.y0, .int .i64 c.x1, .int .i64 c.y1] 66)).heap.size := by simp
  have B : Below w.heap.size w ((w.alloc (.cells #[.int .i64 root, .slice a ps.length cap] 51)).alloc (.cells #[.int .i64 c.x0, .int .i64 c.y0, .int .i64 c.x1, .int .i64 c.y1] 66)) := ((Below.refl _ _).alloc (Nat.le_refl _) _).alloc (by simp) _
  have FKA := cells_frame (w.heap.size) (fun o => (#[.int .i64 root, .slice a ps.length cap] : Array Value)[o]?)
  have FKC := cells_frame (w.heap.size + 1) (fun o => (#[.int .i64 c.x0, .int .i64 c.y0, .int .i64 c.x1, .int .i64 c.y1] : Array Value)[o]?)
  have HR := Lib.hid h
  clear h
  replace C := Lib.hid C
  replace CS := Lib.hid CS
  go_enter Try.func6, Try.ntmps6
  go_wp2_with fail
  refine (szBook_any root a _ cap ps 1048576 _ (HR.out.below B) (by omega)).mono ?_
  rintro e w1 ⟨r1, rfl, z1, b1⟩
  have s1 := b1.size
  replace KA := FKA.kept KA b1 (by omega)
  replace KC := FKC.kept KC b1 (by omega)
  replace B := B.trans (b1.mono B.size)
  clear b1
  by_cases y1 : r1 < 0
  · go_wp2
    go_ret
    exact ⟨rfl, B⟩
  have hn : ps.length ≤ 1048576 := by omega
  have hT : totG (ps.map PgV.pg) ≤ 1048576 := by rw [← totP_rd HR.out]; omega
  have hP : Hid (∀ p ∈ ps, p.n ≤ 1048576) := Lib.hid (pgs_rd HR.out rfl hT)
  have hr : 0 ≤ r1 ∧ r1 ≤ 1048576 := by omega
  clear z1
  go_upto_region 5 with (fail)
  have KS := Lib.hid (show ∀ V, Below w1.heap.size w1 V → (fun V => Below w1.heap.size w1 V ∧ V.cell? ⟨w.heap.size, 0, none⟩ = some (.int .i64 root) ∧ V.cell? ⟨w.heap.size, 1, none⟩ = some (.slice a ps.length cap) ∧ V.cell? ⟨w.heap.size + 1, 0, none⟩ = some (.int .i64 c.x0) ∧ V.cell? ⟨w.heap.size + 1, 1, none⟩ = some (.int .i64 c.y0) ∧ V.cell? ⟨w.heap.size + 1, 2, none⟩ = some (.int .i64 c.x1) ∧ V.cell? ⟨w.heap.size + 1, 3, none⟩ = some (.int .i64 c.y1)) V from fun V b => ⟨b, (b.cell (p := ⟨w.heap.size, 0, none⟩) (by show w.heap.size < _; omega)).trans (KA 0), (b.cell (p := ⟨w.heap.size, 1, none⟩) (by show w.heap.size < _; omega)).trans (KA 1), (b.cell (p := ⟨w.heap.size + 1, 0, none⟩) (by show w.heap.size + 1 < _; omega)).trans (KC 0), (b.cell (p := ⟨w.heap.size + 1, 1, none⟩) (by show w.heap.size + 1 < _; omega)).trans (KC 1), (b.cell (p := ⟨w.heap.size + 1, 2, none⟩) (by show w.heap.size + 1 < _; omega)).trans (KC 2), (b.cell (p := ⟨w.heap.size + 1, 3, none⟩) (by show w.heap.size + 1 < _; omega)).trans (KC 3)⟩)
  have KT := Lib.hid (show ∀ V V' : World, Below w1.heap.size w1 V → Below V.heap.size V V' → Below w1.heap.size w1 V' from fun V V' b b' => b.trans (b'.mono b.size))
  have BH := Lib.hid B
  replace KA := Lib.hid KA
  replace KC := Lib.hid KC
  go_cut [6] (fun s V => ∃ (v : Value) (V1 : World), V1 = V ∧ s = v ∧ OwnS itLay 98 V w1.heap.size v L ∧ Below w1.heap.size w1 V)
  case first =>
    go_region_held3 (fun V => Below w1.heap.size w1 V ∧ V.cell? ⟨w.heap.size, 0, none⟩ = some (.int .i64 root) ∧ V.cell? ⟨w.heap.size, 1, none⟩ = some (.slice a ps.length cap) ∧ V.cell? ⟨w.heap.size + 1, 0, none⟩ = some (.int .i64 c.x0) ∧ V.cell? ⟨w.heap.size + 1, 1, none⟩ = some (.int .i64 c.y0) ∧ V.cell? ⟨w.heap.size + 1, 2, none⟩ = some (.int .i64 c.x1) ∧ V.cell? ⟨w.heap.size + 1, 3, none⟩ = some (.int .i64 c.y1))
      (first | exact KS.out _ (drew_below _) | exact KS.out _ (KT.out _ _ (And.left (by assumption)) hb))
      (first
        | (go_at_call 31; (with_reducible refine (toBook_any root a _ cap ps _ (HR.out.below (BH.out.trans (Below.mono (by first | exact drew_below _ | exact And.left (by assumption)) BH.out.size))) (by omega) (fun p hp => Nat.le_trans (hP.out p hp) (by decide))).mono ?_); rintro e wt ⟨vt, qt, rfl, et, ot, hb⟩; obtain ⟨at', ct', rfl⟩ := ot.shape; have rt := ot.rd; replace et := Lib.hid et; clear ot)
        | (go_at_call 42; (with_reducible refine (toBox_any c.x0 c.y0 c.x1 c.y1 _).mono ?_); rintro e wx ⟨rfl, hb⟩; replace rt := rt.below hb)
        | (go_at_call 41; (with_reducible refine (CS.out at' _ ct' qt _ rt et.out (by rw [len_pgs et.out, List.length_map]; omega) hT).mono ?_); rintro e wu ⟨vu, rfl, ou, hb⟩; obtain ⟨au, cu, rfl, -⟩ := ou.rd; replace ou := OwnS.mono (L := itLay) ou (Below.size (by first | exact drew_below _ | exact And.left (by assumption))); replace ou := Lib.hid ou))
    all_goals
      clear KS KT BH
      go_wp2_with fail
      go_meet
      exact ⟨_, _, rfl, rfl, ou.out, And.left (by assumption)⟩
  obtain ⟨v2, w2, rfl, rfl, o2, b2⟩ := hcut
  clear KS KT BH
  replace KA := KA.out
  replace KC := KC.out
  obtain ⟨a2, c2, rfl, -⟩ := o2.rd
  have Fo2 := OwnS.frame o2
  have t2 := World.ownsRow.lt o2
  have s2 := b2.size
  have l2 := B.size
  replace KA := FKA.kept KA b2 (by omega)
  replace KC := FKC.kept KC b2 (by omega)
  replace B := B.trans (b2.mono B.size)
  clear b2
  go_wp2_with fail
  refine (toBook_any root a _ cap ps _ (HR.out.below B) (by omega) (fun p hp => Nat.le_trans (hP.out p hp) (by decide))).mono ?_
  rintro e w3 ⟨v3, q3, rfl, e3, o3, b3⟩
  obtain ⟨a3, c3, rfl⟩ := o3.shape
  have Fo3 := o3.frame
  have i3 := o3.inb
  have s3 := b3.size
  have l3 := B.size
  replace KA := FKA.kept KA b3 (by omega)
  replace KC := FKC.kept KC b3 (by omega)
  replace o2 := Fo2.kept o2 b3 (by omega)
  replace B := B.trans (b3.mono B.size)
  clear b3
  have bb := new_below w3 (.cells #[.int .i64 root, .slice a3 q3.length c3] 26)
  have KX := (blk_new w3 #[.int .i64 root, .slice a3 q3.length c3] 26).1
  have FKX := cells_frame w3.heap.size (fun o => (#[.int .i64 root, .slice a3 q3.length c3] : Array Value)[o]?)
  have hX : w3.heap.size < (w3.alloc (.cells #[.int .i64 root, .slice a3 q3.length c3] 26)).heap.size := by simp
  replace KA := FKA.kept KA bb (by omega)
  replace KC := FKC.kept KC bb (by omega)
  replace o2 := Fo2.kept o2 bb (by omega)
  replace o3 := Fo3.kept o3 bb (by omega)
  replace B := B.trans (bb.mono B.size)
  clear bb
  go_upto_region 7 with (fail)
  have KS := Lib.hid (show ∀ V, Below (w3.alloc (.cells #[.int .i64 root, .slice a3 q3.length c3] 26)).heap.size (w3.alloc (.cells #[.int .i64 root, .slice a3 q3.length c3] 26)) V → (fun V => Below (w3.alloc (.cells #[.int .i64 root, .slice a3 q3.length c3] 26)).heap.size (w3.alloc (.cells #[.int .i64 root, .slice a3 q3.length c3] 26)) V ∧ V.cell? ⟨w.heap.size, 0, none⟩ = some (.int .i64 root) ∧ V.cell? ⟨w.heap.size, 1, none⟩ = some (.slice a ps.length cap) ∧ V.cell? ⟨w.heap.size + 1, 0, none⟩ = some (.int .i64 c.x0) ∧ V.cell? ⟨w.heap.size + 1, 1, none⟩ = some (.int .i64 c.y0) ∧ V.cell? ⟨w.heap.size + 1, 2, none⟩ = some (.int .i64 c.x1) ∧ V.cell? ⟨w.heap.size + 1, 3, none⟩ = some (.int .i64 c.y1) ∧ V.cell? ⟨w3.heap.size, 0, none⟩ = some (.int .i64 root) ∧ V.cell? ⟨w3.heap.size, 1, none⟩ = some (.slice a3 q3.length c3)) V from fun V b => ⟨b, (b.cell (p := ⟨w.heap.size, 0, none⟩) (by show w.heap.size < _; omega)).trans (KA 0), (b.cell (p := ⟨w.heap.size, 1, none⟩) (by show w.heap.size < _; omega)).trans (KA 1), (b.cell (p := ⟨w.heap.size + 1, 0, none⟩) (by show w.heap.size + 1 < _; omega)).trans (KC 0), (b.cell (p := ⟨w.heap.size + 1, 1, none⟩) (by show w.heap.size + 1 < _; omega)).trans (KC 1), (b.cell (p := ⟨w.heap.size + 1, 2, none⟩) (by show w.heap.size + 1 < _; omega)).trans (KC 2), (b.cell (p := ⟨w.heap.size + 1, 3, none⟩) (by show w.heap.size + 1 < _; omega)).trans (KC 3), (b.cell (p := ⟨w3.heap.size, 0, none⟩) (by show w3.heap.size < _; omega)).trans (KX 0), (b.cell (p := ⟨w3.heap.size, 1, none⟩) (by show w3.heap.size < _; omega)).trans (KX 1)⟩)
  have KT := Lib.hid (show ∀ V V' : World, Below (w3.alloc (.cells #[.int .i64 root, .slice a3 q3.length c3] 26)).heap.size (w3.alloc (.cells #[.int .i64 root, .slice a3 q3.length c3] 26)) V → Below V.heap.size V V' → Below (w3.alloc (.cells #[.int .i64 root, .slice a3 q3.length c3] 26)).heap.size (w3.alloc (.cells #[.int .i64 root, .slice a3 q3.length c3] 26)) V' from fun V V' b b' => b.trans (b'.mono b.size))
  have BH := Lib.hid B
  replace KA := Lib.hid KA
  replace KC := Lib.hid KC
  replace o2 := Lib.hid o2
  replace o3 := Lib.hid o3
  replace KX := Lib.hid KX
  go_cut [8] (fun s V => ∃ (v : Value) (V1 : World), V1 = V ∧ s = v ∧ OwnS itLay 98 V (w3.alloc (.cells #[.int .i64 root, .slice a3 q3.length c3] 26)).heap.size v L ∧ Below (w3.alloc (.cells #[.int .i64 root, .slice a3 q3.length c3] 26)).heap.size (w3.alloc (.cells #[.int .i64 root, .slice a3 q3.length c3] 26)) V)
  case first =>
    go_region_held3 (fun V => Below (w3.alloc (.cells #[.int .i64 root, .slice a3 q3.length c3] 26)).heap.size (w3.alloc (.cells #[.int .i64 root, .slice a3 q3.length c3] 26)) V ∧ V.cell? ⟨w.heap.size, 0, none⟩ = some (.int .i64 root) ∧ V.cell? ⟨w.heap.size, 1, none⟩ = some (.slice a ps.length cap) ∧ V.cell? ⟨w.heap.size + 1, 0, none⟩ = some (.int .i64 c.x0) ∧ V.cell? ⟨w.heap.size + 1, 1, none⟩ = some (.int .i64 c.y0) ∧ V.cell? ⟨w.heap.size + 1, 2, none⟩ = some (.int .i64 c.x1) ∧ V.cell? ⟨w.heap.size + 1, 3, none⟩ = some (.int .i64 c.y1) ∧ V.cell? ⟨w3.heap.size, 0, none⟩ = some (.int .i64 root) ∧ V.cell? ⟨w3.heap.size, 1, none⟩ = some (.slice a3 q3.length c3))
      (first | exact KS.out _ (drew_below _) | exact KS.out _ (KT.out _ _ (And.left (by assumption)) hb))
      (first
        | (go_at_call 42; (with_reducible refine (toBox_any c.x0 c.y0 c.x1 c.y1 _).mono ?_); rintro e wx ⟨rfl, hb⟩)
        | (go_at_call 43; (with_reducible refine (C.out a3 _ c3 q3 _ ((o3.out.rd).below (by first | exact drew_below _ | exact And.left (by assumption))) e3 (by rw [len_pgs e3, List.length_map]; omega) hT).mono ?_); rintro e wu ⟨vu, rfl, ou, hb⟩; obtain ⟨au, cu, rfl, -⟩ := ou.rd; replace ou := OwnS.mono (L := itLay) ou (Below.size (by first | exact drew_below _ | exact And.left (by assumption))); replace ou := Lib.hid ou))
    all_goals
      clear KS KT BH
      go_wp2_with fail
      go_meet
      exact ⟨_, _, rfl, rfl, ou.out, And.left (by assumption)⟩
  obtain ⟨v4, w4, rfl, rfl, o4, b4⟩ := hcut
  clear KS KT BH
  replace KA := KA.out
  replace KC := KC.out
  replace o2 := o2.out
  replace o3 := o3.out
  replace KX := KX.out
  obtain ⟨a4, c4, rfl, -⟩ := o4.rd
  have Fo4 := OwnS.frame o4
  have t4 := World.ownsRow.lt o4
  have s4 := b4.size
  have l4 := B.size
  replace KA := FKA.kept KA b4 (by omega)
  replace KC := FKC.kept KC b4 (by omega)
  replace o2 := Fo2.kept o2 b4 (by omega)
  replace o3 := Fo3.kept o3 b4 (by omega)
  replace KX := FKX.kept KX b4 (by omega)
  replace B := B.trans (b4.mono B.size)
  clear b4
  go_wp2_with fail
  refine (eqItemS_same a4 a2 _ c4 c2 L _ (rdS_ownsP o4) (rdS_ownsP o2) (by omega)).mono ?_
  rintro e w5 ⟨rfl, b5⟩
  have s5 := b5.size
  replace KA := FKA.kept KA b5 (by omega)
  replace KC := FKC.kept KC b5 (by omega)
  replace o2 := Fo2.kept o2 b5 (by omega)
  replace o3 := Fo3.kept o3 b5 (by omega)
  replace KX := FKX.kept KX b5 (by omega)
  replace o4 := Fo4.kept o4 b5 (by omega)
  replace B := B.trans (b5.mono B.size)
  clear b5
  have KS : ∀ V, Below w5.heap.size w5 V → (fun V => Below w5.heap.size w5 V ∧ V.cell? ⟨w3.heap.size, 0, none⟩ = some (.int .i64 root) ∧ V.cell? ⟨w3.heap.size, 1, none⟩ = some (.slice a3 q3.length c3) ∧ V.cell? ⟨w.heap.size, 0, none⟩ = some (.int .i64 root) ∧ V.cell? ⟨w.heap.size, 1, none⟩ = some (.slice a ps.length cap)) V := fun V b => ⟨b, (b.cell (p := ⟨w3.heap.size, 0, none⟩) (by show w3.heap.size < _; omega)).trans (KX 0), (b.cell (p := ⟨w3.heap.size, 1, none⟩) (by show w3.heap.size < _; omega)).trans (KX 1), (b.cell (p := ⟨w.heap.size, 0, none⟩) (by show w.heap.size < _; omega)).trans (KA 0), (b.cell (p := ⟨w.heap.size, 1, none⟩) (by show w.heap.size < _; omega)).trans (KA 1)⟩
  have KT : ∀ V V' : World, Below w5.heap.size w5 V → Below V.heap.size V V' → Below w5.heap.size w5 V' := fun V V' b b' => b.trans (b'.mono b.size)
  replace KS := Lib.hid KS
  replace KT := Lib.hid KT
  have BH := Lib.hid B
  replace KA := Lib.hid KA
  replace KC := Lib.hid KC
  replace o2 := Lib.hid o2
  replace o3 := Lib.hid o3
  replace KX := Lib.hid KX
  replace o4 := Lib.hid o4
  go_wp2_with fail
  go_region_held3 (fun V => Below w5.heap.size w5 V ∧ V.cell? ⟨w3.heap.size, 0, none⟩ = some (.int .i64 root) ∧ V.cell? ⟨w3.heap.size, 1, none⟩ = some (.slice a3 q3.length c3) ∧ V.cell? ⟨w.heap.size, 0, none⟩ = some (.int .i64 root) ∧ V.cell? ⟨w.heap.size, 1, none⟩ = some (.slice a ps.length cap))
    (first | exact KS.out _ (drew_below _) | exact KS.out _ (KT.out _ _ (And.left (by assumption)) hb))
    (first
      | (go_at_call 31; (with_reducible refine (toBook_any root a _ cap ps _ (HR.out.below (BH.out.trans (Below.mono (by first | exact drew_below _ | exact And.left (by assumption)) BH.out.size))) (by omega) (fun p hp => Nat.le_trans (hP.out p hp) (by decide))).mono ?_); rintro e wt ⟨vt, qt, rfl, et, ot, hb⟩; obtain ⟨at', ct, rfl⟩ := ot.shape; have rt := ot.rd; have et' := Lib.hid et; clear et)
      | (go_at_call 34; (with_reducible refine (eqBook_same root a3 at' _ _ c3 ct q3 qt _ ((o3.out.rd).below (by first | exact drew_below _ | exact And.left (by assumption))) rt (e3.trans et'.out.symm) (by rw [len_pgs e3, List.length_map]; omega) (pgs_le o3.out e3 (by omega))).mono ?_); rintro e wu ⟨rfl, hb⟩))
  rename_i hS
  have b6 := hS.1
  clear hS KS KT BH
  replace KA := KA.out
  replace KC := KC.out
  replace o2 := o2.out
  replace o3 := o3.out
  replace KX := KX.out
  replace o4 := o4.out
  have s6 := b6.size
  replace KA := FKA.kept KA b6 (by omega)
  replace KC := FKC.kept KC b6 (by omega)
  replace o2 := Fo2.kept o2 b6 (by omega)
  replace o3 := Fo3.kept o3 b6 (by omega)
  replace KX := FKX.kept KX b6 (by omega)
  replace o4 := Fo4.kept o4 b6 (by omega)
  replace B := B.trans (b6.mono B.size)
  clear b6
  have m3 := endP_pg o3 e3 (by rw [List.length_map]; omega)
  have hz : ¬ endP 1 q3 < 0 := by rw [endP_eq]; omega
  go_wp2_with fail
  refine (markBook_any root a3 _ c3 q3 1 _ _ _ o3 i3 (by omega) m3).mono ?_
  rintro e w7 ⟨rfl, p7, g7⟩
  have s7 := g7.size
  replace B := ChgIn.below B B.size g7 (by omega)
  replace KA := FKA.chg KA g7 (by omega) (by omega)
  replace KC := FKC.chg KC g7 (by omega) (by omega)
  replace o2 := Fo2.chg o2 g7 (by omega) (by omega)
  replace KX := FKX.chg KX g7 (by omega) (by omega)
  replace o4 := Fo4.chg o4 g7 (by omega) (by omega)
  clear o3 Fo3
  clear g7 p7
  go_wp2_with fail
  refine (eqItemS_same a4 a2 _ c4 c2 L _ (rdS_ownsP o4) (rdS_ownsP o2) (by omega)).mono ?_
  rintro e w8 ⟨rfl, b8⟩
  have s8 := b8.size
  replace KA := FKA.kept KA b8 (by omega)
  replace KC := FKC.kept KC b8 (by omega)
  replace o2 := Fo2.kept o2 b8 (by omega)
  replace KX := FKX.kept KX b8 (by omega)
  replace o4 := Fo4.kept o4 b8 (by omega)
  replace B := B.trans (b8.mono B.size)
  clear b8
  go_wp2_with fail
  refine (markItemS_any a4 _ c4 L (1) _ _ o4 rfl (by omega) (by omega) (by omega)).mono ?_
  rintro e w9 ⟨rfl, p4, y4⟩
  have g4 := ChgIn.of_grown (lo := (w3.alloc (.cells #[.int .i64 root, .slice a3 q3.length c3] 26)).heap.size) (hi := w4.heap.size) y4 t4
  have s9 := g4.size
  replace B := ChgIn.below B B.size g4 (by omega)
  replace KA := FKA.chg KA g4 (by omega) (by omega)
  replace KC := FKC.chg KC g4 (by omega) (by omega)
  replace o2 := Fo2.chg o2 g4 (by omega) (by omega)
  replace KX := FKX.chg KX g4 (by omega) (by omega)
  clear o4 Fo4 y4 g4
  have Fp4 := ownsRow_frame (base := (w3.alloc (.cells #[.int .i64 root, .slice a3 q3.length c3] 26)).heap.size) (e := 98) (size := 5) (n := L.length) (xs := (markedI L.length (1)).flatMap itLay.cells) t4
  have hz2 : ¬ (1 : Int) + 5 * (L.length : Int) < 0 := by omega
  go_wp2_with fail
  refine (heldItemS_any a4 _ c4 1 _ (rdS_owns' (L := itLay) p4 (markedI_len _ _)) (by omega) (by omega) (by omega)).mono ?_
  rintro e w10 ⟨rfl, rfl⟩
  go_upto_region 24 with (fail)
  have KS := Lib.hid (show ∀ V, Below w9.heap.size w9 V → (fun V => Below w9.heap.size w9 V ∧ V.cell? ⟨w.heap.size, 0, none⟩ = some (.int .i64 root) ∧ V.cell? ⟨w.heap.size, 1, none⟩ = some (.slice a ps.length cap) ∧ V.cell? ⟨w.heap.size + 1, 0, none⟩ = some (.int .i64 c.x0) ∧ V.cell? ⟨w.heap.size + 1, 1, none⟩ = some (.int .i64 c.y0) ∧ V.cell? ⟨w.heap.size + 1, 2, none⟩ = some (.int .i64 c.x1) ∧ V.cell? ⟨w.heap.size + 1, 3, none⟩ = some (.int .i64 c.y1)) V from fun V b => ⟨b, (b.cell (p := ⟨w.heap.size, 0, none⟩) (by show w.heap.size < _; omega)).trans (KA 0), (b.cell (p := ⟨w.heap.size, 1, none⟩) (by show w.heap.size < _; omega)).trans (KA 1), (b.cell (p := ⟨w.heap.size + 1, 0, none⟩) (by show w.heap.size + 1 < _; omega)).trans (KC 0), (b.cell (p := ⟨w.heap.size + 1, 1, none⟩) (by show w.heap.size + 1 < _; omega)).trans (KC 1), (b.cell (p := ⟨w.heap.size + 1, 2, none⟩) (by show w.heap.size + 1 < _; omega)).trans (KC 2), (b.cell (p := ⟨w.heap.size + 1, 3, none⟩) (by show w.heap.size + 1 < _; omega)).trans (KC 3)⟩)
  have KT := Lib.hid (show ∀ V V' : World, Below w9.heap.size w9 V → Below V.heap.size V V' → Below w9.heap.size w9 V' from fun V V' b b' => b.trans (b'.mono b.size))
  have BH := Lib.hid B
  replace KA := Lib.hid KA
  replace KC := Lib.hid KC
  replace o2 := Lib.hid o2
  replace KX := Lib.hid KX
  replace p4 := Lib.hid p4
  go_cut [12] (fun s V => ∃ (v : Value) (V1 : World), V1 = V ∧ s = v ∧ OwnS itLay 98 V w9.heap.size v L ∧ Below w9.heap.size w9 V)
  case first =>
    go_region_held3 (fun V => Below w9.heap.size w9 V ∧ V.cell? ⟨w.heap.size, 0, none⟩ = some (.int .i64 root) ∧ V.cell? ⟨w.heap.size, 1, none⟩ = some (.slice a ps.length cap) ∧ V.cell? ⟨w.heap.size + 1, 0, none⟩ = some (.int .i64 c.x0) ∧ V.cell? ⟨w.heap.size + 1, 1, none⟩ = some (.int .i64 c.y0) ∧ V.cell? ⟨w.heap.size + 1, 2, none⟩ = some (.int .i64 c.x1) ∧ V.cell? ⟨w.heap.size + 1, 3, none⟩ = some (.int .i64 c.y1))
      (first | exact KS.out _ (drew_below _) | exact KS.out _ (KT.out _ _ (And.left (by assumption)) hb))
      (first
        | (go_at_call 31; (with_reducible refine (toBook_any root a _ cap ps _ (HR.out.below (BH.out.trans (Below.mono (by first | exact drew_below _ | exact And.left (by assumption)) BH.out.size))) (by omega) (fun p hp => Nat.le_trans (hP.out p hp) (by decide))).mono ?_); rintro e wt ⟨vt, qt, rfl, et, ot, hb⟩; obtain ⟨at', ct', rfl⟩ := ot.shape; have rt := ot.rd; replace et := Lib.hid et; clear ot)
        | (go_at_call 42; (with_reducible refine (toBox_any c.x0 c.y0 c.x1 c.y1 _).mono ?_); rintro e wx ⟨rfl, hb⟩; replace rt := rt.below hb)
        | (go_at_call 43; (with_reducible refine (C.out at' _ ct' qt _ rt et.out (by rw [len_pgs et.out, List.length_map]; omega) hT).mono ?_); rintro e wu ⟨vu, rfl, ou, hb⟩; obtain ⟨au, cu, rfl, -⟩ := ou.rd; replace ou := OwnS.mono (L := itLay) ou (Below.size (by first | exact drew_below _ | exact And.left (by assumption))); replace ou := Lib.hid ou))
    all_goals
      clear KS KT BH
      go_wp2_with fail
      go_meet
      exact ⟨_, _, rfl, rfl, ou.out, And.left (by assumption)⟩
  obtain ⟨v11, w11, rfl, rfl, o11, b11⟩ := hcut
  clear KS KT BH
  replace KA := KA.out
  replace KC := KC.out
  replace o2 := o2.out
  replace KX := KX.out
  replace p4 := p4.out
  obtain ⟨a11, c11, rfl, -⟩ := o11.rd
  have Fo11 := OwnS.frame o11
  have t11 := World.ownsRow.lt o11
  have s11 := b11.size
  have l11 := B.size
  replace KA := FKA.kept KA b11 (by omega)
  replace KC := FKC.kept KC b11 (by omega)
  replace o2 := Fo2.kept o2 b11 (by omega)
  replace KX := FKX.kept KX b11 (by omega)
  replace p4 := Fp4.kept p4 b11 (by omega)
  replace B := B.trans (b11.mono B.size)
  clear b11
  go_wp2_with fail
  refine (eqItemS_same a11 a2 _ c11 c2 L _ (rdS_ownsP o11) (rdS_ownsP o2) (by omega)).mono ?_
  rintro e w12 ⟨rfl, b12⟩
  have s12 := b12.size
  replace KA := FKA.kept KA b12 (by omega)
  replace KC := FKC.kept KC b12 (by omega)
  replace o2 := Fo2.kept o2 b12 (by omega)
  replace KX := FKX.kept KX b12 (by omega)
  replace p4 := Fp4.kept p4 b12 (by omega)
  replace o11 := Fo11.kept o11 b12 (by omega)
  replace B := B.trans (b12.mono B.size)
  clear b12
  go_wp2_with fail
  refine (heldItemS_any a4 _ c4 1 _ (rdS_owns' (L := itLay) p4 (markedI_len _ _)) (by omega) (by omega) (by omega)).mono ?_
  rintro e w13 ⟨rfl, rfl⟩
  go_wp2
  go_ret
  exact ⟨rfl, B⟩

theorem exSearch_walk (CS : CSearch 41) (C : CSearch 43) (root : Int) (c : Bx) (a : Option Addr) (n cap : Nat) (ps : List PgV) (w : World) (h : RdP w a n cap ps) :
    Calls Try.prog 6 #[.agg #[.int .i64 root, .slice a n cap], .agg #[.int .i64 c.x0, .int .i64 c.y0, .int .i64 c.x1, .int .i64 c.y1]] w fun e w' => e = .returned (.bool true) ∧ Below w.heap.size w w' :=
  exSearch_core root c a n cap ps (searchV (ps.map PgV.pg) root c)
    (searchV_len _ _ _)
    (fun a n cap qs W hq e hn ht => by have := CS root c a n cap qs W hq hn (pgs_rd hq e ht) (by rw [e]; exact ht); rw [e] at this; exact this)
    (fun a n cap qs W hq e hn ht => by have := C root c a n cap qs W hq hn (pgs_rd hq e ht) (by rw [e]; exact ht); rw [e] at this; exact this) w h
end Go.Proofs.Ytfefggcfeppeiaa
