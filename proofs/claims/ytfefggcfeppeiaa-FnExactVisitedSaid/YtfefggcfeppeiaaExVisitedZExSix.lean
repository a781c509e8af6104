/- The exact law of Visited. -/
import Derived.Test.YtfefggcfeppeiaaLookYZExSix
import Derived.Test.YtfefggcfeppeiaaQExSixd
namespace Go.Proofs.Ytfefggcfeppeiaa
open Go.RowKit

set_option maxHeartbeats 3200000 in
set_option maxRecDepth 100000 in
theorem exVisited_core (root : Int) (c : Bx) (a : Option Addr) (n cap : Nat) (ps : List PgV) (L : Nat) (_ : True) (CS : (∀ (a : Option Addr) (n cap : Nat) (qs : List PgV) (W : World), RdP W a n cap qs → qs.map PgV.pg = ps.map PgV.pg → n ≤ 1048576 → totG (ps.map PgV.pg) ≤ 1048576 → Calls Try.prog 49 #[.agg #[.int .i64 root, .slice a n cap], .agg #[.int .i64 c.x0, .int .i64 c.y0, .int .i64 c.x1, .int .i64 c.y1]] W (RetN L W))) (C : (∀ (a : Option Addr) (n cap : Nat) (qs : List PgV) (W : World), RdP W a n cap qs → qs.map PgV.pg = ps.map PgV.pg → n ≤ 1048576 → totG (ps.map PgV.pg) ≤ 1048576 → Calls Try.prog 50 #[.agg #[.int .i64 root, .slice a n cap], .agg #[.int .i64 c.x0, .int .i64 c.y0, .int .i64 c.x1, .int .i64 c.y1]] W (RetN L W))) (w : World) (h : RdP w a n cap ps) :
    Calls Try.prog 8 #[.agg #[.int .i64 root, .slice a n cap], .agg #[.int .i64 c.x0, .int .i64 c.y0, .int .i64 c.x1, .int .i64 c.y1]] w fun e w' => e = .returned (.bool true) ∧ Below w.heap.size w w' := by
  have hln := h.1.1.1
  subst hln
  have KA := ((Loc.new w #[.int .i64 root, .slice a ps.length cap] 51).alloc (.cells #[.int .i64 c.x0, .int .i64 c.y0, .int .i64 c.x1, .int .i64 c.y1] 66)).2.1
  have KC := (Loc.new (w.alloc (.cells #[.int .i64 root, .slice a ps.length cap] 51)) #[.int .i64 c.x0, .int .i64 c.y0, .int .i64 c.x1, .int .i64 c.y1] 66).2.1
  rw [show (w.alloc (.cells #[.int .i64 root, .slice a ps.length cap] 51)).heap.size = w.heap.size + 1 by simp] at KC
  have hA : w.heap.size + 1 < ((w.alloc (.cells #[.int .i64 root, .slice a ps.length cap] 51)).alloc (.cells #[.int .i64 c.x0, .int .i64 c.y0, .int .i64 c.x1, .int .i64 c.y1] 66)).heap.size := by simp
  have B : Below w.heap.size w ((w.alloc (.cells #[.int .i64 root, .slice a ps.length cap] 51)).alloc (.cells #[.int .i64 c.x0, .int .i64 c.y0, .int .i64 c.x1, .int .i64 c.y1] 66)) := ((Below.refl _ _).alloc (Nat.le_refl _) _).alloc (by simp) _
  have FKA := cells_frame (w.heap.size) (fun o => (#[.int .i64 root, .slice a ps.length cap] : Array Value)[o]?)
  have FKC := cells_frame (w.heap.size + 1) (fun o => (#[.int .i64 c.x0, .int .i64 c.y0, .int .i64 c.x1, .int .i64 c.y1] : Array Value)[o]?)
  have HR := Lib.hid h
  clear h
  replace C := Lib.hid C
  replace CS := Lib.hid CS
  go_enter Try.func8, Try.ntmps8
  go_wp2_with fail
  refine (szBook_any root a _ cap ps 1048576 _ (HR.out.below B) (by omega)).mono ?_
  rintro e w1 ⟨r1, rfl, z1, b1⟩
  have s1 := b1.size
  replace KA := FKA.kept KA b1 (by omega)
  replace KC := FKC.kept KC b1 (by omega)
  replace B := B.trans (b1.mono B.size)
  clear b1
  by_cases y1 : r1 < 0
  · go_wp2
    go_ret
    exact ⟨rfl, B⟩
  have hn : ps.length ≤ 1048576 := by omega
  have hT : totG (ps.map PgV.pg) ≤ 1048576 := by rw [← totP_rd HR.out]; omega
  have hP : Hid (∀ p ∈ ps, p.n ≤ 1048576) := Lib.hid (pgs_rd HR.out rfl hT)
  have hr : 0 ≤ r1 ∧ r1 ≤ 1048576 := by omega
  clear z1
  go_upto_region 5 with (fail)
  have KS := Lib.hid (show ∀ V, Below w1.heap.size w1 V → (fun V => Below w1.heap.size w1 V ∧ V.cell? ⟨w.heap.size, 0, none⟩ = some (.int .i64 root) ∧ V.cell? ⟨w.heap.size, 1, none⟩ = some (.slice a ps.length cap) ∧ V.cell? ⟨w.heap.size + 1, 0, none⟩ = some (.int .i64 c.x0) ∧ V.cell? ⟨w.heap.size + 1, 1, none⟩ = some (.int .i64 c.y0) ∧ V.cell? ⟨w.heap.size + 1, 2, none⟩ = some (.int .i64 c.x1) ∧ V.cell? ⟨w.heap.size + 1, 3, none⟩ = some (.int .i64 c.y1)) V from fun V b => ⟨b, (b.cell (p := ⟨w.heap.size, 0, none⟩) (by show w.heap.size < _; omega)).trans (KA 0), (b.cell (p := ⟨w.heap.size, 1, none⟩) (by show w.heap.size < _; omega)).trans (KA 1), (b.cell (p := ⟨w.heap.size + 1, 0, none⟩) (by show w.heap.size + 1 < _; omega)).trans (KC 0), (b.cell (p := ⟨w.heap.size + 1, 1, none⟩) (by show w.heap.size + 1 < _; omega)).trans (KC 1), (b.cell (p := ⟨w.heap.size + 1, 2, none⟩) (by show w.heap.size + 1 < _; omega)).trans (KC 2), (b.cell (p := ⟨w.heap.size + 1, 3, none⟩) (by show w.heap.size + 1 < _; omega)).trans (KC 3)⟩)
  have KT := Lib.hid (show ∀ V V' : World, Below w1.heap.size w1 V → Below V.heap.size V V' → Below w1.heap.size w1 V' from fun V V' b b' => b.trans (b'.mono b.size))
  have BH := Lib.hid B
  replace KA := Lib.hid KA
  replace KC := Lib.hid KC
  go_cut [6] (fun s V => ∃ V1 : World, V1 = V ∧ s = .int .i64 (L : Int) ∧ Below w1.heap.size w1 V)
  case first =>
    go_region_held3 (fun V => Below w1.heap.size w1 V ∧ V.cell? ⟨w.heap.size, 0, none⟩ = some (.int .i64 root) ∧ V.cell? ⟨w.heap.size, 1, none⟩ = some (.slice a ps.length cap) ∧ V.cell? ⟨w.heap.size + 1, 0, none⟩ = some (.int .i64 c.x0) ∧ V.cell? ⟨w.heap.size + 1, 1, none⟩ = some (.int .i64 c.y0) ∧ V.cell? ⟨w.heap.size + 1, 2, none⟩ = some (.int .i64 c.x1) ∧ V.cell? ⟨w.heap.size + 1, 3, none⟩ = some (.int .i64 c.y1))
      (first | exact KS.out _ (drew_below _) | exact KS.out _ (KT.out _ _ (And.left (by assumption)) hb))
      (first
        | (go_at_call 31; (with_reducible refine (toBook_any root a _ cap ps _ (HR.out.below (BH.out.trans (Below.mono (by first | exact drew_below _ | exact And.left (by assumption)) BH.out.size))) (by omega) (fun p hp => Nat.le_trans (hP.out p hp) (by decide))).mono ?_); rintro e wt ⟨vt, qt, rfl, et, ot, hb⟩; obtain ⟨at', ct', rfl⟩ := ot.shape; have rt := ot.rd; replace et := Lib.hid et; clear ot)
        | (go_at_call 42; (with_reducible refine (toBox_any c.x0 c.y0 c.x1 c.y1 _).mono ?_); rintro e wx ⟨rfl, hb⟩; replace rt := rt.below hb)
        | (go_at_call 49; (with_reducible refine (CS.out at' _ ct' qt _ rt et.out (by rw [len_pgs et.out, List.length_map]; omega) hT).mono ?_); rintro e wu ⟨rfl, hb⟩))
    all_goals
      clear KS KT BH
      go_wp2_with fail
      go_meet
      exact ⟨_, rfl, rfl, And.left (by assumption)⟩
  obtain ⟨w2, rfl, rfl, b2⟩ := hcut
  clear KS KT BH
  replace KA := KA.out
  replace KC := KC.out
  have s2 := b2.size
  replace KA := FKA.kept KA b2 (by omega)
  replace KC := FKC.kept KC b2 (by omega)
  replace B := B.trans (b2.mono B.size)
  clear b2
  go_wp2_with fail
  refine (toBook_any root a _ cap ps _ (HR.out.below B) (by omega) (fun p hp => Nat.le_trans (hP.out p hp) (by decide))).mono ?_
  rintro e w3 ⟨v3, q3, rfl, e3, o3, b3⟩
  obtain ⟨a3, c3, rfl⟩ := o3.shape
  have Fo3 := o3.frame
  have i3 := o3.inb
  have s3 := b3.size
  have l3 := B.size
  replace KA := FKA.kept KA b3 (by omega)
  replace KC := FKC.kept KC b3 (by omega)
  replace B := B.trans (b3.mono B.size)
  clear b3
  have bb := new_below w3 (.cells #[.int .i64 root, .slice a3 q3.length c3] 26)
  have KX := (blk_new w3 #[.int .i64 root, .slice a3 q3.length c3] 26).1
  have FKX := cells_frame w3.heap.size (fun o => (#[.int .i64 root, .slice a3 q3.length c3] : Array Value)[o]?)
  have hX : w3.heap.size < (w3.alloc (.cells #[.int .i64 root, .slice a3 q3.length c3] 26)).heap.size := by simp
  replace KA := FKA.kept KA bb (by omega)
  replace KC := FKC.kept KC bb (by omega)
  replace o3 := Fo3.kept o3 bb (by omega)
  replace B := B.trans (bb.mono B.size)
  clear bb
  go_upto_region 7 with (fail)
  have KS := Lib.hid (show ∀ V, Below (w3.alloc (.cells #[.int .i64 root, .slice a3 q3.length c3] 26)).heap.size (w3.alloc (.cells #[.int .i64 root, .slice a3 q3.length c3] 26)) V → (fun V => Below (w3.alloc (.cells #[.int .i64 root, .slice a3 q3.length c3] 26)).heap.size (w3.alloc (.cells #[.int .i64 root, .slice a3 q3.length c3] 26)) V ∧ V.cell? ⟨w.heap.size, 0, none⟩ = some (.int .i64 root) ∧ V.cell? ⟨w.heap.size, 1, none⟩ = some (.slice a ps.length cap) ∧ V.cell? ⟨w.heap.size + 1, 0, none⟩ = some (.int .i64 c.x0) ∧ V.cell? ⟨w.heap.size + 1, 1, none⟩ = some (.int .i64 c.y0) ∧ V.cell? ⟨w.heap.size + 1, 2, none⟩ = some (.int .i64 c.x1) ∧ V.cell? ⟨w.heap.size + 1, 3, none⟩ = some (.int .i64 c.y1) ∧ V.cell? ⟨w3.heap.size, 0, none⟩ = some (.int .i64 root) ∧ V.cell? ⟨w3.heap.size, 1, none⟩ = some (.slice a3 q3.length c3)) V from fun V b => ⟨b, (b.cell (p := ⟨w.heap.size, 0, none⟩) (by show w.heap.size < _; omega)).trans (KA 0), (b.cell (p := ⟨w.heap.size, 1, none⟩) (by show w.heap.size < _; omega)).trans (KA 1), (b.cell (p := ⟨w.heap.size + 1, 0, none⟩) (by show w.heap.size + 1 < _; omega)).trans (KC 0), (b.cell (p := ⟨w.heap.size + 1, 1, none⟩) (by show w.heap.size + 1 < _; omega)).trans (KC 1), (b.cell (p := ⟨w.heap.size + 1, 2, none⟩) (by show w.heap.size + 1 < _; omega)).trans (KC 2), (b.cell (p := ⟨w.heap.size + 1, 3, none⟩) (by show w.heap.size + 1 < _; omega)).trans (KC 3), (b.cell (p := ⟨w3.heap.size, 0, none⟩) (by show w3.heap.size < _; omega)).trans (KX 0), (b.cell (p := ⟨w3.heap.size, 1, none⟩) (by show w3.heap.size < _; omega)).trans (KX 1)⟩)
  have KT := Lib.hid (show ∀ V V' : World, Below (w3.alloc (.cells #[.int .i64 root, .slice a3 q3.length c3] 26)).heap.size (w3.alloc (.cells #[.int .i64 root, .slice a3 q3.length c3] 26)) V → Below V.heap.size V V' → Below (w3.alloc (.cells #[.int .i64 root, .slice a3 q3.length c3] 26)).heap.size (w3.alloc (.cells #[.int .i64 root, .slice a3 q3.length c3] 26)) V' from fun V V' b b' => b.trans (b'.mono b.size))
  have BH := Lib.hid B
  replace KA := Lib.hid KA
  replace KC := Lib.hid KC
  replace o3 := Lib.hid o3
  replace KX := Lib.hid KX
  go_cut [8] (fun s V => ∃ V1 : World, V1 = V ∧ s = .int .i64 (L : Int) ∧ Below (w3.alloc (.cells #[.int .i64 root, .slice a3 q3.length c3] 26)).heap.size (w3.alloc (.cells #[.int .i64 root, .slice a3 q3.length c3] 26)) V)
  case first =>
    go_region_held3 (fun V => Below (w3.alloc (.cells #[.int .i64 root, .slice a3 q3.length c3] 26)).heap.size (w3.alloc (.cells #[.int .i64 root, .slice a3 q3.length c3] 26)) V ∧ V.cell? ⟨w.heap.size, 0, none⟩ = some (.int .i64 root) ∧ V.cell? ⟨w.heap.size, 1, none⟩ = some (.slice a ps.length cap) ∧ V.cell? ⟨w.heap.size + 1, 0, none⟩ = some (.int .i64 c.x0) ∧ V.cell? ⟨w.heap.size + 1, 1, none⟩ = some (.int .i64 c.y0) ∧ V.cell? ⟨w.heap.size + 1, 2, none⟩ = some (.int .i64 c.x1) ∧ V.cell? ⟨w.heap.size + 1, 3, none⟩ = some (.int .i64 c.y1) ∧ V.cell? ⟨w3.heap.size, 0, none⟩ = some (.int .i64 root) ∧ V.cell? ⟨w3.heap.size, 1, none⟩ = some (.slice a3 q3.length c3))
      (first | exact KS.out _ (drew_below _) | exact KS.out _ (KT.out _ _ (And.left (by assumption)) hb))
      (first
        | (go_at_call 42; (with_reducible refine (toBox_any c.x0 c.y0 c.x1 c.y1 _).mono ?_); rintro e wx ⟨rfl, hb⟩)
        | (go_at_call 50; (with_reducible refine (C.out a3 _ c3 q3 _ ((o3.out.rd).below (by first | exact drew_below _ | exact And.left (by assumption))) e3 (by rw [len_pgs e3, List.length_map]; omega) hT).mono ?_); rintro e wu ⟨rfl, hb⟩))
    all_goals
      clear KS KT BH
      go_wp2_with fail
      go_meet
      exact ⟨_, rfl, rfl, And.left (by assumption)⟩
  obtain ⟨w4, rfl, rfl, b4⟩ := hcut
  clear KS KT BH
  replace KA := KA.out
  replace KC := KC.out
  replace o3 := o3.out
  replace KX := KX.out
  have s4 := b4.size
  replace KA := FKA.kept KA b4 (by omega)
  replace KC := FKC.kept KC b4 (by omega)
  replace o3 := Fo3.kept o3 b4 (by omega)
  replace KX := FKX.kept KX b4 (by omega)
  replace B := B.trans (b4.mono B.size)
  clear b4
  have hbn : ((L : Int) != (L : Int)) = false := bne_self_eq_false _
  have KS : ∀ V, Below w4.heap.size w4 V → (fun V => Below w4.heap.size w4 V ∧ V.cell? ⟨w3.heap.size, 0, none⟩ = some (.int .i64 root) ∧ V.cell? ⟨w3.heap.size, 1, none⟩ = some (.slice a3 q3.length c3) ∧ V.cell? ⟨w.heap.size, 0, none⟩ = some (.int .i64 root) ∧ V.cell? ⟨w.heap.size, 1, none⟩ = some (.slice a ps.length cap)) V := fun V b => ⟨b, (b.cell (p := ⟨w3.heap.size, 0, none⟩) (by show w3.heap.size < _; omega)).trans (KX 0), (b.cell (p := ⟨w3.heap.size, 1, none⟩) (by show w3.heap.size < _; omega)).trans (KX 1), (b.cell (p := ⟨w.heap.size, 0, none⟩) (by show w.heap.size < _; omega)).trans (KA 0), (b.cell (p := ⟨w.heap.size, 1, none⟩) (by show w.heap.size < _; omega)).trans (KA 1)⟩
  have KT : ∀ V V' : World, Below w4.heap.size w4 V → Below V.heap.size V V' → Below w4.heap.size w4 V' := fun V V' b b' => b.trans (b'.mono b.size)
  replace KS := Lib.hid KS
  replace KT := Lib.hid KT
  have BH := Lib.hid B
  replace KA := Lib.hid KA
  replace KC := Lib.hid KC
  replace o3 := Lib.hid o3
  replace KX := Lib.hid KX
  go_wp2_with fail
  go_region_held3 (fun V => Below w4.heap.size w4 V ∧ V.cell? ⟨w3.heap.size, 0, none⟩ = some (.int .i64 root) ∧ V.cell? ⟨w3.heap.size, 1, none⟩ = some (.slice a3 q3.length c3) ∧ V.cell? ⟨w.heap.size, 0, none⟩ = some (.int .i64 root) ∧ V.cell? ⟨w.heap.size, 1, none⟩ = some (.slice a ps.length cap))
    (first | exact KS.out _ (drew_below _) | exact KS.out _ (KT.out _ _ (And.left (by assumption)) hb))
    (first
      | (go_at_call 31; (with_reducible refine (toBook_any root a _ cap ps _ (HR.out.below (BH.out.trans (Below.mono (by first | exact drew_below _ | exact And.left (by assumption)) BH.out.size))) (by omega) (fun p hp => Nat.le_trans (hP.out p hp) (by decide))).mono ?_); rintro e wt ⟨vt, qt, rfl, et, ot, hb⟩; obtain ⟨at', ct, rfl⟩ := ot.shape; have rt := ot.rd; have et' := Lib.hid et; clear et)
      | (go_at_call 34; (with_reducible refine (eqBook_same root a3 at' _ _ c3 ct q3 qt _ ((o3.out.rd).below (by first | exact drew_below _ | exact And.left (by assumption))) rt (e3.trans et'.out.symm) (by rw [len_pgs e3, List.length_map]; omega) (pgs_le o3.out e3 (by omega))).mono ?_); rintro e wu ⟨rfl, hb⟩))
  rename_i hS
  have b5 := hS.1
  clear hS KS KT BH
  replace KA := KA.out
  replace KC := KC.out
  replace o3 := o3.out
  replace KX := KX.out
  have s5 := b5.size
  replace KA := FKA.kept KA b5 (by omega)
  replace KC := FKC.kept KC b5 (by omega)
  replace o3 := Fo3.kept o3 b5 (by omega)
  replace KX := FKX.kept KX b5 (by omega)
  replace B := B.trans (b5.mono B.size)
  clear b5
  go_wp2
  go_ret
  exact ⟨rfl, B⟩

theorem exVisited_walk (CS : CVisited 49) (C : CVisited 50) (root : Int) (c : Bx) (a : Option Addr) (n cap : Nat) (ps : List PgV) (w : World) (h : RdP w a n cap ps) :
    Calls Try.prog 8 #[.agg #[.int .i64 root, .slice a n cap], .agg #[.int .i64 c.x0, .int .i64 c.y0, .int .i64 c.x1, .int .i64 c.y1]] w fun e w' => e = .returned (.bool true) ∧ Below w.heap.size w w' :=
  exVisited_core root c a n cap ps (visitedV (ps.map PgV.pg) root c)
    trivial
    (fun a n cap qs W hq e hn ht => by have := CS root c a n cap qs W hq hn (pgs_rd hq e ht) (by rw [e]; exact ht); rw [e] at this; exact this)
    (fun a n cap qs W hq e hn ht => by have := C root c a n cap qs W hq hn (pgs_rd hq e ht) (by rw [e]; exact ht); rw [e] at this; exact this) w h
end Go.Proofs.Ytfefggcfeppeiaa
