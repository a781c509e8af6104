/- FnPages' draws. -/
import Derived.Test.YtfefggcfeppeiaaReachesZPages
namespace Go.Proofs.Ytfefggcfeppeiaa
open Go.RowKit

/-- A drawn book in new memory, and a number. -/
def NewBkI (N B : Nat) (lo hi : Int) (w : World) (e : Ending) (w' : World) : Prop := ∃ (root i : Int) (v : Value) (ps : List PgV), e = .returned (.tuple #[.agg #[.int .i64 root, v], .int .i64 i]) ∧ lo ≤ i ∧ i ≤ hi ∧ Fits N B (ps.map PgV.pg) ∧ OwnP w' w.heap.size v ps ∧ Below w.heap.size w w'

set_option maxRecDepth 100000 in
set_option maxHeartbeats 800000 in
theorem drawNodeAt_any (C11 : L11Any) (A : Option Addr) (cap : Nat) (zs : List Int) (w : World) (h : RdI .u8 w A zs.length cap zs) (hz : ∀ z ∈ zs, 0 ≤ z ∧ z ≤ 255) (hn : zs.length ≤ 1048576) :
    Calls Try.prog 18 #[.slice A zs.length cap] w (NewBkI 402 2000 (-1) 8 w) := by
  have B0 := new_below w (.cells #[.int .i64 0, .slice none 0 0] 26)
  have K0 := Lib.hid (Loc.new w #[.int .i64 0, .slice none 0 0] 26)
  have T0 := Lib.hid (TagT.new 26 w #[.int .i64 0, .slice none 0 0])
  have CN := Lib.hid (l1New_any A cap zs _ (h.below B0) hz hn)
  replace C11 := Lib.hid C11
  clear h hz
  go_enter Try.func18, Try.ntmps18
  go_wp2_with fail
  refine CN.out.mono ?_
  rintro e w1 ⟨g, rfl, cu, b1, hg⟩
  have s1 := b1.size
  simp at s1 hg
  have hb1 := B0.trans (b1.mono B0.size)
  have K1 := Lib.hid (K0.out.below b1)
  have T1 := Lib.hid (T0.out.of (b1.block _ K0.out.1))
  have CA := Lib.hid (C11.out g zs 12 w1 cu (by omega))
  have hgl := cur_lt cu
  clear cu b1 K0 T0
  go_wp2_with fail
  refine CA.out.mono ?_
  intro e w2 hd
  have hg2 : w.heap.size ≤ g := by omega
  obtain ⟨root, v, ps, rfl, hf, ho, hc, hw⟩ := hd
  obtain ⟨a, c, rfl⟩ := ho.shape
  have K2 := Lib.hid (K1.out.grown hw (fun k e => by cases e; omega))
  have T2 := Lib.hid (T1.out.of (hw.block _ K1.out.1 (fun e => by have := Option.some.inj e; omega)))
  have HB := hb1.grown hw hb1.size (fun k e => by cases e; exact hg2)
  have hw1 := hb1.size
  have s2 := hw.size
  have CB := Lib.hid (l1Below_any g zs 10 w2 hc (by omega))
  have HO := Lib.hid ho
  have HF := Lib.hid hf
  replace HB := Lib.hid HB
  clear hw hc ho hb1 hf K1 T1 CA CN
  go_wp2_with fail
  refine CB.out.mono ?_
  rintro e w3 ⟨x, rfl, x0, x1, cu3, g3⟩
  rw [if_pos (by omega)] at x1
  have K3 := K2.out.grown g3 (fun k e => by cases e; omega)
  have T3 := T2.out.of (g3.block _ K2.out.1 (fun e => by have := Option.some.inj e; omega))
  have HO3 := Lib.hid (ownP_grown HO.out g3 (fun k e => by cases e; omega))
  have HB3 := Lib.hid (HB.out.grown g3 HB.out.size (fun k e => by cases e; exact hg2))
  obtain ⟨hl, k2, f2⟩ := K3
  clear g3 cu3 CB
  have y0 : (0 : Int) ≤ x := x0
  have y1 : x ≤ 9 := by omega
  go_wp2
  refine bodyPost_ret (v := .tuple #[.agg #[.int .i64 root, .slice a ps.length c], .int .i64 (x - 1)]) (by simp [results, Try.results18, go_sem, k2]) rfl ⟨root, x - 1, _, ps, rfl, by omega, by omega, HF.out, ?_, ?_⟩
  · exact (((HO3.out.store T3 0 _).store (T3.set _ _ _) 1 _)).mono hw1
  · exact (HB3.out.setCell (p := ⟨w.heap.size, 0, none⟩) (Nat.le_refl _) _).setCell (p := ⟨w.heap.size, 1, none⟩) (Nat.le_refl _) _

theorem OwnP.storeN {w : World} {base q : Nat} {v : Value} {ps : List PgV} (h : OwnP w base v ps) (t : TagT 32 w q) (j : Nat) (u : Value) : OwnP (w.setCell ⟨q, j, none⟩ u) base v ps := by
  have hG := grown_setCell (World.grownBy.refl w (some q)) q j u rfl
  exact ⟨OwnS.kept h.row hG (own_ne (t.ne h.row (by decide))), fun p hp => OwnS.kept (h.ent p hp) hG (own_ne (t.ne (h.ent p hp) (by decide))), h.out, h.pair⟩
/-- A drawn book, a number and a node, in new memory. -/
def NewBkP (N B : Nat) (lo hi : Int) (w : World) (e : Ending) (w' : World) : Prop := ∃ (root i : Int) (v : Value) (ps : List PgV) (b : Bool) (u : Value) (ys : List It), e = .returned (.tuple #[.agg #[.int .i64 root, v], .int .i64 i, .agg #[.bool b, u]]) ∧ lo ≤ i ∧ i ≤ hi ∧ ys.length ≤ 4 ∧ Fits N B (ps.map PgV.pg) ∧ OwnP w' w.heap.size v ps ∧ OwnS itLay 92 w' w.heap.size u ys ∧ Below w.heap.size w w'

set_option maxRecDepth 100000 in
set_option maxHeartbeats 3200000 in
theorem drawPut_any (C11 : L11Any) (A : Option Addr) (cap : Nat) (zs : List Int) (w : World) (h : RdI .u8 w A zs.length cap zs) (hz : ∀ z ∈ zs, 0 ≤ z ∧ z ≤ 255) (hn : zs.length ≤ 1048576) :
    Calls Try.prog 14 #[.slice A zs.length cap] w (NewBkP 402 2000 (-1) 8 w) := by
  have Ba := new_below w (.cells #[.int .i64 0, .slice none 0 0] 26)
  obtain ⟨wa, hwa⟩ : ∃ wa, wa = w.alloc (.cells #[.int .i64 0, .slice none 0 0] 26) := ⟨_, rfl⟩
  have sa : wa.heap.size = w.heap.size + 1 := by subst hwa; simp
  have Bb := new_below wa (.cells #[.bool false, .slice none 0 0] 32)
  rw [← hwa] at Ba
  have Ka : Loc wa w.heap.size #[.int .i64 0, .slice none 0 0] := by subst hwa; exact Loc.new w _ _
  have Ta : TagT 26 wa w.heap.size := by subst hwa; exact TagT.new 26 w _
  have K0 := Lib.hid (Ka.below Bb)
  have T0 := Lib.hid (Ta.of (Bb.block _ Ka.1))
  have N0 := Lib.hid (Loc.new wa #[.bool false, .slice none 0 0] 32)
  have M0 := Lib.hid (TagT.new 32 wa #[.bool false, .slice none 0 0])
  have B0 := Lib.hid (Ba.trans (Bb.mono Ba.size))
  have CN := Lib.hid (l1New_any A cap zs _ (h.below B0.out) hz hn)
  rw [sa] at N0 M0
  replace C11 := Lib.hid C11
  clear h hz Ka Ta Ba Bb
  obtain ⟨wb, hwb⟩ : ∃ wb, wb = wa.alloc (.cells #[.bool false, .slice none 0 0] 32) := ⟨_, rfl⟩
  rw [← hwb] at K0 T0 N0 M0 B0 CN
  go_enter Try.func14, Try.ntmps14
  go_wp2_with fail
  rw [← hwa, ← hwb]
  clear hwa hwb
  refine CN.out.mono ?_
  rintro e w1 ⟨g, rfl, cu, b1, hg⟩
  have s1 := b1.size
  have s0 := B0.out.size
  have hb1 := B0.out.trans (b1.mono B0.out.size)
  have hwb : w.heap.size + 1 < wb.heap.size := N0.out.1
  have K1 := Lib.hid (K0.out.below b1)
  have T1 := Lib.hid (T0.out.of (b1.block _ K0.out.1))
  have N1 := Lib.hid (N0.out.below b1)
  have M1 := Lib.hid (M0.out.of (b1.block _ N0.out.1))
  have CA := Lib.hid (C11.out g zs 12 w1 cu (by omega))
  have hgl := cur_lt cu
  clear cu b1 K0 T0 N0 M0 sa
  go_wp2_with fail
  refine CA.out.mono ?_
  intro e w2 hd
  have hg2 : w.heap.size ≤ g := by omega
  have hg3 : w.heap.size + 1 < g := by omega
  obtain ⟨root, v, ps, rfl, hf, ho, hc, hw⟩ := hd
  obtain ⟨a, c, rfl⟩ := ho.shape
  obtain ⟨n, hn2⟩ : ∃ n, n = ps.length := ⟨_, rfl⟩
  rw [← hn2] at ho ⊢
  have HF := Lib.hid hf
  have s2 := hw.size
  obtain ⟨G, hG⟩ : ∃ G, G = w2.heap.size := ⟨_, rfl⟩
  obtain ⟨W3, hW3⟩ : ∃ W3, W3 = w2.alloc (.cells #[.int .i64 root, .slice a n c] 26) := ⟨_, rfl⟩
  have b3 : Below w2.heap.size w2 W3 := by subst hW3; exact new_below _ _
  have KG : Hid (Loc W3 G #[.int .i64 root, .slice a n c]) := by subst hW3 hG; exact Lib.hid (Loc.new _ _ _)
  have hgG : g < G := by omega
  have K3 := Lib.hid ((K1.out.grown hw (fun k e => by cases e; omega)).below b3)
  have T3 := Lib.hid ((T1.out.of (hw.block _ K1.out.1 (fun e => by have := Option.some.inj e; omega))).of (b3.block _ (by have := K1.out.1; omega)))
  have N3 := Lib.hid ((N1.out.grown hw (fun k e => by cases e; omega)).below b3)
  have M3 := Lib.hid ((M1.out.of (hw.block _ N1.out.1 (fun e => by have := Option.some.inj e; omega))).of (b3.block _ (by have := N1.out.1; omega)))
  have HO := Lib.hid (ho.below b3)
  have hw01 : w.heap.size ≤ w1.heap.size := hb1.size
  have CU := Lib.hid (cur_kept hc (Below.toGrown b3 none) (fun k e => by cases e))
  have HB := Lib.hid ((hb1.grown hw hb1.size (fun k e => by cases e; exact hg2)).trans (b3.mono (by have := hb1.size; omega)))
  have s3 : G < W3.heap.size := KG.out.1
  have kk := KG.out.2.1
  have kk0 := kk 0
  have kk1 := kk 1
  simp at kk0 kk1
  replace hG := Lib.hid hG
  replace hn2 := Lib.hid hn2
  clear b3 ho hc hw hb1 hf K1 T1 N1 M1 CA CN kk s1 s0 B0
  go_upto_region 3 with (fail)
  rw [← hW3]
  try rw [← hG.out]
  clear hW3
  have hRG : w.heap.size ≠ G := by omega
  have hNG : w.heap.size + 1 ≠ G := by omega
  have CB := Lib.hid (l1Below_any g zs 10 W3.drew (cur_kept CU.out (Below.toGrown (drew_below W3) none) (fun k e => by cases e)) (by omega))
  go_region_law (first
    | (refine step_go rfl 61 _ _ rfl #[.pointer (some ⟨g, 0, none⟩), .int .i64 10] (by first | (simp [Act.eval]; done) | (simp [Act.eval, Act.put]; done)) (enters_of Try.func61 (by kernel_rfl) rfl) (R := fun v w' => ∃ x : Int, v = .int .i64 x ∧ 0 ≤ x ∧ x ≤ 9 ∧ Cur g zs w' ∧ W3.drew.grownBy w' (some g)) (CB.out.mono (fun e w' ⟨x, he, h0, h1, hc, hg⟩ => ⟨_, he, x, rfl, h0, by simpa using h1, hc, hg⟩)) ?_; rintro v w5 ⟨x, rfl, x0, x1, cu5, g5⟩; have L5 := Lib.hid ((KG.out.drew).grown g5 (fun k e => by cases e; omega)); have K5 := Lib.hid ((K3.out.drew).grown g5 (fun k e => by cases e; omega)); have N5 := Lib.hid ((N3.out.drew).grown g5 (fun k e => by cases e; omega)); have T5 := Lib.hid (T3.out.of (g5.block _ K3.out.1 (fun e => by have := Option.some.inj e; omega))); have M5 := Lib.hid (M3.out.of (g5.block _ N3.out.1 (fun e => by have := Option.some.inj e; omega))); have P5 := Lib.hid (ownP_grown (HO.out.drew) g5 (fun k e => by cases e; omega)); have Q5 := Lib.hid ((HB.out.drew).grown g5 (by have := HB.out.size; simpa using this) (fun k e => by cases e; exact hg2)); have l50 := L5.out.2.1 0; have l51 := L5.out.2.1 1; simp at l50 l51; have C5 := Lib.hid (l5Draw_any g zs w5 cu5); have hx0 := Lib.hid x0; have hx1 := Lib.hid x1; clear cu5 g5)
    | (refine step_go rfl 62 _ _ rfl #[.pointer (some ⟨g, 0, none⟩)] (by first | (simp [Act.eval]; done) | (simp [Act.eval, Act.put]; done)) (enters_of Try.func62 (by kernel_rfl) rfl) (R := fun v w' => ∃ b u ys, v = .agg #[.bool b, u] ∧ List.length ys ≤ 4 ∧ OwnS itLay 92 w' w5.heap.size u ys ∧ w5.grownBy w' (some g)) (C5.out.mono (fun e w' ⟨b, u, ys, he, hy, ho, hc, hg⟩ => ⟨_, he, b, u, ys, rfl, hy, ho, hg⟩)) ?_; rintro v w6 ⟨b6, u6, ys, rfl, hy6, o6, g6⟩; obtain ⟨a6, c6, rfl, -⟩ := OwnS.rd o6; have L6 := Lib.hid (L5.out.grown g6 (fun k e => by cases e; omega)); have K6 := Lib.hid (K5.out.grown g6 (fun k e => by cases e; omega)); have N6 := Lib.hid (N5.out.grown g6 (fun k e => by cases e; omega)); have T6 := Lib.hid (T5.out.of (g6.block _ K5.out.1 (fun e => by have := Option.some.inj e; omega))); have M6 := Lib.hid (M5.out.of (g6.block _ N5.out.1 (fun e => by have := Option.some.inj e; omega))); have P6 := Lib.hid (ownP_grown P5.out g6 (fun k e => by cases e; omega)); have Q6 := Lib.hid ((Q5.out).grown g6 (by have := Q5.out.size; simpa using this) (fun k e => by cases e; exact hg2)); have l60 := L6.out.2.1 0; have l61 := L6.out.2.1 1; simp at l60 l61; have k60 := K6.out.2.1 0; have k61 := K6.out.2.1 1; have n60 := N6.out.2.1 0; have n61 := N6.out.2.1 1; have kf := K6.out.2.2; have nf := N6.out.2.2; simp at k60 k61 n60 n61; have O6 := Lib.hid o6; have HY6 := Lib.hid hy6; have s56 := g6.size; clear o6 g6 hy6))
  all_goals
    have q1 := Q6.out.size
    have hwx : IntKind.i64.wrap (x - 1) = x - 1 := by rw [IntKind.wrap_i64]; omega
    have hs5 : w.heap.size + 1 < w5.heap.size := N5.out.1
    have hs6 : w.heap.size + 1 < w6.heap.size := N6.out.1
    go_wp2
    rw [hwx]
    refine bodyPost_ret (v := .tuple #[.agg #[.int .i64 root, .slice a n c], .int .i64 (x - 1), .agg #[.bool b6, .slice a6 ys.length c6]]) (by simp [results, Try.results14, go_sem, k60, k61, n60, n61]) rfl ⟨root, x - 1, _, ps, b6, _, ys, rfl, by omega, by omega, HY6.out, HF.out, ?_, ?_, ?_⟩
    · exact (((((P6.out.store T6.out 0 _).store (T6.out.set _ _ _) 1 _).storeN ((M6.out.set _ _ _).set _ _ _) 0 _).storeN (((M6.out.set _ _ _).set _ _ _).set _ _ _) 1 _)).mono hw01
    · exact OwnS.mono (L := itLay) (ownS_set2 (ownS_set2 (ownS_set2 (ownS_set2 O6.out (by omega) _ _) (by omega) _ _) (by omega) _ _) (by omega) _ _) (by omega)
    · exact (((Q6.out.setCell (p := ⟨w.heap.size, 0, none⟩) (Nat.le_refl _) _).setCell (p := ⟨w.heap.size, 1, none⟩) (Nat.le_refl _) _).setCell (p := ⟨w.heap.size + 1, 0, none⟩) (Nat.le_succ _) _).setCell (p := ⟨w.heap.size + 1, 1, none⟩) (Nat.le_succ _) _
theorem free_a {w w6 : World} {R b1 : Nat} {x y : Int} {u1 u2 v : Value} {ps : List PgV} (P : OwnP w6 b1 v ps) (T : TagT 26 w6 R) (hR : R < w6.heap.size) (hb : R ≤ b1) (Q : Below R w w6) : OwnP (((w6.alloc (.cells #[.int .i64 x, .int .i64 y] 3)).setCell ⟨R, 0, none⟩ u1).setCell ⟨R, 1, none⟩ u2) R v ps ∧ RdI .i64 (((w6.alloc (.cells #[.int .i64 x, .int .i64 y] 3)).setCell ⟨R, 0, none⟩ u1).setCell ⟨R, 1, none⟩ u2) (some ⟨w6.heap.size, 0, none⟩) 2 2 [x, y] ∧ Below R w (((w6.alloc (.cells #[.int .i64 x, .int .i64 y] 3)).setCell ⟨R, 0, none⟩ u1).setCell ⟨R, 1, none⟩ u2) := by
  have bA := new_below w6 (.cells #[.int .i64 x, .int .i64 y] 3)
  have TA := T.of (bA.block _ hR)
  have r0 : (w6.alloc (.cells #[.int .i64 x, .int .i64 y] 3)).ownsRow R 3 1 (.slice (some ⟨w6.heap.size, 0, none⟩) 2 2) 2 [.int .i64 x, .int .i64 y] := World.ownsRow_lit (base := R) (size := 1) (e := 3) w6 #[.int .i64 x, .int .i64 y] 2 (by omega) (by simp [maxLen]) rfl
  have ne : (Value.slice (some ⟨w6.heap.size, 0, none⟩) 2 2).ownBlock = none ∨ (Value.slice (some ⟨w6.heap.size, 0, none⟩) 2 2).ownBlock ≠ some R := .inr (fun e => by have h1 : w6.heap.size = R := Option.some.inj e; omega)
  have r1 := World.ownsRow.kept r0 (grown_setCell (World.grownBy.refl _ (some R)) R 0 u1 rfl) ne
  have r2 := World.ownsRow.kept r1 (grown_setCell (World.grownBy.refl _ (some R)) R 1 u2 rfl) ne
  refine ⟨(((P.below bA).store TA 0 _).store (TA.set _ _ _) 1 _).mono hb, ?_, ((Q.trans (bA.mono (by have := Q.size; omega))).setCell (p := ⟨R, 0, none⟩) (Nat.le_refl _) _).setCell (p := ⟨R, 1, none⟩) (Nat.le_refl _) _⟩
  exact rdI_owns (k := .i64) (zs := [x, y]) r2 rfl
theorem free_b {w w6 : World} {R b1 : Nat} {x y : Int} {u1 u2 v : Value} {ps : List PgV} (P : OwnP w6 b1 v ps) (T : TagT 26 w6 R) (hR : R < w6.heap.size) (hb : R ≤ b1) (Q : Below R w w6) : OwnP (((w6.setCell ⟨R, 0, none⟩ u1).setCell ⟨R, 1, none⟩ u2).alloc (.cells #[.int .i64 x, .int .i64 y] 3)) R v ps ∧ RdI .i64 (((w6.setCell ⟨R, 0, none⟩ u1).setCell ⟨R, 1, none⟩ u2).alloc (.cells #[.int .i64 x, .int .i64 y] 3)) (some ⟨w6.heap.size, 0, none⟩) 2 2 [x, y] ∧ Below R w (((w6.setCell ⟨R, 0, none⟩ u1).setCell ⟨R, 1, none⟩ u2).alloc (.cells #[.int .i64 x, .int .i64 y] 3)) := by
  have QB := (Q.setCell (p := ⟨R, 0, none⟩) (Nat.le_refl _) u1).setCell (p := ⟨R, 1, none⟩) (Nat.le_refl _) u2
  refine ⟨((((P.store T 0 _).store (T.set _ _ _) 1 _).below (new_below _ _))).mono hb, ?_, QB.alloc (by have := Q.size; simp; omega) _⟩
  have h1 : ((w6.setCell ⟨R, 0, none⟩ u1).setCell ⟨R, 1, none⟩ u2).heap.size = w6.heap.size := by simp
  rw [← h1]
  exact rdI_new _ .i64 [x, y] _ _ 2 rfl rfl (by simp [maxLen])

/-- A drawn book and two numbers, in new memory. -/
def NewBkL (N B : Nat) (lo hi : Int) (w : World) (e : Ending) (w' : World) : Prop := ∃ (root x y : Int) (v : Value) (ps : List PgV) (ad : Option Addr), e = .returned (.tuple #[.agg #[.int .i64 root, v], .slice ad 2 2]) ∧ (lo ≤ x ∧ x ≤ hi) ∧ (0 ≤ y ∧ y ≤ 5) ∧ Fits N B (ps.map PgV.pg) ∧ OwnP w' w.heap.size v ps ∧ RdI .i64 w' ad 2 2 [x, y] ∧ Below w.heap.size w w'

set_option maxRecDepth 100000 in
set_option maxHeartbeats 3200000 in
theorem drawFree_any (C11 : L11Any) (A : Option Addr) (cap : Nat) (zs : List Int) (w : World) (h : RdI .u8 w A zs.length cap zs) (hz : ∀ z ∈ zs, 0 ≤ z ∧ z ≤ 255) (hn : zs.length ≤ 1048576) :
    Calls Try.prog 16 #[.slice A zs.length cap] w (NewBkL 402 2000 (-1) 8 w) := by
  have B0 := Lib.hid (new_below w (.cells #[.int .i64 0, .slice none 0 0] 26))
  obtain ⟨wb, hwb⟩ : ∃ wb, wb = w.alloc (.cells #[.int .i64 0, .slice none 0 0] 26) := ⟨_, rfl⟩
  have K0 := Lib.hid (Loc.new w #[.int .i64 0, .slice none 0 0] 26)
  have T0 := Lib.hid (TagT.new 26 w #[.int .i64 0, .slice none 0 0])
  have CN := Lib.hid (l1New_any A cap zs _ (h.below B0.out) hz hn)
  rw [← hwb] at B0 K0 T0 CN
  replace C11 := Lib.hid C11
  clear h hz
  go_enter Try.func16, Try.ntmps16
  go_wp2_with fail
  rw [← hwb]
  clear hwb
  refine CN.out.mono ?_
  rintro e w1 ⟨g, rfl, cu, b1, hg⟩
  have s1 := b1.size
  have s0 := B0.out.size
  have hb1 := B0.out.trans (b1.mono B0.out.size)
  have hwb : w.heap.size < wb.heap.size := K0.out.1
  have K1 := Lib.hid (K0.out.below b1)
  have T1 := Lib.hid (T0.out.of (b1.block _ K0.out.1))
  have CA := Lib.hid (C11.out g zs 16 w1 cu (by omega))
  have hgl := cur_lt cu
  clear cu b1 K0 T0
  go_wp2_with fail
  refine CA.out.mono ?_
  intro e w2 hd
  have hg2 : w.heap.size ≤ g := by omega
  obtain ⟨root, v, ps, rfl, hf, ho, hc, hw⟩ := hd
  obtain ⟨a, c, rfl⟩ := ho.shape
  obtain ⟨n, hn2⟩ : ∃ n, n = ps.length := ⟨_, rfl⟩
  rw [← hn2] at ho ⊢
  have HF := Lib.hid hf
  have s2 := hw.size
  obtain ⟨G, hG⟩ : ∃ G, G = w2.heap.size := ⟨_, rfl⟩
  obtain ⟨W3, hW3⟩ : ∃ W3, W3 = w2.alloc (.cells #[.int .i64 root, .slice a n c] 26) := ⟨_, rfl⟩
  have b3 : Below w2.heap.size w2 W3 := by subst hW3; exact new_below _ _
  have KG : Hid (Loc W3 G #[.int .i64 root, .slice a n c]) := by subst hW3 hG; exact Lib.hid (Loc.new _ _ _)
  have hgG : g < G := by omega
  have K3 := Lib.hid ((K1.out.grown hw (fun k e => by cases e; omega)).below b3)
  have T3 := Lib.hid ((T1.out.of (hw.block _ K1.out.1 (fun e => by have := Option.some.inj e; omega))).of (b3.block _ (by have := K1.out.1; omega)))
  have HO := Lib.hid (ho.below b3)
  have hw01 : w.heap.size ≤ w1.heap.size := hb1.size
  have CU := Lib.hid (cur_kept hc (Below.toGrown b3 none) (fun k e => by cases e))
  have HB := Lib.hid ((hb1.grown hw hb1.size (fun k e => by cases e; exact hg2)).trans (b3.mono (by have := hb1.size; omega)))
  have s3 : G < W3.heap.size := KG.out.1
  have kk := KG.out.2.1
  have kk0 := kk 0
  have kk1 := kk 1
  simp at kk0 kk1
  replace hG := Lib.hid hG
  replace hn2 := Lib.hid hn2
  clear b3 ho hc hw hb1 hf K1 T1 CA CN kk s1 s0 B0
  go_upto_region 3 with (fail)
  rw [← hW3]
  try rw [← hG.out]
  clear hW3
  have hRG : w.heap.size ≠ G := by omega
  have CB := Lib.hid (l1Below_any g zs 10 W3.drew (cur_kept CU.out (Below.toGrown (drew_below W3) none) (fun k e => by cases e)) (by omega))
  go_region_law (first
    | (refine step_go rfl 61 _ _ rfl #[.pointer (some ⟨g, 0, none⟩), .int .i64 10] (by first | (simp [Act.eval]; done) | (simp [Act.eval, Act.put]; done)) (enters_of Try.func61 (by kernel_rfl) rfl) (R := fun v w' => ∃ x : Int, v = .int .i64 x ∧ 0 ≤ x ∧ x ≤ 9 ∧ Cur g zs w' ∧ W3.drew.grownBy w' (some g)) (CB.out.mono (fun e w' ⟨x, he, h0, h1, hc, hg⟩ => ⟨_, he, x, rfl, h0, by simpa using h1, hc, hg⟩)) ?_; rintro v w5 ⟨x, rfl, x0, x1, cu5, g5⟩; have L5 := Lib.hid ((KG.out.drew).grown g5 (fun k e => by cases e; omega)); have K5 := Lib.hid ((K3.out.drew).grown g5 (fun k e => by cases e; omega)); have T5 := Lib.hid (T3.out.of (g5.block _ K3.out.1 (fun e => by have := Option.some.inj e; omega))); have P5 := Lib.hid (ownP_grown (HO.out.drew) g5 (fun k e => by cases e; omega)); have Q5 := Lib.hid ((HB.out.drew).grown g5 (by have := HB.out.size; simpa using this) (fun k e => by cases e; exact hg2)); have l50 := L5.out.2.1 0; have l51 := L5.out.2.1 1; simp at l50 l51; have C5 := Lib.hid (l1Below_any g zs 6 w5 cu5 (by omega)); have hx0 := Lib.hid x0; have hx1 := Lib.hid x1; clear cu5 g5)
    | (refine step_go rfl 61 _ _ rfl #[.pointer (some ⟨g, 0, none⟩), .int .i64 6] (by first | (simp [Act.eval]; done) | (simp [Act.eval, Act.put]; done)) (enters_of Try.func61 (by kernel_rfl) rfl) (R := fun v w' => ∃ y : Int, v = .int .i64 y ∧ 0 ≤ y ∧ y ≤ 5 ∧ w5.grownBy w' (some g)) (C5.out.mono (fun e w' ⟨y, he, h0, h1, hc, hg⟩ => ⟨_, he, y, rfl, h0, by simpa using h1, hg⟩)) ?_; rintro v w6 ⟨y, rfl, y0, y1, g6⟩; have L6 := Lib.hid (L5.out.grown g6 (fun k e => by cases e; omega)); have K6 := Lib.hid (K5.out.grown g6 (fun k e => by cases e; omega)); have T6 := Lib.hid (T5.out.of (g6.block _ K5.out.1 (fun e => by have := Option.some.inj e; omega))); have P6 := Lib.hid (ownP_grown P5.out g6 (fun k e => by cases e; omega)); have Q6 := Lib.hid ((Q5.out).grown g6 (by have := Q5.out.size; simpa using this) (fun k e => by cases e; exact hg2)); have l60 := L6.out.2.1 0; have l61 := L6.out.2.1 1; simp at l60 l61; have k60 := K6.out.2.1 0; have k61 := K6.out.2.1 1; have kf := K6.out.2.2; simp at k60 k61; have ka0 : ∀ O : Obj, (w6.alloc O).cell? ⟨w.heap.size, 0, none⟩ = some (.int .i64 0) := fun O => (K6.out.alloc O).2.1 0; have ka1 : ∀ O : Obj, (w6.alloc O).cell? ⟨w.heap.size, 1, none⟩ = some (.slice none 0 0) := fun O => (K6.out.alloc O).2.1 1; have kaf : ∀ (O : Obj) (o : Nat), (w6.alloc O).frozen? ⟨w.heap.size, o, none⟩ = false := fun O => (K6.out.alloc O).2.2; have kg0 : ∀ O : Obj, (w6.alloc O).cell? ⟨G, 0, none⟩ = some (.int .i64 root) := fun O => (L6.out.alloc O).2.1 0; have kg1 : ∀ O : Obj, (w6.alloc O).cell? ⟨G, 1, none⟩ = some (.slice a n c) := fun O => (L6.out.alloc O).2.1 1; have s56 := g6.size; clear g6))
  all_goals
    have q1 := Q6.out.size
    have hwx : IntKind.i64.wrap (x - 1) = x - 1 := by rw [IntKind.wrap_i64]; omega
    have kb0 : ∀ (O : Obj) (u1 u2 : Value), (((w6.setCell ⟨w.heap.size, 0, none⟩ u1).setCell ⟨w.heap.size, 1, none⟩ u2).alloc O).cell? ⟨w.heap.size, 0, none⟩ = some u1 := fun O u1 u2 => (((K6.out.set 0 u1 (by show 0 < 2; decide)).set 1 u2 (by show 1 < 2; decide)).alloc O).2.1 0
    have kb1 : ∀ (O : Obj) (u1 u2 : Value), (((w6.setCell ⟨w.heap.size, 0, none⟩ u1).setCell ⟨w.heap.size, 1, none⟩ u2).alloc O).cell? ⟨w.heap.size, 1, none⟩ = some u2 := fun O u1 u2 => (((K6.out.set 0 u1 (by show 0 < 2; decide)).set 1 u2 (by show 1 < 2; decide)).alloc O).2.1 1
    replace kb0 := Lib.hid kb0
    replace kb1 := Lib.hid kb1
    go_wp2
    rw [hwx]
    refine bodyPost_ret (v := .tuple #[.agg #[.int .i64 root, .slice a n c], .slice (some ⟨w6.heap.size, 0, none⟩) 2 2]) (by simp [results, Try.results16, go_sem, ka0, ka1, kb0.out, kb1.out, Act.put]) rfl ⟨root, x - 1, y, _, ps, _, rfl, ⟨by omega, by omega⟩, ⟨y0, by omega⟩, HF.out, ?_⟩
    first
      | exact free_a P6.out T6.out K6.out.1 hw01 Q6.out
      | exact free_b P6.out T6.out K6.out.1 hw01 Q6.out

/-- Two drawn books in new memory. -/
def NewBk2 (N B : Nat) (w : World) (e : Ending) (w' : World) : Prop := ∃ (r1 r2 : Int) (v1 v2 : Value) (p1 p2 : List PgV), e = .returned (.tuple #[.agg #[.int .i64 r1, v1], .agg #[.int .i64 r2, v2]]) ∧ Fits N B (p1.map PgV.pg) ∧ Fits N B (p2.map PgV.pg) ∧ OwnP w' w.heap.size v1 p1 ∧ OwnP w' w.heap.size v2 p2 ∧ Below w.heap.size w w'

set_option maxRecDepth 100000 in
set_option maxHeartbeats 3200000 in
theorem drawSameBook_any (C11 : L11Any) (A : Option Addr) (cap : Nat) (zs : List Int) (w : World) (h : RdI .u8 w A zs.length cap zs) (hz : ∀ z ∈ zs, 0 ≤ z ∧ z ≤ 255) (hn : zs.length ≤ 1048576) :
    Calls Try.prog 17 #[.slice A zs.length cap] w (NewBk2 402 2000 w) := by
  have Ba := new_below w (.cells #[.int .i64 0, .slice none 0 0] 26)
  obtain ⟨wa, hwa⟩ : ∃ wa, wa = w.alloc (.cells #[.int .i64 0, .slice none 0 0] 26) := ⟨_, rfl⟩
  have sa : wa.heap.size = w.heap.size + 1 := by subst hwa; simp
  have Bb := new_below wa (.cells #[.int .i64 0, .slice none 0 0] 26)
  rw [← hwa] at Ba
  have Ka : Loc wa w.heap.size #[.int .i64 0, .slice none 0 0] := by subst hwa; exact Loc.new w _ _
  have Ta : TagT 26 wa w.heap.size := by subst hwa; exact TagT.new 26 w _
  have K0 := Lib.hid (Ka.below Bb)
  have T0 := Lib.hid (Ta.of (Bb.block _ Ka.1))
  have N0 := Lib.hid (Loc.new wa #[.int .i64 0, .slice none 0 0] 26)
  have M0 := Lib.hid (TagT.new 26 wa #[.int .i64 0, .slice none 0 0])
  have B0 := Lib.hid (Ba.trans (Bb.mono Ba.size))
  have CN := Lib.hid (l1New_any A cap zs _ (h.below B0.out) hz hn)
  rw [sa] at N0 M0
  replace C11 := Lib.hid C11
  clear h hz Ka Ta Ba Bb
  obtain ⟨wb, hwb⟩ : ∃ wb, wb = wa.alloc (.cells #[.int .i64 0, .slice none 0 0] 26) := ⟨_, rfl⟩
  rw [← hwb] at K0 T0 N0 M0 B0 CN
  go_enter Try.func17, Try.ntmps17
  go_wp2_with fail
  rw [← hwa, ← hwb]
  clear hwa hwb
  refine CN.out.mono ?_
  rintro e w1 ⟨g, rfl, cu, b1, hg⟩
  have s1 := b1.size
  have s0 := B0.out.size
  have hb1 := B0.out.trans (b1.mono B0.out.size)
  have hwb : w.heap.size + 1 < wb.heap.size := N0.out.1
  have K1 := Lib.hid (K0.out.below b1)
  have T1 := Lib.hid (T0.out.of (b1.block _ K0.out.1))
  have N1 := Lib.hid (N0.out.below b1)
  have M1 := Lib.hid (M0.out.of (b1.block _ N0.out.1))
  have CA := Lib.hid (C11.out g zs 10 w1 cu (by omega))
  have hgl := cur_lt cu
  clear cu b1 K0 T0 N0 M0 sa
  go_wp2_with fail
  refine CA.out.mono ?_
  intro e w2 hd
  have hg2 : w.heap.size ≤ g := by omega
  have hg3 : w.heap.size + 1 < g := by omega
  obtain ⟨root, v, ps, rfl, hf, ho, hc, hw⟩ := hd
  obtain ⟨a, c, rfl⟩ := ho.shape
  obtain ⟨n, hn2⟩ : ∃ n, n = ps.length := ⟨_, rfl⟩
  rw [← hn2] at ho ⊢
  have HF := Lib.hid hf
  have s2 := hw.size
  obtain ⟨G, hG⟩ : ∃ G, G = w2.heap.size := ⟨_, rfl⟩
  obtain ⟨W3, hW3⟩ : ∃ W3, W3 = w2.alloc (.cells #[.int .i64 root, .slice a n c] 26) := ⟨_, rfl⟩
  have b3 : Below w2.heap.size w2 W3 := by subst hW3; exact new_below _ _
  have KG : Hid (Loc W3 G #[.int .i64 root, .slice a n c]) := by subst hW3 hG; exact Lib.hid (Loc.new _ _ _)
  have hgG : g < G := by omega
  have K3 := Lib.hid ((K1.out.grown hw (fun k e => by cases e; omega)).below b3)
  have T3 := Lib.hid ((T1.out.of (hw.block _ K1.out.1 (fun e => by have := Option.some.inj e; omega))).of (b3.block _ (by have := K1.out.1; omega)))
  have N3 := Lib.hid ((N1.out.grown hw (fun k e => by cases e; omega)).below b3)
  have M3 := Lib.hid ((M1.out.of (hw.block _ N1.out.1 (fun e => by have := Option.some.inj e; omega))).of (b3.block _ (by have := N1.out.1; omega)))
  have HO := Lib.hid (ho.below b3)
  have hw01 : w.heap.size ≤ w1.heap.size := hb1.size
  have CU := Lib.hid (cur_kept hc (Below.toGrown b3 none) (fun k e => by cases e))
  have HB := Lib.hid ((hb1.grown hw hb1.size (fun k e => by cases e; exact hg2)).trans (b3.mono (by have := hb1.size; omega)))
  have s3 : G < W3.heap.size := KG.out.1
  have kk := KG.out.2.1
  have kk0 := kk 0
  have kk1 := kk 1
  simp at kk0 kk1
  replace hG := Lib.hid hG
  replace hn2 := Lib.hid hn2
  clear b3 ho hc hw hb1 hf K1 T1 N1 M1 CA CN kk s1 s0 B0
  go_upto_region 3 with (fail)
  rw [← hW3]
  try rw [← hG.out]
  clear hW3
  have hRG : w.heap.size ≠ G := by omega
  have hNG : w.heap.size + 1 ≠ G := by omega
  have CB := Lib.hid (l1Once_any g zs 2 W3 CU.out (by omega))
  go_wp2_with fail
  refine CB.out.mono ?_
  rintro e w5 ⟨z, rfl, cu5, g5⟩
  have L5 := Lib.hid ((KG.out).grown g5 (fun k e => by cases e; omega)); have K5 := Lib.hid ((K3.out).grown g5 (fun k e => by cases e; omega)); have N5 := Lib.hid ((N3.out).grown g5 (fun k e => by cases e; omega)); have T5 := Lib.hid (T3.out.of (g5.block _ K3.out.1 (fun e => by have := Option.some.inj e; omega))); have M5 := Lib.hid (M3.out.of (g5.block _ N3.out.1 (fun e => by have := Option.some.inj e; omega))); have P5 := Lib.hid (ownP_grown (HO.out) g5 (fun k e => by cases e; omega)); have Q5 := Lib.hid ((HB.out).grown g5 (by have := HB.out.size; simpa using this) (fun k e => by cases e; exact hg2)); have l50 := L5.out.2.1 0; have l51 := L5.out.2.1 1; simp at l50 l51; have CU5 := Lib.hid cu5
  have hw5d : w.heap.size ≤ w5.drew.heap.size := by have := Q5.out.size; exact this
  clear cu5 g5 CB
  cases z with
  | true =>
    have hpn : ∀ p ∈ ps, p.n ≤ 1099511627776 := fun p hp => by
      have h1 := HF.out.2 p.pg (List.mem_map_of_mem hp)
      have h2 : p.xs.length = p.n := (P5.out.rd.2 p hp).1.1
      have h3 : p.pg.xs.length = p.xs.length := rfl
      omega
    have CC := Lib.hid (l7Copy_any root a n c ps w5.drew (P5.out.rd.below (drew_below _)) (by have h1 := HF.out.1; rw [List.length_map] at h1; have := hn2.out; omega) hpn)
    clear hpn
    go_upto_region 4 with (fail)
    go_region_law (refine step_go rfl 60 _ _ rfl #[.agg #[.int .i64 root, .slice a n c]] (by first | (simp [Act.eval]; done) | (simp [Act.eval, Act.put]; done)) (enters_of Try.func60 (by kernel_rfl) rfl) (R := fun v w' => ∃ (v2 : Value) (os : List PgV), v = .agg #[.int .i64 root, v2] ∧ Fits 402 2000 (os.map PgV.pg) ∧ OwnP w' w5.drew.heap.size v2 os ∧ w5.drew.grownBy w' (some g)) (CC.out.mono (fun e w' ⟨v2, os, he, hf, ho, hb⟩ => ⟨_, he, v2, os, rfl, by rw [hf]; exact HF.out, ho, Below.toGrown hb (some g)⟩)) ?_; rintro v w6 ⟨v2, os, rfl, hf2, o6, g6⟩; obtain ⟨a6, c6, rfl⟩ := o6.shape; have L6 := Lib.hid ((L5.out.drew).grown g6 (fun k e => by cases e; omega)); have K6 := Lib.hid ((K5.out.drew).grown g6 (fun k e => by cases e; omega)); have N6 := Lib.hid ((N5.out.drew).grown g6 (fun k e => by cases e; omega)); have T6 := Lib.hid (T5.out.of (g6.block _ K5.out.1 (fun e => by have := Option.some.inj e; omega))); have M6 := Lib.hid (M5.out.of (g6.block _ N5.out.1 (fun e => by have := Option.some.inj e; omega))); have P6 := Lib.hid (ownP_grown P5.out.drew g6 (fun k e => by cases e; omega)); have Q6 := Lib.hid ((Q5.out.drew).grown g6 (by have := Q5.out.size; simpa using this) (fun k e => by cases e; exact hg2)); have l60 := L6.out.2.1 0; have l61 := L6.out.2.1 1; simp at l60 l61; have k60 := K6.out.2.1 0; have k61 := K6.out.2.1 1; have n60 := N6.out.2.1 0; have n61 := N6.out.2.1 1; have kf := K6.out.2.2; have nf := N6.out.2.2; simp at k60 k61 n60 n61; have O6 := Lib.hid o6; have HF2 := Lib.hid hf2; have s56 := g6.size; clear o6 g6 hf2)
    all_goals
      go_wp2
      refine bodyPost_ret (v := .tuple #[.agg #[.int .i64 root, .slice a n c], .agg #[.int .i64 root, .slice a6 os.length c6]]) (by simp [results, Try.results17, go_sem, k60, k61, n60, n61]) rfl ⟨root, root, _, _, ps, os, rfl, HF.out, HF2.out, ?_, ?_, ?_⟩
      · exact (((((P6.out.store T6.out 0 _).store (T6.out.set _ _ _) 1 _).store ((M6.out.set _ _ _).set _ _ _) 0 _).store (((M6.out.set _ _ _).set _ _ _).set _ _ _) 1 _)).mono hw01
      · exact (((((O6.out.store T6.out 0 _).store (T6.out.set _ _ _) 1 _).store ((M6.out.set _ _ _).set _ _ _) 0 _).store (((M6.out.set _ _ _).set _ _ _).set _ _ _) 1 _)).mono hw5d
      · exact (((Q6.out.setCell (p := ⟨w.heap.size, 0, none⟩) (Nat.le_refl _) _).setCell (p := ⟨w.heap.size, 1, none⟩) (Nat.le_refl _) _).setCell (p := ⟨w.heap.size + 1, 0, none⟩) (Nat.le_succ _) _).setCell (p := ⟨w.heap.size + 1, 1, none⟩) (Nat.le_succ _) _
  | false =>
    have C5 := Lib.hid (C11.out g zs 10 w5.drew (cur_kept CU5.out (Below.toGrown (drew_below w5) none) (fun k e => by cases e)) (by omega))
    go_upto_region 5 with (fail)
    go_region_law (refine step_go rfl 54 _ _ rfl #[.pointer (some ⟨g, 0, none⟩), .int .i64 10] (by first | (simp [Act.eval]; done) | (simp [Act.eval, Act.put]; done)) (enters_of Try.func54 (by kernel_rfl) rfl) (R := fun v w' => ∃ (rt2 : Int) (v2 : Value) (os : List PgV), v = .agg #[.int .i64 rt2, v2] ∧ Fits 402 2000 (os.map PgV.pg) ∧ OwnP w' w5.drew.heap.size v2 os ∧ w5.drew.grownBy w' (some g)) (C5.out.mono (fun e w' ⟨r2, v2, os, he, hf, ho, hc, hg⟩ => ⟨_, he, r2, v2, os, rfl, hf, ho, hg⟩)) ?_; rintro v w6 ⟨rt2, v2, os, rfl, hf2, o6, g6⟩; obtain ⟨a6, c6, rfl⟩ := o6.shape; have L6 := Lib.hid ((L5.out.drew).grown g6 (fun k e => by cases e; omega)); have K6 := Lib.hid ((K5.out.drew).grown g6 (fun k e => by cases e; omega)); have N6 := Lib.hid ((N5.out.drew).grown g6 (fun k e => by cases e; omega)); have T6 := Lib.hid (T5.out.of (g6.block _ K5.out.1 (fun e => by have := Option.some.inj e; omega))); have M6 := Lib.hid (M5.out.of (g6.block _ N5.out.1 (fun e => by have := Option.some.inj e; omega))); have P6 := Lib.hid (ownP_grown P5.out.drew g6 (fun k e => by cases e; omega)); have Q6 := Lib.hid ((Q5.out.drew).grown g6 (by have := Q5.out.size; simpa using this) (fun k e => by cases e; exact hg2)); have l60 := L6.out.2.1 0; have l61 := L6.out.2.1 1; simp at l60 l61; have k60 := K6.out.2.1 0; have k61 := K6.out.2.1 1; have n60 := N6.out.2.1 0; have n61 := N6.out.2.1 1; have kf := K6.out.2.2; have nf := N6.out.2.2; simp at k60 k61 n60 n61; have O6 := Lib.hid o6; have HF2 := Lib.hid hf2; have s56 := g6.size; clear o6 g6 hf2)
    all_goals
      go_wp2
      refine bodyPost_ret (v := .tuple #[.agg #[.int .i64 root, .slice a n c], .agg #[.int .i64 rt2, .slice a6 os.length c6]]) (by simp [results, Try.results17, go_sem, k60, k61, n60, n61]) rfl ⟨root, rt2, _, _, ps, os, rfl, HF.out, HF2.out, ?_, ?_, ?_⟩
      · exact (((((P6.out.store T6.out 0 _).store (T6.out.set _ _ _) 1 _).store ((M6.out.set _ _ _).set _ _ _) 0 _).store (((M6.out.set _ _ _).set _ _ _).set _ _ _) 1 _)).mono hw01
      · exact (((((O6.out.store T6.out 0 _).store (T6.out.set _ _ _) 1 _).store ((M6.out.set _ _ _).set _ _ _) 0 _).store (((M6.out.set _ _ _).set _ _ _).set _ _ _) 1 _)).mono hw5d
      · exact (((Q6.out.setCell (p := ⟨w.heap.size, 0, none⟩) (Nat.le_refl _) _).setCell (p := ⟨w.heap.size, 1, none⟩) (Nat.le_refl _) _).setCell (p := ⟨w.heap.size + 1, 0, none⟩) (Nat.le_succ _) _).setCell (p := ⟨w.heap.size + 1, 1, none⟩) (Nat.le_succ _) _
end Go.Proofs.Ytfefggcfeppeiaa
