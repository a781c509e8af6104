/- FnLooks' draws. -/
import Derived.Test.YtfefggcfeppeiaaGreatPagesDZLooks
import Derived.Test.YtfefggcfeppeiaaGreatQLooksf
namespace Go.Proofs.YtfefggcfeppeiaaGreat
open Go.RowKit

set_option maxRecDepth 100000 in
set_option maxHeartbeats 800000 in
theorem drawAll_any (C11 : L11Any) (A : Option Addr) (cap : Nat) (zs : List Int) (w : World) (h : RdI .u8 w A zs.length cap zs) (hz : ∀ z ∈ zs, 0 ≤ z ∧ z ≤ 255) (hn : zs.length ≤ 1048576) :
    Calls Tryz.prog 10 #[.slice A zs.length cap] w (NewBk 523 2000 w) := by
  have B0 := new_below w (.cells #[.int .i64 0, .slice none 0 0] 26)
  have K0 := Lib.hid (Loc.new w #[.int .i64 0, .slice none 0 0] 26)
  have T0 := Lib.hid (TagT.new 26 w #[.int .i64 0, .slice none 0 0])
  have CN := Lib.hid (l1New_any A cap zs _ (h.below B0) hz hn)
  replace C11 := Lib.hid C11
  clear h hz
  go_enter Tryz.func10, Tryz.ntmps10
  go_wp2_with fail
  refine CN.out.mono ?_
  rintro e w1 ⟨g, rfl, cu, b1, hg⟩
  have s1 := b1.size
  simp at s1 hg
  have hb1 := B0.trans (b1.mono B0.size)
  have K1 := Lib.hid (K0.out.below b1)
  have T1 := Lib.hid (T0.out.of (b1.block _ K0.out.1))
  have CA := Lib.hid (C11.out g zs 30 w1 cu (by omega))
  clear cu b1 K0 T0
  go_wp2_with fail
  refine CA.out.mono ?_
  intro e w2 hd
  have hg2 : w.heap.size ≤ g := by omega
  obtain ⟨root, v, ps, rfl, hf, ho, hc, hw⟩ := hd
  obtain ⟨a, c, rfl⟩ := ho.shape
  have K2 := K1.out.grown hw (fun k e => by cases e; omega)
  have T2 := T1.out.of (hw.block _ K1.out.1 (fun e => by have := Option.some.inj e; omega))
  have HO := Lib.hid ho
  have HB := Lib.hid (hb1.grown hw hb1.size (fun k e => by cases e; exact hg2))
  have hw1 := hb1.size
  obtain ⟨hl, k2, f2⟩ := K2
  clear hw hc ho hb1
  go_wp2
  refine bodyPost_ret (v := .agg #[.int .i64 root, .slice a ps.length c]) (by simp [results, Tryz.results10, go_sem, k2]) rfl ⟨root, _, ps, rfl, hf, ?_, ?_⟩
  · exact (((HO.out.store T2 0 _).store (T2.set _ _ _) 1 _)).mono hw1
  · exact (HB.out.setCell (p := ⟨w.heap.size, 0, none⟩) (Nat.le_refl _) _).setCell (p := ⟨w.heap.size, 1, none⟩) (Nat.le_refl _) _

set_option maxRecDepth 100000 in
set_option maxHeartbeats 800000 in
theorem drawLeaves_any (C11 : L11Any) (A : Option Addr) (cap : Nat) (zs : List Int) (w : World) (h : RdI .u8 w A zs.length cap zs) (hz : ∀ z ∈ zs, 0 ≤ z ∧ z ≤ 255) (hn : zs.length ≤ 1048576) :
    Calls Tryz.prog 11 #[.slice A zs.length cap] w (NewBk 523 2000 w) := by
  have B0 := new_below w (.cells #[.int .i64 0, .slice none 0 0] 26)
  have K0 := Lib.hid (Loc.new w #[.int .i64 0, .slice none 0 0] 26)
  have T0 := Lib.hid (TagT.new 26 w #[.int .i64 0, .slice none 0 0])
  have CN := Lib.hid (l1New_any A cap zs _ (h.below B0) hz hn)
  replace C11 := Lib.hid C11
  clear h hz
  go_enter Tryz.func11, Tryz.ntmps11
  go_wp2_with fail
  refine CN.out.mono ?_
  rintro e w1 ⟨g, rfl, cu, b1, hg⟩
  have s1 := b1.size
  simp at s1 hg
  have hb1 := B0.trans (b1.mono B0.size)
  have K1 := Lib.hid (K0.out.below b1)
  have T1 := Lib.hid (T0.out.of (b1.block _ K0.out.1))
  have CA := Lib.hid (C11.out g zs 30 w1 cu (by omega))
  clear cu b1 K0 T0
  go_wp2_with fail
  refine CA.out.mono ?_
  intro e w2 hd
  have hg2 : w.heap.size ≤ g := by omega
  obtain ⟨root, v, ps, rfl, hf, ho, hc, hw⟩ := hd
  obtain ⟨a, c, rfl⟩ := ho.shape
  have K2 := K1.out.grown hw (fun k e => by cases e; omega)
  have T2 := T1.out.of (hw.block _ K1.out.1 (fun e => by have := Option.some.inj e; omega))
  have HO := Lib.hid ho
  have HB := Lib.hid (hb1.grown hw hb1.size (fun k e => by cases e; exact hg2))
  have hw1 := hb1.size
  obtain ⟨hl, k2, f2⟩ := K2
  clear hw hc ho hb1
  go_wp2
  refine bodyPost_ret (v := .agg #[.int .i64 root, .slice a ps.length c]) (by simp [results, Tryz.results11, go_sem, k2]) rfl ⟨root, _, ps, rfl, hf, ?_, ?_⟩
  · exact (((HO.out.store T2 0 _).store (T2.set _ _ _) 1 _)).mono hw1
  · exact (HB.out.setCell (p := ⟨w.heap.size, 0, none⟩) (Nat.le_refl _) _).setCell (p := ⟨w.heap.size, 1, none⟩) (Nat.le_refl _) _

set_option maxRecDepth 100000 in
set_option maxHeartbeats 800000 in
theorem drawDeep_any (C11 : L11Any) (A : Option Addr) (cap : Nat) (zs : List Int) (w : World) (h : RdI .u8 w A zs.length cap zs) (hz : ∀ z ∈ zs, 0 ≤ z ∧ z ≤ 255) (hn : zs.length ≤ 1048576) :
    Calls Tryz.prog 12 #[.slice A zs.length cap] w (NewBk 523 2000 w) := by
  have B0 := new_below w (.cells #[.int .i64 0, .slice none 0 0] 26)
  have K0 := Lib.hid (Loc.new w #[.int .i64 0, .slice none 0 0] 26)
  have T0 := Lib.hid (TagT.new 26 w #[.int .i64 0, .slice none 0 0])
  have CN := Lib.hid (l1New_any A cap zs _ (h.below B0) hz hn)
  replace C11 := Lib.hid C11
  clear h hz
  go_enter Tryz.func12, Tryz.ntmps12
  go_wp2_with fail
  refine CN.out.mono ?_
  rintro e w1 ⟨g, rfl, cu, b1, hg⟩
  have s1 := b1.size
  simp at s1 hg
  have hb1 := B0.trans (b1.mono B0.size)
  have K1 := Lib.hid (K0.out.below b1)
  have T1 := Lib.hid (T0.out.of (b1.block _ K0.out.1))
  have CA := Lib.hid (C11.out g zs 40 w1 cu (by omega))
  clear cu b1 K0 T0
  go_wp2_with fail
  refine CA.out.mono ?_
  intro e w2 hd
  have hg2 : w.heap.size ≤ g := by omega
  obtain ⟨root, v, ps, rfl, hf, ho, hc, hw⟩ := hd
  obtain ⟨a, c, rfl⟩ := ho.shape
  have K2 := K1.out.grown hw (fun k e => by cases e; omega)
  have T2 := T1.out.of (hw.block _ K1.out.1 (fun e => by have := Option.some.inj e; omega))
  have HO := Lib.hid ho
  have HB := Lib.hid (hb1.grown hw hb1.size (fun k e => by cases e; exact hg2))
  have hw1 := hb1.size
  obtain ⟨hl, k2, f2⟩ := K2
  clear hw hc ho hb1
  go_wp2
  refine bodyPost_ret (v := .agg #[.int .i64 root, .slice a ps.length c]) (by simp [results, Tryz.results12, go_sem, k2]) rfl ⟨root, _, ps, rfl, hf, ?_, ?_⟩
  · exact (((HO.out.store T2 0 _).store (T2.set _ _ _) 1 _)).mono hw1
  · exact (HB.out.setCell (p := ⟨w.heap.size, 0, none⟩) (Nat.le_refl _) _).setCell (p := ⟨w.heap.size, 1, none⟩) (Nat.le_refl _) _

set_option maxRecDepth 100000 in
set_option maxHeartbeats 800000 in
theorem drawFind_any (C11 : L11Any) (A : Option Addr) (cap : Nat) (zs : List Int) (w : World) (h : RdI .u8 w A zs.length cap zs) (hz : ∀ z ∈ zs, 0 ≤ z ∧ z ≤ 255) (hn : zs.length ≤ 1048576) :
    Calls Tryz.prog 7 #[.slice A zs.length cap] w (NewBkI 523 2000 0 31 w) := by
  have B0 := new_below w (.cells #[.int .i64 0, .slice none 0 0] 26)
  have K0 := Lib.hid (Loc.new w #[.int .i64 0, .slice none 0 0] 26)
  have T0 := Lib.hid (TagT.new 26 w #[.int .i64 0, .slice none 0 0])
  have CN := Lib.hid (l1New_any A cap zs _ (h.below B0) hz hn)
  replace C11 := Lib.hid C11
  clear h hz
  go_enter Tryz.func7, Tryz.ntmps7
  go_wp2_with fail
  refine CN.out.mono ?_
  rintro e w1 ⟨g, rfl, cu, b1, hg⟩
  have s1 := b1.size
  simp at s1 hg
  have hb1 := B0.trans (b1.mono B0.size)
  have K1 := Lib.hid (K0.out.below b1)
  have T1 := Lib.hid (T0.out.of (b1.block _ K0.out.1))
  have CA := Lib.hid (C11.out g zs 30 w1 cu (by omega))
  have hgl := cur_lt cu
  clear cu b1 K0 T0
  go_wp2_with fail
  refine CA.out.mono ?_
  intro e w2 hd
  have hg2 : w.heap.size ≤ g := by omega
  obtain ⟨root, v, ps, rfl, hf, ho, hc, hw⟩ := hd
  obtain ⟨a, c, rfl⟩ := ho.shape
  have K2 := Lib.hid (K1.out.grown hw (fun k e => by cases e; omega))
  have T2 := Lib.hid (T1.out.of (hw.block _ K1.out.1 (fun e => by have := Option.some.inj e; omega)))
  have HB := hb1.grown hw hb1.size (fun k e => by cases e; exact hg2)
  have hw1 := hb1.size
  have s2 := hw.size
  have CB := Lib.hid (l1Below_any g zs 32 w2 hc (by omega))
  have HO := Lib.hid ho
  have HF := Lib.hid hf
  replace HB := Lib.hid HB
  clear hw hc ho hb1 hf K1 T1 CA CN
  go_wp2_with fail
  refine CB.out.mono ?_
  rintro e w3 ⟨x, rfl, x0, x1, cu3, g3⟩
  rw [if_pos (by omega)] at x1
  have K3 := K2.out.grown g3 (fun k e => by cases e; omega)
  have T3 := T2.out.of (g3.block _ K2.out.1 (fun e => by have := Option.some.inj e; omega))
  have HO3 := Lib.hid (ownP_grown HO.out g3 (fun k e => by cases e; omega))
  have HB3 := Lib.hid (HB.out.grown g3 HB.out.size (fun k e => by cases e; exact hg2))
  obtain ⟨hl, k2, f2⟩ := K3
  clear g3 cu3 CB
  have y0 : (0 : Int) ≤ x := x0
  have y1 : x ≤ 31 := by omega
  go_wp2
  refine bodyPost_ret (v := .tuple #[.agg #[.int .i64 root, .slice a ps.length c], .int .i64 x]) (by simp [results, Tryz.results7, go_sem, k2]) rfl ⟨root, x, _, ps, rfl, by omega, by omega, HF.out, ?_, ?_⟩
  · exact (((HO3.out.store T3 0 _).store (T3.set _ _ _) 1 _)).mono hw1
  · exact (HB3.out.setCell (p := ⟨w.heap.size, 0, none⟩) (Nat.le_refl _) _).setCell (p := ⟨w.heap.size, 1, none⟩) (Nat.le_refl _) _


theorem OwnP.storeX {w : World} {base q : Nat} {v : Value} {ps : List PgV} (h : OwnP w base v ps) (t : TagT 28 w q) (j : Nat) (u : Value) : OwnP (w.setCell ⟨q, j, none⟩ u) base v ps := by
  have hG := grown_setCell (World.grownBy.refl w (some q)) q j u rfl
  exact ⟨OwnS.kept h.row hG (own_ne (t.ne h.row (by decide))), fun p hp => OwnS.kept (h.ent p hp) hG (own_ne (t.ne (h.ent p hp) (by decide))), h.out, h.pair⟩
/-- A drawn book in new memory, and a rectangle. -/
def NewBkB (N B : Nat) (w : World) (e : Ending) (w' : World) : Prop := ∃ (root : Int) (v : Value) (ps : List PgV) (p0 p1 p2 p3 : Int), e = .returned (.tuple #[.agg #[.int .i64 root, v], .agg #[.int .i64 p0, .int .i64 p1, .int .i64 p2, .int .i64 p3]]) ∧ Any4 p0 p1 p2 p3 ∧ Fits N B (ps.map PgV.pg) ∧ OwnP w' w.heap.size v ps ∧ Below w.heap.size w w'

set_option maxRecDepth 100000 in
set_option maxHeartbeats 3200000 in
theorem drawSearch_any (C11 : L11Any) (A : Option Addr) (cap : Nat) (zs : List Int) (w : World) (h : RdI .u8 w A zs.length cap zs) (hz : ∀ z ∈ zs, 0 ≤ z ∧ z ≤ 255) (hn : zs.length ≤ 1048576) :
    Calls Tryz.prog 5 #[.slice A zs.length cap] w (NewBkB 523 2000 w) := by
  have Ba := new_below w (.cells #[.int .i64 0, .slice none 0 0] 26)
  obtain ⟨wa, hwa⟩ : ∃ wa, wa = w.alloc (.cells #[.int .i64 0, .slice none 0 0] 26) := ⟨_, rfl⟩
  have sa : wa.heap.size = w.heap.size + 1 := by subst hwa; simp
  have Bb := new_below wa (.cells #[.int .i64 0, .int .i64 0, .int .i64 0, .int .i64 0] 28)
  rw [← hwa] at Ba
  have Ka : Loc wa w.heap.size #[.int .i64 0, .slice none 0 0] := by subst hwa; exact Loc.new w _ _
  have Ta : TagT 26 wa w.heap.size := by subst hwa; exact TagT.new 26 w _
  have K0 := Lib.hid (Ka.below Bb)
  have T0 := Lib.hid (Ta.of (Bb.block _ Ka.1))
  have N0 := Lib.hid (Loc.new wa #[.int .i64 0, .int .i64 0, .int .i64 0, .int .i64 0] 28)
  have M0 := Lib.hid (TagT.new 28 wa #[.int .i64 0, .int .i64 0, .int .i64 0, .int .i64 0])
  have B0 := Lib.hid (Ba.trans (Bb.mono Ba.size))
  have CN := Lib.hid (l1New_any A cap zs _ (h.below B0.out) hz hn)
  rw [sa] at N0 M0
  replace C11 := Lib.hid C11
  clear h hz Ka Ta Ba Bb
  obtain ⟨wb, hwb⟩ : ∃ wb, wb = wa.alloc (.cells #[.int .i64 0, .int .i64 0, .int .i64 0, .int .i64 0] 28) := ⟨_, rfl⟩
  rw [← hwb] at K0 T0 N0 M0 B0 CN
  go_enter Tryz.func5, Tryz.ntmps5
  go_wp2_with fail
  rw [← hwa, ← hwb]
  clear hwa hwb
  refine CN.out.mono ?_
  rintro e w1 ⟨g, rfl, cu, b1, hg⟩
  have s1 := b1.size
  have s0 := B0.out.size
  have hb1 := B0.out.trans (b1.mono B0.out.size)
  have hwb : w.heap.size + 1 < wb.heap.size := N0.out.1
  have K1 := Lib.hid (K0.out.below b1)
  have T1 := Lib.hid (T0.out.of (b1.block _ K0.out.1))
  have N1 := Lib.hid (N0.out.below b1)
  have M1 := Lib.hid (M0.out.of (b1.block _ N0.out.1))
  have CA := Lib.hid (C11.out g zs 30 w1 cu (by omega))
  have hgl := cur_lt cu
  clear cu b1 K0 T0 N0 M0 sa
  go_wp2_with fail
  refine CA.out.mono ?_
  intro e w2 hd
  have hg2 : w.heap.size ≤ g := by omega
  have hg3 : w.heap.size + 1 < g := by omega
  obtain ⟨root, v, ps, rfl, hf, ho, hc, hw⟩ := hd
  obtain ⟨a, c, rfl⟩ := ho.shape
  obtain ⟨n, hn2⟩ : ∃ n, n = ps.length := ⟨_, rfl⟩
  rw [← hn2] at ho ⊢
  have HF := Lib.hid hf
  have s2 := hw.size
  obtain ⟨G, hG⟩ : ∃ G, G = w2.heap.size := ⟨_, rfl⟩
  obtain ⟨W3, hW3⟩ : ∃ W3, W3 = w2.alloc (.cells #[.int .i64 root, .slice a n c] 26) := ⟨_, rfl⟩
  have b3 : Below w2.heap.size w2 W3 := by subst hW3; exact new_below _ _
  have KG : Hid (Loc W3 G #[.int .i64 root, .slice a n c]) := by subst hW3 hG; exact Lib.hid (Loc.new _ _ _)
  have hgG : g < G := by omega
  have K3 := Lib.hid ((K1.out.grown hw (fun k e => by cases e; omega)).below b3)
  have T3 := Lib.hid ((T1.out.of (hw.block _ K1.out.1 (fun e => by have := Option.some.inj e; omega))).of (b3.block _ (by have := K1.out.1; omega)))
  have N3 := Lib.hid ((N1.out.grown hw (fun k e => by cases e; omega)).below b3)
  have M3 := Lib.hid ((M1.out.of (hw.block _ N1.out.1 (fun e => by have := Option.some.inj e; omega))).of (b3.block _ (by have := N1.out.1; omega)))
  have HO := Lib.hid (ho.below b3)
  have hw01 : w.heap.size ≤ w1.heap.size := hb1.size
  have CU := Lib.hid (cur_kept hc (Below.toGrown b3 none) (fun k e => by cases e))
  have HB := Lib.hid ((hb1.grown hw hb1.size (fun k e => by cases e; exact hg2)).trans (b3.mono (by have := hb1.size; omega)))
  have s3 : G < W3.heap.size := KG.out.1
  have kk := KG.out.2.1
  have kk0 := kk 0
  have kk1 := kk 1
  simp at kk0 kk1
  replace hG := Lib.hid hG
  replace hn2 := Lib.hid hn2
  clear b3 ho hc hw hb1 hf K1 T1 N1 M1 CA CN kk s1 s0 B0
  go_upto_region 3 with (fail)
  rw [← hW3]
  try rw [← hG.out]
  clear hW3
  have hRG : w.heap.size ≠ G := by omega
  have hNG : w.heap.size + 1 ≠ G := by omega
  have CB := Lib.hid (l2Any_any g zs W3.drew (cur_kept CU.out (Below.toGrown (drew_below W3) none) (fun k e => by cases e)))
  go_region_law (refine step_go rfl 30 _ _ rfl #[.pointer (some ⟨g, 0, none⟩)] (by first | (simp [Act.eval]; done) | (simp [Act.eval, Act.put]; done)) (enters_of Tryz.func30 (by kernel_rfl) rfl) (R := fun v w' => ∃ p0 p1 p2 p3, v = .agg #[.int .i64 p0, .int .i64 p1, .int .i64 p2, .int .i64 p3] ∧ Any4 p0 p1 p2 p3 ∧ W3.drew.grownBy w' (some g)) (CB.out.mono (fun e w' ⟨p0, p1, p2, p3, he, hp, hc, hg⟩ => ⟨_, he, p0, p1, p2, p3, rfl, hp, hg⟩)) ?_; rintro v w6 ⟨p0, p1, p2, p3, rfl, hp, g6⟩; have L6 := Lib.hid ((KG.out.drew).grown g6 (fun k e => by cases e; omega)); have K6 := Lib.hid ((K3.out.drew).grown g6 (fun k e => by cases e; omega)); have N6 := Lib.hid ((N3.out.drew).grown g6 (fun k e => by cases e; omega)); have T6 := Lib.hid (T3.out.of (g6.block _ K3.out.1 (fun e => by have := Option.some.inj e; omega))); have M6 := Lib.hid (M3.out.of (g6.block _ N3.out.1 (fun e => by have := Option.some.inj e; omega))); have P6 := Lib.hid (ownP_grown (HO.out.drew) g6 (fun k e => by cases e; omega)); have Q6 := Lib.hid ((HB.out.drew).grown g6 (by have := HB.out.size; simpa using this) (fun k e => by cases e; exact hg2)); have l60 := L6.out.2.1 0; have l61 := L6.out.2.1 1; simp at l60 l61; have k60 := K6.out.2.1 0; have k61 := K6.out.2.1 1; have n60 := N6.out.2.1 0; have n61 := N6.out.2.1 1; have n62 := N6.out.2.1 2; have n63 := N6.out.2.1 3; have kf := K6.out.2.2; have nf := N6.out.2.2; simp at k60 k61 n60 n61 n62 n63; have HP4 := Lib.hid hp; clear g6 hp)
  all_goals
    have q1 := Q6.out.size
    have hs6 : w.heap.size + 1 < w6.heap.size := N6.out.1
    go_wp2
    refine bodyPost_ret (v := .tuple #[.agg #[.int .i64 root, .slice a n c], .agg #[.int .i64 p0, .int .i64 p1, .int .i64 p2, .int .i64 p3]]) (by simp [results, Tryz.results5, go_sem, k60, k61, n60, n61, n62, n63]) rfl ⟨root, _, ps, p0, p1, p2, p3, rfl, HP4.out, HF.out, ?_, ?_⟩
    · exact (((((((P6.out.store T6.out 0 _).store (T6.out.set _ _ _) 1 _).storeX ((M6.out.set _ _ _).set _ _ _) 0 _).storeX (((M6.out.set _ _ _).set _ _ _).set _ _ _) 1 _).storeX ((((M6.out.set _ _ _).set _ _ _).set _ _ _).set _ _ _) 2 _).storeX (((((M6.out.set _ _ _).set _ _ _).set _ _ _).set _ _ _).set _ _ _) 3 _)).mono hw01
    · exact (((((Q6.out.setCell (p := ⟨w.heap.size, 0, none⟩) (Nat.le_refl _) _).setCell (p := ⟨w.heap.size, 1, none⟩) (Nat.le_refl _) _).setCell (p := ⟨w.heap.size + 1, 0, none⟩) (Nat.le_succ _) _).setCell (p := ⟨w.heap.size + 1, 1, none⟩) (Nat.le_succ _) _).setCell (p := ⟨w.heap.size + 1, 2, none⟩) (Nat.le_succ _) _).setCell (p := ⟨w.heap.size + 1, 3, none⟩) (Nat.le_succ _) _
end Go.Proofs.YtfefggcfeppeiaaGreat
