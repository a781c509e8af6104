/- The model's draws of nodes for the law of all nodes. -/
import Derived.Test.YtckdkijhkgicnaaDrawNode4
import Derived.Test.YtckdkijhkgicnaaDrawBoxes
namespace Go.Proofs.Ytckdkijhkgicnaa
open Go.RowKit

theorem fieldN (b : Bool) (a : Option Addr) (n cap : Nat) (w : World) : Sem.run Try.prog (Instr.field 26 (.agg #[.bool b, .slice a n cap]) 1) w = .ok (.slice a n cap) w := by
  simp [Instr.field, asAgg, run_underlying Try.underlying26, go_sem]

/-- A node drawn by a law. -/
def DrawnNd (m : Nat) (w : World) (e : Ending) (w' : World) : Prop :=
  ∃ b v ys, e = .returned (.agg #[.bool b, v]) ∧ ys.length ≤ m ∧ OwnS itLay 45 w' w.heap.size v ys ∧ Below w.heap.size w w'
def DrawnNds (m : Nat) (w : World) (e : Ending) (w' : World) : Prop :=
  ∃ b v ys d u zs, e = .returned (.tuple #[.agg #[.bool b, v], .agg #[.bool d, u]]) ∧ ys.length ≤ m ∧ zs.length ≤ m ∧ OwnS itLay 45 w' w.heap.size v ys ∧ OwnS itLay 45 w' w.heap.size u zs ∧ Below w.heap.size w w'
def DrawnEnt (m : Nat) (w : World) (e : Ending) (w' : World) : Prop :=
  ∃ v ys n, e = .returned (.tuple #[v, .int .i64 n]) ∧ ys.length ≤ m ∧ OwnS itLay 45 w' w.heap.size v ys ∧ Below w.heap.size w w'

set_option maxHeartbeats 800000 in
set_option maxRecDepth 100000 in
theorem drawNodeOk_any (A : Option Addr) (cap : Nat) (zs : List Int) (w : World) (h : RdI .u8 w A zs.length cap zs) (hz : ∀ z ∈ zs, 0 ≤ z ∧ z ≤ 255) (hn : zs.length ≤ 1048576) :
    Calls Try.prog 11 #[.slice A zs.length cap] w (DrawnNd 8 w) := by
  have K := Lib.hid (Loc.new w #[.bool false, .slice none 0 0] 26)
  go_enter Try.func11, Try.ntmps11
  go_wp2_with fail
  refine (l1New_any A cap zs _ (h.below (new_below w _)) hz hn).mono ?_
  rintro e w1 ⟨g, rfl, cu, hb, hg⟩
  replace K := Lib.hid (K.out.below hb)
  have hb2 := (new_below w (.cells #[.bool false, .slice none 0 0] 26)).trans (hb.mono (by simp))
  have s0 := hb2.size
  simp at hg
  clear h hz hb
  go_wp2_with fail
  refine (l5Any_any g zs _ cu).mono ?_
  rintro e w2 ⟨b, v, ys, rfl, hl, ho, cu2, G⟩
  obtain ⟨a', c', rfl, -⟩ := OwnS.rd ho
  have s1 := (Lib.hid K.out.1).out
  have K2 : Hid (Loc w2 w.heap.size #[.bool false, .slice none 0 0]) := Lib.hid (K.out.grown G (fun k hk => by cases hk; omega))
  have B := Lib.hid (below_blk hb2 G (by omega) s0)
  have HO := Lib.hid (OwnS.mono (base := w.heap.size + 1) ho s1)
  clear hb2 G ho cu2 cu K
  obtain ⟨-, k0, f0⟩ := K2.out
  go_wp2
  exact bodyPost_ret (v := .agg #[.bool b, .slice a' ys.length c']) (by simp [results, Try.results11, go_sem, k0]) rfl ⟨b, .slice a' ys.length c', ys, rfl, hl, OwnS.mono (L := itLay) (ownS_set2 (ownS_set2 HO.out (by omega) _ _) (by omega) _ _) (by omega), (B.out.setCell (p := ⟨w.heap.size, 0, none⟩) (Nat.le_refl _) _).setCell (p := ⟨w.heap.size, 1, none⟩) (Nat.le_refl _) _⟩

set_option maxHeartbeats 800000 in
set_option maxRecDepth 100000 in
theorem drawBoundOf_any (A : Option Addr) (cap : Nat) (zs : List Int) (w : World) (h : RdI .u8 w A zs.length cap zs) (hz : ∀ z ∈ zs, 0 ≤ z ∧ z ≤ 255) (hn : zs.length ≤ 1048576) :
    Calls Try.prog 13 #[.slice A zs.length cap] w (DrawnNd 8 w) := by
  have K := Lib.hid (Loc.new w #[.bool false, .slice none 0 0] 26)
  go_enter Try.func13, Try.ntmps13
  go_wp2_with fail
  refine (l1New_any A cap zs _ (h.below (new_below w _)) hz hn).mono ?_
  rintro e w1 ⟨g, rfl, cu, hb, hg⟩
  replace K := Lib.hid (K.out.below hb)
  have hb2 := (new_below w (.cells #[.bool false, .slice none 0 0] 26)).trans (hb.mono (by simp))
  have s0 := hb2.size
  simp at hg
  clear h hz hb
  go_wp2_with fail
  refine (l5Any_any g zs _ cu).mono ?_
  rintro e w2 ⟨b, v, ys, rfl, hl, ho, cu2, G⟩
  obtain ⟨a', c', rfl, -⟩ := OwnS.rd ho
  have s1 := (Lib.hid K.out.1).out
  have K2 : Hid (Loc w2 w.heap.size #[.bool false, .slice none 0 0]) := Lib.hid (K.out.grown G (fun k hk => by cases hk; omega))
  have B := Lib.hid (below_blk hb2 G (by omega) s0)
  have HO := Lib.hid (OwnS.mono (base := w.heap.size + 1) ho s1)
  clear hb2 G ho cu2 cu K
  obtain ⟨-, k0, f0⟩ := K2.out
  go_wp2
  exact bodyPost_ret (v := .agg #[.bool b, .slice a' ys.length c']) (by simp [results, Try.results13, go_sem, k0]) rfl ⟨b, .slice a' ys.length c', ys, rfl, hl, OwnS.mono (L := itLay) (ownS_set2 (ownS_set2 HO.out (by omega) _ _) (by omega) _ _) (by omega), (B.out.setCell (p := ⟨w.heap.size, 0, none⟩) (Nat.le_refl _) _).setCell (p := ⟨w.heap.size, 1, none⟩) (Nat.le_refl _) _⟩

set_option maxHeartbeats 800000 in
set_option maxRecDepth 100000 in
theorem drawItemsOf_any (A : Option Addr) (cap : Nat) (zs : List Int) (w : World) (h : RdI .u8 w A zs.length cap zs) (hz : ∀ z ∈ zs, 0 ≤ z ∧ z ≤ 255) (hn : zs.length ≤ 1048576) :
    Calls Try.prog 15 #[.slice A zs.length cap] w (DrawnNd 8 w) := by
  have K := Lib.hid (Loc.new w #[.bool false, .slice none 0 0] 26)
  go_enter Try.func15, Try.ntmps15
  go_wp2_with fail
  refine (l1New_any A cap zs _ (h.below (new_below w _)) hz hn).mono ?_
  rintro e w1 ⟨g, rfl, cu, hb, hg⟩
  replace K := Lib.hid (K.out.below hb)
  have hb2 := (new_below w (.cells #[.bool false, .slice none 0 0] 26)).trans (hb.mono (by simp))
  have s0 := hb2.size
  simp at hg
  clear h hz hb
  go_wp2_with fail
  refine (l5Any_any g zs _ cu).mono ?_
  rintro e w2 ⟨b, v, ys, rfl, hl, ho, cu2, G⟩
  obtain ⟨a', c', rfl, -⟩ := OwnS.rd ho
  have s1 := (Lib.hid K.out.1).out
  have K2 : Hid (Loc w2 w.heap.size #[.bool false, .slice none 0 0]) := Lib.hid (K.out.grown G (fun k hk => by cases hk; omega))
  have B := Lib.hid (below_blk hb2 G (by omega) s0)
  have HO := Lib.hid (OwnS.mono (base := w.heap.size + 1) ho s1)
  clear hb2 G ho cu2 cu K
  obtain ⟨-, k0, f0⟩ := K2.out
  go_wp2
  exact bodyPost_ret (v := .agg #[.bool b, .slice a' ys.length c']) (by simp [results, Try.results15, go_sem, k0]) rfl ⟨b, .slice a' ys.length c', ys, rfl, hl, OwnS.mono (L := itLay) (ownS_set2 (ownS_set2 HO.out (by omega) _ _) (by omega) _ _) (by omega), (B.out.setCell (p := ⟨w.heap.size, 0, none⟩) (Nat.le_refl _) _).setCell (p := ⟨w.heap.size, 1, none⟩) (Nat.le_refl _) _⟩

set_option maxHeartbeats 800000 in
set_option maxRecDepth 100000 in
theorem drawLeafOf_any (A : Option Addr) (cap : Nat) (zs : List Int) (w : World) (h : RdI .u8 w A zs.length cap zs) (hz : ∀ z ∈ zs, 0 ≤ z ∧ z ≤ 255) (hn : zs.length ≤ 1048576) :
    Calls Try.prog 16 #[.slice A zs.length cap] w (DrawnList 6 w) := by
  go_enter Try.func16, Try.ntmps16
  go_wp2_with fail
  refine (l1New_any A cap zs _ h hz hn).mono ?_
  rintro e w1 ⟨g, rfl, cu, hb, hg⟩
  clear h hz
  go_wp2_with fail
  refine (l4List_any g zs 6 _ cu (by omega)).mono ?_
  rintro e w2 ⟨v, ys, rfl, hl, ho, cu2, G⟩
  have HO := Lib.hid ho
  have B := Lib.hid (below_blk hb G hg hb.size)
  have s1 := hb.size
  clear ho G hb
  go_wp2
  go_ret
  exact ⟨v, ys, rfl, hl, OwnS.mono (L := itLay) HO.out s1, B.out⟩

set_option maxHeartbeats 800000 in
set_option maxRecDepth 100000 in
theorem drawEntryAt_any (A : Option Addr) (cap : Nat) (zs : List Int) (w : World) (h : RdI .u8 w A zs.length cap zs) (hz : ∀ z ∈ zs, 0 ≤ z ∧ z ≤ 255) (hn : zs.length ≤ 1048576) :
    Calls Try.prog 14 #[.slice A zs.length cap] w (DrawnEnt 8 w) := by
  go_enter Try.func14, Try.ntmps14
  go_wp2_with fail
  refine (l1New_any A cap zs _ h hz hn).mono ?_
  rintro e w1 ⟨g, rfl, cu, hb, hg⟩
  have hlt := cur_lt cu
  clear h hz
  go_wp2_with fail
  refine (l5Any_any g zs _ cu).mono ?_
  rintro e w2 ⟨b, v, ys, rfl, hl, ho, cu2, G⟩
  obtain ⟨a', c', rfl, -⟩ := OwnS.rd ho
  have HO := Lib.hid ho
  have HG := Lib.hid G
  have hF := fieldN b a' ys.length c'
  have s1 := hb.size
  clear ho G
  go_wp2_with fail
  refine (l1Below_any g zs 32 _ cu2 (by omega)).mono ?_
  rintro e w3 ⟨x, rfl, x0, x1, cu3, g3⟩
  replace HO := Lib.hid (ownS_far HO.out g3 hlt)
  have B := Lib.hid (below_blk hb (grown_trans HG.out g3) hg s1)
  clear g3 hb x0 x1
  go_wp2
  go_ret2
  exact ⟨_, ys, x, rfl, hl, OwnS.mono (L := itLay) HO.out s1, B.out⟩

theorem two_end {m : Nat} {w W : World} {b d : Bool} {v u : Value} {ys xs : List It} (hl : ys.length ≤ m) (hl' : xs.length ≤ m) (HO : OwnS itLay 45 W (w.heap.size + 2) v ys) (HP : OwnS itLay 45 W (w.heap.size + 2) u xs) (B : Below w.heap.size w W) :
    DrawnNds m w (.returned (.tuple #[.agg #[.bool b, v], .agg #[.bool d, u]])) ((((W.setCell ⟨w.heap.size, 0, none⟩ (.bool b)).setCell ⟨w.heap.size, 1, none⟩ v).setCell ⟨w.heap.size + 1, 0, none⟩ (.bool d)).setCell ⟨w.heap.size + 1, 1, none⟩ u) := by
  refine ⟨b, v, ys, d, u, xs, rfl, hl, hl', OwnS.mono (L := itLay) (ownS_set2 (ownS_set2 (ownS_set2 (ownS_set2 HO ?_ _ _) ?_ _ _) ?_ _ _) ?_ _ _) (by omega), OwnS.mono (L := itLay) (ownS_set2 (ownS_set2 (ownS_set2 (ownS_set2 HP ?_ _ _) ?_ _ _) ?_ _ _) ?_ _ _) (by omega), ?_⟩
  any_goals omega
  exact (((B.setCell (p := ⟨w.heap.size, 0, none⟩) (Nat.le_refl _) _).setCell (p := ⟨w.heap.size, 1, none⟩) (Nat.le_refl _) _).setCell (p := ⟨w.heap.size + 1, 0, none⟩) (show w.heap.size ≤ w.heap.size + 1 by omega) _).setCell (p := ⟨w.heap.size + 1, 1, none⟩) (show w.heap.size ≤ w.heap.size + 1 by omega) _

set_option maxHeartbeats 3200000 in
set_option maxRecDepth 100000 in
theorem drawSameNode_any (A : Option Addr) (cap : Nat) (zs : List Int) (w : World) (h : RdI .u8 w A zs.length cap zs) (hz : ∀ z ∈ zs, 0 ≤ z ∧ z ≤ 255) (hn : zs.length ≤ 1048576) :
    Calls Try.prog 12 #[.slice A zs.length cap] w (DrawnNds 8 w) := by
  have B0 := (new_below w (.cells #[.bool false, .slice none 0 0] 26)).alloc (by simp) (.cells #[.bool false, .slice none 0 0] 26)
  have K0 := Lib.hid ((Loc.new w #[.bool false, .slice none 0 0] 26).alloc (.cells #[.bool false, .slice none 0 0] 26))
  have K1 : Hid (Loc ((w.alloc (.cells #[.bool false, .slice none 0 0] 26)).alloc (.cells #[.bool false, .slice none 0 0] 26)) (w.heap.size + 1) #[.bool false, .slice none 0 0]) := by
    have := Loc.new (w.alloc (.cells #[.bool false, .slice none 0 0] 26)) #[.bool false, .slice none 0 0] 26
    rw [show (w.alloc (.cells #[.bool false, .slice none 0 0] 26)).heap.size = w.heap.size + 1 by simp] at this
    exact this
  go_enter Try.func12, Try.ntmps12
  go_wp2_with fail
  refine (l1New_any A cap zs _ (h.below B0) hz hn).mono ?_
  rintro e w1 ⟨g, rfl, cu, hb, hg⟩
  replace K0 := Lib.hid (K0.out.below hb)
  replace K1 := Lib.hid (K1.out.below hb)
  have hb2 := B0.trans (hb.mono (by simp; omega))
  have s0 := hb2.size
  have s1 := (Lib.hid K1.out.1).out
  have hgw := cur_lt cu
  simp at hg
  clear h hz hb B0
  go_wp2_with fail
  refine (l5Any_any g zs _ cu).mono ?_
  rintro e w2 ⟨b, v, ys, rfl, hl, ho, cu2, G⟩
  obtain ⟨a', c', rfl, -⟩ := OwnS.rd ho
  have O2 := (.cells #[.bool b, .slice a' ys.length c'] 26 : Obj)
  have J := Lib.hid (Loc.new w2 #[.bool b, .slice a' ys.length c'] 26)
  replace K0 := Lib.hid ((K0.out.grown G (fun k hk => by cases hk; omega)).alloc (.cells #[.bool b, .slice a' ys.length c'] 26))
  replace K1 := Lib.hid ((K1.out.grown G (fun k hk => by cases hk; omega)).alloc (.cells #[.bool b, .slice a' ys.length c'] 26))
  have B := Lib.hid ((below_blk hb2 G (by omega) s0).alloc (by have := G.size; omega) (.cells #[.bool b, .slice a' ys.length c'] 26))
  have HO := Lib.hid (ho.below (new_below w2 (.cells #[.bool b, .slice a' ys.length c'] 26)))
  have CU := Lib.hid (cur_alloc cu2 (.cells #[.bool b, .slice a' ys.length c'] 26))
  have s2 : w1.heap.size ≤ w2.heap.size := G.size
  have hgq : g < w2.heap.size := cur_lt cu2
  clear hb2 G ho cu2 cu O2
  go_wp2_with fail
  refine (l1Once_any g zs 2 _ CU.out (by omega)).mono ?_
  rintro e w3 ⟨bb, rfl, cu, g3⟩
  replace K0 := Lib.hid (K0.out.grown g3 (fun k hk => by cases hk; omega))
  replace K1 := Lib.hid (K1.out.grown g3 (fun k hk => by cases hk; omega))
  replace J := Lib.hid (J.out.grown g3 (fun k hk => by cases hk; omega))
  replace B := Lib.hid (below_blk B.out g3 (by omega) (B.out.size))
  replace HO := Lib.hid (ownS_far HO.out g3 hgw)
  have s3 := g3.size
  simp at s3
  clear g3 CU
  obtain ⟨-, j0, e0⟩ := J.out
  cases bb with
  | true =>
    have HR := Lib.hid ((rdS_owns HO.out).below (drew_below w3))
    go_wp2_with fail
    go_region_law (refine step_go rfl 48 _ _ rfl #[.agg #[.bool b, .slice a' ys.length c']] (by simp [Act.eval]) (enters_of Try.func48 (by kernel_rfl) rfl) (R := fun v w' => ∃ u, v = .agg #[.bool b, u] ∧ OwnS itLay 45 w' w3.drew.heap.size u ys ∧ Below w3.drew.heap.size w3.drew w') ((l5Copy_any b a' ys.length c' ys _ HR.out (by omega)).mono (fun e w' ⟨u, he, o, bb⟩ => ⟨_, he, u, rfl, o, bb⟩)) ?_; rintro v w4 ⟨u, rfl, o4, b4⟩; obtain ⟨a4, c4, rfl, -⟩ := OwnS.rd o4; have J4 := Lib.hid (J.out.drew.below b4); have j4 := J4.out.2.1; have L0 := Lib.hid (K0.out.drew.below b4); have L1 := Lib.hid (K1.out.drew.below b4); have k0 := L0.out.2.1; have f0 := L0.out.2.2; have k1 := L1.out.2.1; have f1 := L1.out.2.2; have HP := Lib.hid (OwnS.mono (base := w.heap.size + 2) o4 (by show w.heap.size + 2 ≤ w3.heap.size; omega)); have HQ := Lib.hid (OwnS.mono (base := w.heap.size + 2) ((HO.out.below (drew_below w3)).below b4) (by omega)); have B4 := Lib.hid (B.out.trans ((drew_below w3).trans b4 |>.mono B.out.size)); clear o4 b4)
    all_goals
      go_wp2
      exact bodyPost_ret (v := .tuple #[.agg #[.bool b, .slice a' ys.length c'], .agg #[.bool b, .slice a4 ys.length c4]]) (by simp [results, Try.results12, go_sem, k0, k1]) rfl (two_end hl hl HQ.out HP.out B4.out)
  | false =>
    have CU := Lib.hid (cur_drew cu)
    go_wp2_with fail
    go_region_law (refine step_go rfl 46 _ _ rfl #[.pointer (some ⟨g, 0, none⟩)] (by simp [Act.eval, Act.put]) (enters_of Try.func46 (by kernel_rfl) rfl) (R := fun v w' => ∃ d u xs, v = .agg #[.bool d, u] ∧ xs.length ≤ 8 ∧ OwnS itLay 45 w' w3.drew.heap.size u xs ∧ w3.drew.grownBy w' (some g)) ((l5Any_any g zs _ CU.out).mono (fun e w' ⟨d, u, xs, he, hx, o, c, gg⟩ => ⟨_, he, d, u, xs, rfl, hx, o, gg⟩)) ?_; rintro v w4 ⟨d, u, xs, rfl, hx, o4, g4⟩; obtain ⟨a4, c4, rfl, -⟩ := OwnS.rd o4; have J4 := Lib.hid (J.out.drew.grown g4 (fun k hk => by cases hk; omega)); have j4 := J4.out.2.1; have L0 := Lib.hid (K0.out.drew.grown g4 (fun k hk => by cases hk; omega)); have L1 := Lib.hid (K1.out.drew.grown g4 (fun k hk => by cases hk; omega)); have k0 := L0.out.2.1; have f0 := L0.out.2.2; have k1 := L1.out.2.1; have f1 := L1.out.2.2; have HP := Lib.hid (OwnS.mono (base := w.heap.size + 2) o4 (by show w.heap.size + 2 ≤ w3.heap.size; omega)); have HQ := Lib.hid (OwnS.mono (base := w.heap.size + 2) (ownS_far (HO.out.below (drew_below w3)) g4 hgw) (by omega)); have B4 := Lib.hid (below_blk B.out.drew g4 (by omega) B.out.size); clear o4 g4)
    all_goals
      go_wp2
      exact bodyPost_ret (v := .tuple #[.agg #[.bool b, .slice a' ys.length c'], .agg #[.bool d, .slice a4 xs.length c4]]) (by simp [results, Try.results12, go_sem, k0, k1]) rfl (two_end hl hx HQ.out HP.out B4.out)
end Go.Proofs.Ytckdkijhkgicnaa
