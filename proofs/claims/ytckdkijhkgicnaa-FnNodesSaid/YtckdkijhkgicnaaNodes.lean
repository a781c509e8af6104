/- The law FnNodes: validity is what the document says; a leaf has the items that it was made from; the bound holds each rectangle. -/
import Derived.Test.YtckdkijhkgicnaaNodeC
import Derived.Test.YtckdkijhkgicnaaApart
import Derived.Test.YtckdkijhkgicnaaDrawNode5
import Derived.Test.YtckdkijhkgicnaaSameItemsI
import Derived.Test.YtckdkijhkgicnaaJoinsM
import Derived.Test.YtckdkijhkgicnaaBig
import Derived.Deep.DeepCutAuto
namespace Go.Proofs.Ytckdkijhkgicnaa
open Go.RowKit

theorem sBound_is (c : Bool) (a : Option Addr) (n cap : Nat) (xs : List It) (z : Bx) (w : World) (hz : z = joinAll (xs.map boxOf)) (h : RdS itLay w a n cap xs) (hn : n ≤ 1099511627776) :
    Calls Try.prog 22 #[.agg #[.bool c, .slice a n cap]] w fun e w' => e = .returned (.agg #[.int .i64 z.x0, .int .i64 z.y0, .int .i64 z.x1, .int .i64 z.y1]) ∧ Below w.heap.size w w' := by
  subst hz
  exact sBoundOf_any c a n cap xs w h hn
theorem items_is {f : FuncId} (C : CItemsOf f) (b : Bool) (a : Option Addr) (n cap : Nat) (xs ys : List It) (hy : ys = if b then xs else []) (w : World) (h : RdS itLay w a n cap xs) (hn : n ≤ 1099511627776) :
    Calls Try.prog f #[.agg #[.bool b, .slice a n cap]] w (NewItems ys w) := by
  subst hy
  exact C b a n cap xs w h hn
theorem holdsC {z : Bx} {ys : List It} {k : Nat} {x : It} (hz : z = joinAll (ys.map boxOf)) (hx : ys[k]? = some x) : holdsB z.x0 z.y0 z.x1 z.y1 x.x0 x.y0 x.x1 x.y1 = true := by
  rw [holdsB_iff]
  have := joinAll_has (ys.map boxOf) (boxOf x) (List.mem_map_of_mem (List.mem_of_getElem? hx))
  rw [← hz] at this
  exact this
theorem iSame_yes' (a a' : Option Addr) (n n' cap cap' : Nat) (xs : List It) (w : World) (h : RdS itLay w a n cap xs) (h' : RdS itLay w a' n' cap' xs) :
    Calls Try.prog 25 #[.slice a n cap, .slice a' n' cap'] w fun e w' => e = .returned (.bool true) ∧ Below w.heap.size w w' := by
  refine (iSameItems_any a a' n n' cap cap' xs xs w h h').mono fun e w' ⟨he, hw⟩ => ⟨?_, hw⟩
  rw [he, (sameV_iff xs xs).2 rfl]
theorem sameN_yes {f : FuncId} (C : CSameNode f) (c : Bool) (a a' : Option Addr) (n n' cap cap' : Nat) (xs : List It) (w : World) (h : RdS itLay w a n cap xs) (h' : RdS itLay w a' n' cap' xs) :
    Calls Try.prog f #[.agg #[.bool c, .slice a n cap], .agg #[.bool c, .slice a' n' cap']] w fun e w' => e = .returned (.bool true) ∧ Below w.heap.size w w' := by
  refine (C c c a a' n n' cap cap' xs xs w h h').mono fun e w' ⟨he, hw⟩ => ⟨?_, hw⟩
  rw [he, (sameV_iff xs xs).2 rfl]
  simp

set_option maxHeartbeats 16000000 in
set_option maxRecDepth 100000 in
theorem fnNodes_walk (CN : CNodeOk 18) (CS : CSameNode 20) (CB : CBoundOf 17) (CE : CEntryAt 23) (CI : CItemsOf 26) (CL : CLeafOf 28)
    (A : Option Addr) (n cap : Nat) (zs : List Int) (w : World) (h : RdI .u8 w A n cap zs) (hz : ∀ z ∈ zs, 0 ≤ z ∧ z ≤ 255) :
    Calls Try.prog 3 #[.slice A n cap] w fun e w' => e = .returned (.bool true) ∧ Below w.heap.size w w' := by
  have hln := h.1.1
  subst hln
  have HZ := Lib.hid hz
  have HA := Lib.hid h
  replace CN := Lib.hid (fun (b : Bool) (a : Option Addr) (n cap : Nat) (xs : List It) (w : World) (h : RdS itLay w a n cap xs) => CN b a n cap xs w h)
  have SY := Lib.hid (fun (c : Bool) (a a' : Option Addr) (n n' cap cap' : Nat) (xs : List It) (w : World) (h : RdS itLay w a n cap xs) (h' : RdS itLay w a' n' cap' xs) => sameN_yes CS c a a' n n' cap cap' xs w h h')
  replace CS := Lib.hid (fun (c d : Bool) (a a' : Option Addr) (n n' cap cap' : Nat) (xs ys : List It) (w : World) (h : RdS itLay w a n cap xs) (h' : RdS itLay w a' n' cap' ys) => CS c d a a' n n' cap cap' xs ys w h h')
  replace CB := Lib.hid (fun (c : Bool) (a : Option Addr) (n cap : Nat) (xs : List It) (w : World) (h : RdS itLay w a n cap xs) (hn : n ≤ 1099511627776) => CB c a n cap xs w h hn)
  replace CE := Lib.hid (fun (a : Option Addr) (n cap : Nat) (xs : List It) (id : Int) (w : World) (h : RdS itLay w a n cap xs) => CE a n cap xs id w h)
  replace CI := Lib.hid (fun (b : Bool) (a : Option Addr) (n cap : Nat) (xs ys : List It) (hy : ys = if b then xs else []) (w : World) (h : RdS itLay w a n cap xs) (hn : n ≤ 1099511627776) => items_is CI b a n cap xs ys hy w h hn)
  replace CL := Lib.hid (fun (a : Option Addr) (n cap : Nat) (xs : List It) (w : World) (h : RdS itLay w a n cap xs) (hn : n ≤ 1099511627776) => CL a n cap xs w h hn)
  have B := Below.refl w.heap.size w
  clear hz
  by_cases hn : zs.length ≤ 1048576
  · go_enter Try.func3, Try.ntmps3
    go_wp2_with fail
    refine (big_no A _ cap _ hn).mono ?_
    rintro e w1 ⟨rfl, rfl⟩
    go_wp2_with fail
    refine (drawNodeOk_any A cap zs _ (HA.out.below B) HZ.out hn).mono ?_
    rintro e w2 ⟨bN, vN, yN, rfl, lN, o2, b2⟩
    obtain ⟨a2, c2, rfl, -⟩ := o2.rd
    have m2 : ∀ g, (Value.slice a2 yN.length c2).ownBlock = some g → w.heap.size ≤ g := fun g hg => by have := (World.ownsRow.lt o2 g hg).1; have := B.size; omega
    replace B := B.trans (b2.mono B.size)
    clear b2
    have n2N : ∀ g, (Value.slice a2 yN.length c2).ownBlock = some g → g ≠ w2.heap.size := fun g hg => by have := (World.ownsRow.lt o2 g hg).2; omega
    have bb := new_below w2 (.cells #[.bool bN, .slice a2 yN.length c2] 26)
    replace o2 := o2.below bb
    replace B := B.trans (bb.mono B.size)
    clear bb
    have KN := (blk_new w2 #[.bool bN, .slice a2 yN.length c2] 26).1
    have hN : w2.heap.size < (w2.alloc (.cells #[.bool bN, .slice a2 yN.length c2] 26)).heap.size := by simp
    go_wp2_with fail
    refine (drawSameNode_any A cap zs _ (HA.out.below B) HZ.out hn).mono ?_
    rintro e w3 ⟨bP, vP, yP, bQ, vQ, yQ, rfl, lP, lQ, o3, p3, b3⟩
    obtain ⟨a3, c3, rfl, -⟩ := o3.rd
    obtain ⟨e3, d3, rfl, -⟩ := p3.rd
    replace o2 := o2.below b3
    replace KN := keepc b3 hN KN
    replace hN := Nat.lt_of_lt_of_le hN b3.size
    replace B := B.trans (b3.mono B.size)
    clear b3
    have bb := (new_below w3 (.cells #[.bool bP, .slice a3 yP.length c3] 26)).alloc (by simp) (.cells #[.bool bQ, .slice e3 yQ.length d3] 26)
    replace o2 := o2.below bb
    replace o3 := o3.below bb
    replace p3 := p3.below bb
    replace KN := keepc bb hN KN
    replace hN := Nat.lt_of_lt_of_le hN bb.size
    replace B := B.trans (bb.mono B.size)
    clear bb
    have KP := (blk_alloc (.cells #[.bool bQ, .slice e3 yQ.length d3] 26) (by simp) _ _ (blk_new w3 #[.bool bP, .slice a3 yP.length c3] 26)).1
    have hP : w3.heap.size < ((w3.alloc (.cells #[.bool bP, .slice a3 yP.length c3] 26)).alloc (.cells #[.bool bQ, .slice e3 yQ.length d3] 26)).heap.size := by simp; omega
    have KQ := (blk_new1 w3 (.cells #[.bool bP, .slice a3 yP.length c3] 26) #[.bool bQ, .slice e3 yQ.length d3] 26).1
    have hQ : w3.heap.size + 1 < ((w3.alloc (.cells #[.bool bP, .slice a3 yP.length c3] 26)).alloc (.cells #[.bool bQ, .slice e3 yQ.length d3] 26)).heap.size := by simp
    go_wp2_with fail
    refine (drawBoundOf_any A cap zs _ (HA.out.below B) HZ.out hn).mono ?_
    rintro e w4 ⟨bC, vC, yC, rfl, lC, o4, b4⟩
    obtain ⟨a4, c4, rfl, -⟩ := o4.rd
    have do2o4 := ownS_apart o2 o4 (Nat.le_refl _)
    have do3o4 := ownS_apart o3 o4 (Nat.le_refl _)
    have dp3o4 := ownS_apart p3 o4 (Nat.le_refl _)
    have n4N : ∀ g, (Value.slice a4 yC.length c4).ownBlock = some g → g ≠ w2.heap.size := fun g hg => by have := (World.ownsRow.lt o4 g hg).1; have := hN; omega
    have n4P : ∀ g, (Value.slice a4 yC.length c4).ownBlock = some g → g ≠ w3.heap.size := fun g hg => by have := (World.ownsRow.lt o4 g hg).1; have := hP; omega
    have n4Q : ∀ g, (Value.slice a4 yC.length c4).ownBlock = some g → g ≠ w3.heap.size + 1 := fun g hg => by have := (World.ownsRow.lt o4 g hg).1; have := hQ; omega
    have m4 : ∀ g, (Value.slice a4 yC.length c4).ownBlock = some g → w.heap.size ≤ g := fun g hg => by have := (World.ownsRow.lt o4 g hg).1; have := B.size; omega
    replace o2 := o2.below b4
    replace o3 := o3.below b4
    replace p3 := p3.below b4
    replace KN := keepc b4 hN KN
    replace hN := Nat.lt_of_lt_of_le hN b4.size
    replace KP := keepc b4 hP KP
    replace hP := Nat.lt_of_lt_of_le hP b4.size
    replace KQ := keepc b4 hQ KQ
    replace hQ := Nat.lt_of_lt_of_le hQ b4.size
    replace B := B.trans (b4.mono B.size)
    clear b4
    have n2C : ∀ g, (Value.slice a2 yN.length c2).ownBlock = some g → g ≠ w4.heap.size := fun g hg => by have := (World.ownsRow.lt o2 g hg).2; omega
    have n3C : ∀ g, (Value.slice a3 yP.length c3).ownBlock = some g → g ≠ w4.heap.size := fun g hg => by have := (World.ownsRow.lt o3 g hg).2; omega
    have n3C : ∀ g, (Value.slice e3 yQ.length d3).ownBlock = some g → g ≠ w4.heap.size := fun g hg => by have := (World.ownsRow.lt p3 g hg).2; omega
    have n4C : ∀ g, (Value.slice a4 yC.length c4).ownBlock = some g → g ≠ w4.heap.size := fun g hg => by have := (World.ownsRow.lt o4 g hg).2; omega
    have bb := new_below w4 (.cells #[.bool bC, .slice a4 yC.length c4] 26)
    replace o2 := o2.below bb
    replace o3 := o3.below bb
    replace p3 := p3.below bb
    replace o4 := o4.below bb
    replace KN := keepc bb hN KN
    replace hN := Nat.lt_of_lt_of_le hN bb.size
    replace KP := keepc bb hP KP
    replace hP := Nat.lt_of_lt_of_le hP bb.size
    replace KQ := keepc bb hQ KQ
    replace hQ := Nat.lt_of_lt_of_le hQ bb.size
    replace B := B.trans (bb.mono B.size)
    clear bb
    have KC := (blk_new w4 #[.bool bC, .slice a4 yC.length c4] 26).1
    have hC : w4.heap.size < (w4.alloc (.cells #[.bool bC, .slice a4 yC.length c4] 26)).heap.size := by simp
    go_wp2_with fail
    refine (drawEntryAt_any A cap zs _ (HA.out.below B) HZ.out hn).mono ?_
    rintro e w5 ⟨vD, yD, id, rfl, lD, o5, b5⟩
    obtain ⟨a5, c5, rfl, -⟩ := o5.rd
    replace o2 := o2.below b5
    replace o3 := o3.below b5
    replace p3 := p3.below b5
    replace o4 := o4.below b5
    replace KN := keepc b5 hN KN
    replace hN := Nat.lt_of_lt_of_le hN b5.size
    replace KP := keepc b5 hP KP
    replace hP := Nat.lt_of_lt_of_le hP b5.size
    replace KQ := keepc b5 hQ KQ
    replace hQ := Nat.lt_of_lt_of_le hQ b5.size
    replace KC := keepc b5 hC KC
    replace hC := Nat.lt_of_lt_of_le hC b5.size
    replace B := B.trans (b5.mono B.size)
    clear b5
    go_wp2_with fail
    refine (drawItemsOf_any A cap zs _ (HA.out.below B) HZ.out hn).mono ?_
    rintro e w6 ⟨bF, vF, yF, rfl, lF, o6, b6⟩
    obtain ⟨a6, c6, rfl, -⟩ := o6.rd
    have do2o6 := ownS_apart o2 o6 (Nat.le_refl _)
    have do3o6 := ownS_apart o3 o6 (Nat.le_refl _)
    have dp3o6 := ownS_apart p3 o6 (Nat.le_refl _)
    have do4o6 := ownS_apart o4 o6 (Nat.le_refl _)
    have do5o6 := ownS_apart o5 o6 (Nat.le_refl _)
    have n6N : ∀ g, (Value.slice a6 yF.length c6).ownBlock = some g → g ≠ w2.heap.size := fun g hg => by have := (World.ownsRow.lt o6 g hg).1; have := hN; omega
    have n6P : ∀ g, (Value.slice a6 yF.length c6).ownBlock = some g → g ≠ w3.heap.size := fun g hg => by have := (World.ownsRow.lt o6 g hg).1; have := hP; omega
    have n6Q : ∀ g, (Value.slice a6 yF.length c6).ownBlock = some g → g ≠ w3.heap.size + 1 := fun g hg => by have := (World.ownsRow.lt o6 g hg).1; have := hQ; omega
    have n6C : ∀ g, (Value.slice a6 yF.length c6).ownBlock = some g → g ≠ w4.heap.size := fun g hg => by have := (World.ownsRow.lt o6 g hg).1; have := hC; omega
    have m6 : ∀ g, (Value.slice a6 yF.length c6).ownBlock = some g → w.heap.size ≤ g := fun g hg => by have := (World.ownsRow.lt o6 g hg).1; have := B.size; omega
    replace o2 := o2.below b6
    replace o3 := o3.below b6
    replace p3 := p3.below b6
    replace o4 := o4.below b6
    replace o5 := o5.below b6
    replace KN := keepc b6 hN KN
    replace hN := Nat.lt_of_lt_of_le hN b6.size
    replace KP := keepc b6 hP KP
    replace hP := Nat.lt_of_lt_of_le hP b6.size
    replace KQ := keepc b6 hQ KQ
    replace hQ := Nat.lt_of_lt_of_le hQ b6.size
    replace KC := keepc b6 hC KC
    replace hC := Nat.lt_of_lt_of_le hC b6.size
    replace B := B.trans (b6.mono B.size)
    clear b6
    have n2F : ∀ g, (Value.slice a2 yN.length c2).ownBlock = some g → g ≠ w6.heap.size := fun g hg => by have := (World.ownsRow.lt o2 g hg).2; omega
    have n3F : ∀ g, (Value.slice a3 yP.length c3).ownBlock = some g → g ≠ w6.heap.size := fun g hg => by have := (World.ownsRow.lt o3 g hg).2; omega
    have n3F : ∀ g, (Value.slice e3 yQ.length d3).ownBlock = some g → g ≠ w6.heap.size := fun g hg => by have := (World.ownsRow.lt p3 g hg).2; omega
    have n4F : ∀ g, (Value.slice a4 yC.length c4).ownBlock = some g → g ≠ w6.heap.size := fun g hg => by have := (World.ownsRow.lt o4 g hg).2; omega
    have n5F : ∀ g, (Value.slice a5 yD.length c5).ownBlock = some g → g ≠ w6.heap.size := fun g hg => by have := (World.ownsRow.lt o5 g hg).2; omega
    have n6F : ∀ g, (Value.slice a6 yF.length c6).ownBlock = some g → g ≠ w6.heap.size := fun g hg => by have := (World.ownsRow.lt o6 g hg).2; omega
    have bb := new_below w6 (.cells #[.bool bF, .slice a6 yF.length c6] 26)
    replace o2 := o2.below bb
    replace o3 := o3.below bb
    replace p3 := p3.below bb
    replace o4 := o4.below bb
    replace o5 := o5.below bb
    replace o6 := o6.below bb
    replace KN := keepc bb hN KN
    replace hN := Nat.lt_of_lt_of_le hN bb.size
    replace KP := keepc bb hP KP
    replace hP := Nat.lt_of_lt_of_le hP bb.size
    replace KQ := keepc bb hQ KQ
    replace hQ := Nat.lt_of_lt_of_le hQ bb.size
    replace KC := keepc bb hC KC
    replace hC := Nat.lt_of_lt_of_le hC bb.size
    replace B := B.trans (bb.mono B.size)
    clear bb
    have KF := (blk_new w6 #[.bool bF, .slice a6 yF.length c6] 26).1
    have hF : w6.heap.size < (w6.alloc (.cells #[.bool bF, .slice a6 yF.length c6] 26)).heap.size := by simp
    go_wp2_with fail
    refine (drawLeafOf_any A cap zs _ (HA.out.below B) HZ.out hn).mono ?_
    rintro e w7 ⟨vL, yL, rfl, lL, o7, b7⟩
    obtain ⟨a7, c7, rfl, -⟩ := o7.rd
    replace o2 := o2.below b7
    replace o3 := o3.below b7
    replace p3 := p3.below b7
    replace o4 := o4.below b7
    replace o5 := o5.below b7
    replace o6 := o6.below b7
    replace KN := keepc b7 hN KN
    replace hN := Nat.lt_of_lt_of_le hN b7.size
    replace KP := keepc b7 hP KP
    replace hP := Nat.lt_of_lt_of_le hP b7.size
    replace KQ := keepc b7 hQ KQ
    replace hQ := Nat.lt_of_lt_of_le hQ b7.size
    replace KC := keepc b7 hC KC
    replace hC := Nat.lt_of_lt_of_le hC b7.size
    replace KF := keepc b7 hF KF
    replace hF := Nat.lt_of_lt_of_le hF b7.size
    replace B := B.trans (b7.mono B.size)
    clear b7
    obtain ⟨z, hz⟩ : ∃ z, z = joinAll (yC.map boxOf) := ⟨_, rfl⟩
    have HJ := Lib.hid hz
    clear hz
    go_wp2_with fail
    refine (CB.out bC a4 _ c4 yC _ (rdS_owns o4) (by omega)).mono ?_
    rintro e w8 hr
    rw [← HJ.out] at hr
    obtain ⟨rfl, b8⟩ := hr
    replace o2 := o2.below b8
    replace o3 := o3.below b8
    replace p3 := p3.below b8
    replace o4 := o4.below b8
    replace o5 := o5.below b8
    replace o6 := o6.below b8
    replace o7 := o7.below b8
    replace KN := keepc b8 hN KN
    replace hN := Nat.lt_of_lt_of_le hN b8.size
    replace KP := keepc b8 hP KP
    replace hP := Nat.lt_of_lt_of_le hP b8.size
    replace KQ := keepc b8 hQ KQ
    replace hQ := Nat.lt_of_lt_of_le hQ b8.size
    replace KC := keepc b8 hC KC
    replace hC := Nat.lt_of_lt_of_le hC b8.size
    replace KF := keepc b8 hF KF
    replace hF := Nat.lt_of_lt_of_le hF b8.size
    replace B := B.trans (b8.mono B.size)
    clear b8
    have n2Z : ∀ g, (Value.slice a2 yN.length c2).ownBlock = some g → g ≠ w8.heap.size := fun g hg => by have := (World.ownsRow.lt o2 g hg).2; omega
    have n3Z : ∀ g, (Value.slice a3 yP.length c3).ownBlock = some g → g ≠ w8.heap.size := fun g hg => by have := (World.ownsRow.lt o3 g hg).2; omega
    have n3Z : ∀ g, (Value.slice e3 yQ.length d3).ownBlock = some g → g ≠ w8.heap.size := fun g hg => by have := (World.ownsRow.lt p3 g hg).2; omega
    have n4Z : ∀ g, (Value.slice a4 yC.length c4).ownBlock = some g → g ≠ w8.heap.size := fun g hg => by have := (World.ownsRow.lt o4 g hg).2; omega
    have n5Z : ∀ g, (Value.slice a5 yD.length c5).ownBlock = some g → g ≠ w8.heap.size := fun g hg => by have := (World.ownsRow.lt o5 g hg).2; omega
    have n6Z : ∀ g, (Value.slice a6 yF.length c6).ownBlock = some g → g ≠ w8.heap.size := fun g hg => by have := (World.ownsRow.lt o6 g hg).2; omega
    have n7Z : ∀ g, (Value.slice a7 yL.length c7).ownBlock = some g → g ≠ w8.heap.size := fun g hg => by have := (World.ownsRow.lt o7 g hg).2; omega
    have bb := new_below w8 (.cells #[.int .i64 z.x0, .int .i64 z.y0, .int .i64 z.x1, .int .i64 z.y1] 35)
    replace o2 := o2.below bb
    replace o3 := o3.below bb
    replace p3 := p3.below bb
    replace o4 := o4.below bb
    replace o5 := o5.below bb
    replace o6 := o6.below bb
    replace o7 := o7.below bb
    replace KN := keepc bb hN KN
    replace hN := Nat.lt_of_lt_of_le hN bb.size
    replace KP := keepc bb hP KP
    replace hP := Nat.lt_of_lt_of_le hP bb.size
    replace KQ := keepc bb hQ KQ
    replace hQ := Nat.lt_of_lt_of_le hQ bb.size
    replace KC := keepc bb hC KC
    replace hC := Nat.lt_of_lt_of_le hC bb.size
    replace KF := keepc bb hF KF
    replace hF := Nat.lt_of_lt_of_le hF bb.size
    replace B := B.trans (bb.mono B.size)
    clear bb
    have KZ := (blk_new w8 #[.int .i64 z.x0, .int .i64 z.y0, .int .i64 z.x1, .int .i64 z.y1] 35).1
    have hZ : w8.heap.size < (w8.alloc (.cells #[.int .i64 z.x0, .int .i64 z.y0, .int .i64 z.x1, .int .i64 z.y1] 35)).heap.size := by simp
    obtain ⟨yG, hG⟩ : ∃ y, y = if bF then yF else [] := ⟨_, rfl⟩
    have HYG := Lib.hid hG
    clear hG
    go_upto_region 10 with (fail)
    obtain ⟨W9, hW9⟩ : ∃ W, (w8.alloc (.cells #[.int .i64 z.x0, .int .i64 z.y0, .int .i64 z.x1, .int .i64 z.y1] 35)) = W := ⟨_, rfl⟩
    rw [hW9] at o2
    rw [hW9] at o3
    rw [hW9] at p3
    rw [hW9] at o4
    rw [hW9] at o5
    rw [hW9] at o6
    rw [hW9] at o7
    rw [hW9] at KN hN
    rw [hW9] at KP hP
    rw [hW9] at KQ hQ
    rw [hW9] at KC hC
    rw [hW9] at KF hF
    rw [hW9] at KZ hZ
    rw [hW9] at B
    rw [hW9]
    clear hW9
    replace o2 := Lib.hid o2
    replace o3 := Lib.hid o3
    replace p3 := Lib.hid p3
    replace o4 := Lib.hid o4
    replace o5 := Lib.hid o5
    replace o6 := Lib.hid o6
    replace o7 := Lib.hid o7
    have KS := Lib.hid (show ∀ V, Below W9.heap.size W9 V → (fun V => Below W9.heap.size W9 V ∧ V.cell? ⟨w2.heap.size, 0, none⟩ = some (.bool bN) ∧ V.cell? ⟨w2.heap.size, 1, none⟩ = some (.slice a2 yN.length c2) ∧ V.cell? ⟨w3.heap.size, 0, none⟩ = some (.bool bP) ∧ V.cell? ⟨w3.heap.size, 1, none⟩ = some (.slice a3 yP.length c3) ∧ V.cell? ⟨w3.heap.size + 1, 0, none⟩ = some (.bool bQ) ∧ V.cell? ⟨w3.heap.size + 1, 1, none⟩ = some (.slice e3 yQ.length d3) ∧ V.cell? ⟨w4.heap.size, 0, none⟩ = some (.bool bC) ∧ V.cell? ⟨w4.heap.size, 1, none⟩ = some (.slice a4 yC.length c4) ∧ V.cell? ⟨w6.heap.size, 0, none⟩ = some (.bool bF) ∧ V.cell? ⟨w6.heap.size, 1, none⟩ = some (.slice a6 yF.length c6) ∧ V.cell? ⟨w8.heap.size, 0, none⟩ = some (.int .i64 z.x0) ∧ V.cell? ⟨w8.heap.size, 1, none⟩ = some (.int .i64 z.y0) ∧ V.cell? ⟨w8.heap.size, 2, none⟩ = some (.int .i64 z.x1) ∧ V.cell? ⟨w8.heap.size, 3, none⟩ = some (.int .i64 z.y1)) V from fun V b => ⟨b, (b.cell (p := ⟨w2.heap.size, 0, none⟩) hN).trans (KN 0), (b.cell (p := ⟨w2.heap.size, 1, none⟩) hN).trans (KN 1), (b.cell (p := ⟨w3.heap.size, 0, none⟩) hP).trans (KP 0), (b.cell (p := ⟨w3.heap.size, 1, none⟩) hP).trans (KP 1), (b.cell (p := ⟨w3.heap.size + 1, 0, none⟩) hQ).trans (KQ 0), (b.cell (p := ⟨w3.heap.size + 1, 1, none⟩) hQ).trans (KQ 1), (b.cell (p := ⟨w4.heap.size, 0, none⟩) hC).trans (KC 0), (b.cell (p := ⟨w4.heap.size, 1, none⟩) hC).trans (KC 1), (b.cell (p := ⟨w6.heap.size, 0, none⟩) hF).trans (KF 0), (b.cell (p := ⟨w6.heap.size, 1, none⟩) hF).trans (KF 1), (b.cell (p := ⟨w8.heap.size, 0, none⟩) hZ).trans (KZ 0), (b.cell (p := ⟨w8.heap.size, 1, none⟩) hZ).trans (KZ 1), (b.cell (p := ⟨w8.heap.size, 2, none⟩) hZ).trans (KZ 2), (b.cell (p := ⟨w8.heap.size, 3, none⟩) hZ).trans (KZ 3)⟩)
    have KT := Lib.hid (show ∀ V V' : World, Below W9.heap.size W9 V → Below V.heap.size V V' → Below W9.heap.size W9 V' from fun V V' b b' => b.trans (b'.mono b.size))
    replace KN := Lib.hid KN
    replace KP := Lib.hid KP
    replace KQ := Lib.hid KQ
    replace KC := Lib.hid KC
    replace KF := Lib.hid KF
    replace KZ := Lib.hid KZ
    have hne := neBox_run z.x0 z.y0 z.x1 z.y1 z.x0 z.y0 z.x1 z.y1
    rw [boxEq_self] at hne
    simp only [Bool.not_true] at hne
    go_cut [79] (fun s79 V => s79 = .bool false ∧ Below W9.heap.size W9 V)
    case first => as_aux_lemma =>
      go_region_held3 (fun V => Below W9.heap.size W9 V ∧ V.cell? ⟨w2.heap.size, 0, none⟩ = some (.bool bN) ∧ V.cell? ⟨w2.heap.size, 1, none⟩ = some (.slice a2 yN.length c2) ∧ V.cell? ⟨w3.heap.size, 0, none⟩ = some (.bool bP) ∧ V.cell? ⟨w3.heap.size, 1, none⟩ = some (.slice a3 yP.length c3) ∧ V.cell? ⟨w3.heap.size + 1, 0, none⟩ = some (.bool bQ) ∧ V.cell? ⟨w3.heap.size + 1, 1, none⟩ = some (.slice e3 yQ.length d3) ∧ V.cell? ⟨w4.heap.size, 0, none⟩ = some (.bool bC) ∧ V.cell? ⟨w4.heap.size, 1, none⟩ = some (.slice a4 yC.length c4) ∧ V.cell? ⟨w6.heap.size, 0, none⟩ = some (.bool bF) ∧ V.cell? ⟨w6.heap.size, 1, none⟩ = some (.slice a6 yF.length c6) ∧ V.cell? ⟨w8.heap.size, 0, none⟩ = some (.int .i64 z.x0) ∧ V.cell? ⟨w8.heap.size, 1, none⟩ = some (.int .i64 z.y0) ∧ V.cell? ⟨w8.heap.size, 2, none⟩ = some (.int .i64 z.x1) ∧ V.cell? ⟨w8.heap.size, 3, none⟩ = some (.int .i64 z.y1))
        (first | exact KS.out _ (drew_below _) | exact KS.out _ (KT.out _ _ (And.left (by assumption)) hb))
        (first
          | (go_at_call 18; (with_reducible refine (CN.out bN a2 _ c2 yN _ ((rdS_owns o2.out).below (by first | exact drew_below _ | exact And.left (by assumption)))).mono ?_); rintro e wv ⟨rfl, hb⟩)
          | (go_at_call 19; (with_reducible refine (sNodeOk_any bN a2 _ c2 yN _ ((rdS_owns o2.out).below (by first | exact drew_below _ | exact And.left (by assumption)))).mono ?_); rintro e wv ⟨rfl, hb⟩)
          | (go_at_call 20; (with_reducible refine (CS.out bP bQ a3 e3 _ _ c3 d3 yP yQ _ ((rdS_owns o3.out).below (by first | exact drew_below _ | exact And.left (by assumption))) ((rdS_owns p3.out).below (by first | exact drew_below _ | exact And.left (by assumption)))).mono ?_); rintro e wv ⟨rfl, hb⟩)
          | (go_at_call 21; (with_reducible refine (sSameNode_any bP bQ a3 e3 _ _ c3 d3 yP yQ _ ((rdS_owns o3.out).below (by first | exact drew_below _ | exact And.left (by assumption))) ((rdS_owns p3.out).below (by first | exact drew_below _ | exact And.left (by assumption)))).mono ?_); rintro e wv ⟨rfl, hb⟩)
          | (go_at_call 22; (with_reducible refine (sBound_is bC a4 _ c4 yC z _ HJ.out ((rdS_owns o4.out).below (by first | exact drew_below _ | exact And.left (by assumption))) (by omega)).mono ?_); rintro e wv ⟨rfl, hb⟩)
          | (go_at_call 23; (with_reducible refine (CE.out a5 _ c5 yD id _ ((rdS_owns o5.out).below (by first | exact drew_below _ | exact And.left (by assumption)))).mono ?_); rintro e wv ⟨rfl, hb⟩)
          | (go_at_call 24; (with_reducible refine (sEntryAt_any a5 _ c5 yD id _ ((rdS_owns o5.out).below (by first | exact drew_below _ | exact And.left (by assumption)))).mono ?_); rintro e wv ⟨rfl, hb⟩)
          | (go_at_call 26; (with_reducible refine (CI.out bF a6 _ c6 yF yG HYG.out _ ((rdS_owns o6.out).below (by first | exact drew_below _ | exact And.left (by assumption))) (by omega)).mono ?_); rintro e wv ⟨u1, rfl, t1, hb⟩; obtain ⟨x1, n1, rfl, i1⟩ := t1.rd)
          | (go_at_call 27; (with_reducible refine (items_is sItemsOf_any bF a6 _ c6 yF yG HYG.out _ ((rdS_owns o6.out).below (by first | exact drew_below _ | exact And.left (by assumption))) (by omega)).mono ?_); rintro e wv ⟨u2, rfl, t2, hb⟩; obtain ⟨x2, n2, rfl, i2⟩ := t2.rd; try replace i1 := i1.below hb)
          | (go_at_call 25; (with_reducible refine (iSame_yes' x1 x2 _ _ n1 n2 _ _ i1 i2).mono ?_); rintro e wv ⟨rfl, hb⟩)
          | (go_at_call 28; (with_reducible refine (CL.out a7 _ c7 yL _ ((rdS_owns o7.out).below (by first | exact drew_below _ | exact And.left (by assumption))) (by omega)).mono ?_); rintro e wv ⟨u3, rfl, t3, hb⟩; obtain ⟨x3, n3, rfl, i3⟩ := t3.rd)
          | (go_at_call 29; (with_reducible refine (sLeafOf_any a7 _ c7 yL _ ((rdS_owns o7.out).below (by first | exact drew_below _ | exact And.left (by assumption))) (by omega)).mono ?_); rintro e wv ⟨u4, rfl, t4, hb⟩; obtain ⟨x4, n4, rfl, i4⟩ := t4.rd; try replace i3 := i3.below hb)
          | (go_at_call 20; (with_reducible refine (SY.out true x3 x4 _ _ n3 n4 yL _ i3 i4).mono ?_); rintro e wv ⟨rfl, hb⟩))
      all_goals
        rename_i hS
        have hB := hS.1
        clear hS
        go_wp2_with fail
        go_meet
        exact ⟨rfl, hB⟩
    case rest =>
    obtain ⟨rfl, b9⟩ := hcut
    replace o2 := o2.out
    replace o3 := o3.out
    replace p3 := p3.out
    replace o4 := o4.out
    replace o5 := o5.out
    replace o6 := o6.out
    replace o7 := o7.out
    replace KN := KN.out
    replace KP := KP.out
    replace KQ := KQ.out
    replace KC := KC.out
    replace KF := KF.out
    replace KZ := KZ.out
    replace o2 := o2.below b9
    replace o3 := o3.below b9
    replace p3 := p3.below b9
    replace o4 := o4.below b9
    replace o5 := o5.below b9
    replace o6 := o6.below b9
    replace o7 := o7.below b9
    replace KN := keepc b9 hN KN
    replace hN := Nat.lt_of_lt_of_le hN b9.size
    replace KP := keepc b9 hP KP
    replace hP := Nat.lt_of_lt_of_le hP b9.size
    replace KQ := keepc b9 hQ KQ
    replace hQ := Nat.lt_of_lt_of_le hQ b9.size
    replace KC := keepc b9 hC KC
    replace hC := Nat.lt_of_lt_of_le hC b9.size
    replace KF := keepc b9 hF KF
    replace hF := Nat.lt_of_lt_of_le hF b9.size
    replace KZ := keepc b9 hZ KZ
    replace hZ := Nat.lt_of_lt_of_le hZ b9.size
    replace B := B.trans (b9.mono B.size)
    clear b9 KS KT hne
    go_wp2_with fail
    replace o2 := Lib.hid o2
    replace o3 := Lib.hid o3
    replace p3 := Lib.hid p3
    replace o4 := Lib.hid o4
    replace o5 := Lib.hid o5
    replace o6 := Lib.hid o6
    replace o7 := Lib.hid o7
    replace KN := Lib.hid KN
    replace KP := Lib.hid KP
    replace KQ := Lib.hid KQ
    replace KC := Lib.hid KC
    replace KF := Lib.hid KF
    replace KZ := Lib.hid KZ
    go_loopw [12] (fun vi wr => ∃ k : Nat, vi = .int .i64 k ∧ k ≤ yC.length ∧ Below wc.heap.size wc wr) (fun vi _ => yC.length - (intOf vi).toNat)
    case atStart => exact ⟨0, rfl, Nat.zero_le _, Below.refl _ _⟩
    case round =>
      obtain ⟨k, rfl, hk, bk⟩ := hrel
      by_cases hlt : k < yC.length
      · as_aux_lemma =>
        have kC := keepc bk hC KC.out
        have kZ := keepc bk hZ KZ.out
        have c1 := kC 1
        have hrd := Lib.hid (rdS_owns (o4.out.below bk))
        simp at c1
        obtain ⟨p, off, x, e4, hbl, hx, d0, d1, d2, d3, d4⟩ := rdIt_at hrd.out hlt
        have hH := holdsC HJ.out hx
        have CH := iHolds_any z.x0 z.y0 z.x1 z.y1 x.x0 x.y0 x.x1 x.y1
        rw [hH] at CH
        replace CH := Lib.hid CH
        rw [e4] at c1
        have z1 : (k : Int) < (yC.length : Int) := by omega
        clear hrd hx e4 hH kC d0
        have q0 := cellq (kZ 0)
        have q1 := cellq (kZ 1)
        have q2 := cellq (kZ 2)
        have q3 := cellq (kZ 3)
        have r1 := cellq c1
        have t0 := cellq (j := off + k * 5 + 1) d1
        have t1 := cellq (j := off + k * 5 + 1 + 1) d2
        have t2 := cellq (j := off + k * 5 + 1 + 2) d3
        have t3 := cellq (j := off + k * 5 + 1 + 3) d4
        clear d1 d2 d3 d4 kZ
        go_wp2_with fail
        clear c1
        refine wp_region_quiet_below (by kernel_rfl) (by kernel_rfl) ?_
        repeat (go_big_quiet_step (first | (go_at_call 30; with_reducible exact callr (CH.out _))))
        refine wpQuiet_nil (quiet_end fun W hW => ?_)
        clear q0 q1 q2 q3 r1 t0 t1 t2 t3
        go_wp2
        go_roundw
        case rel => exact ⟨k + 1, by go_num, by omega, bk.trans (hW.mono bk.size)⟩
        case measure => simp [intOf]; omega
      · as_aux_lemma =>
        obtain rfl : k = yC.length := by omega
        replace o2 := o2.out
        replace o3 := o3.out
        replace p3 := p3.out
        replace o4 := o4.out
        replace o5 := o5.out
        replace o6 := o6.out
        replace o7 := o7.out
        replace KN := KN.out
        replace KP := KP.out
        replace KQ := KQ.out
        replace KC := KC.out
        replace KF := KF.out
        replace KZ := KZ.out
        replace o2 := o2.below bk
        replace o3 := o3.below bk
        replace p3 := p3.below bk
        replace o4 := o4.below bk
        replace o5 := o5.below bk
        replace o6 := o6.below bk
        replace o7 := o7.below bk
        replace KN := keepc bk hN KN
        replace hN := Nat.lt_of_lt_of_le hN bk.size
        replace KP := keepc bk hP KP
        replace hP := Nat.lt_of_lt_of_le hP bk.size
        replace KQ := keepc bk hQ KQ
        replace hQ := Nat.lt_of_lt_of_le hQ bk.size
        replace KC := keepc bk hC KC
        replace hC := Nat.lt_of_lt_of_le hC bk.size
        replace KF := keepc bk hF KF
        replace hF := Nat.lt_of_lt_of_le hF bk.size
        replace KZ := keepc bk hZ KZ
        replace hZ := Nat.lt_of_lt_of_le hZ bk.size
        replace B := B.trans (bk.mono B.size)
        clear bk
        have c1 := KC 1
        simp at c1
        clear KC hC
        go_wp2_with fail
        refine (SY.out bN a2 a2 _ _ c2 c2 yN _ (rdS_owns o2) (rdS_owns o2)).mono ?_
        rintro e w21 ⟨rfl, b21⟩
        replace o2 := o2.below b21
        replace o3 := o3.below b21
        replace p3 := p3.below b21
        replace o4 := o4.below b21
        replace o5 := o5.below b21
        replace o6 := o6.below b21
        replace o7 := o7.below b21
        replace KN := keepc b21 hN KN
        replace hN := Nat.lt_of_lt_of_le hN b21.size
        replace KP := keepc b21 hP KP
        replace hP := Nat.lt_of_lt_of_le hP b21.size
        replace KQ := keepc b21 hQ KQ
        replace hQ := Nat.lt_of_lt_of_le hQ b21.size
        replace KF := keepc b21 hF KF
        replace hF := Nat.lt_of_lt_of_le hF b21.size
        replace KZ := keepc b21 hZ KZ
        replace hZ := Nat.lt_of_lt_of_le hZ b21.size
        replace B := B.trans (b21.mono B.size)
        clear b21
        go_wp2_with fail
        refine (CL.out a7 _ c7 yL _ (rdS_owns o7) (by omega)).mono ?_
        rintro e w22 ⟨u22, rfl, o22, b22⟩
        obtain ⟨a22, c22, rfl, -⟩ := o22.rd
        replace o2 := o2.below b22
        replace o3 := o3.below b22
        replace p3 := p3.below b22
        replace o4 := o4.below b22
        replace o5 := o5.below b22
        replace o6 := o6.below b22
        replace o7 := o7.below b22
        replace KN := keepc b22 hN KN
        replace hN := Nat.lt_of_lt_of_le hN b22.size
        replace KP := keepc b22 hP KP
        replace hP := Nat.lt_of_lt_of_le hP b22.size
        replace KQ := keepc b22 hQ KQ
        replace hQ := Nat.lt_of_lt_of_le hQ b22.size
        replace KF := keepc b22 hF KF
        replace hF := Nat.lt_of_lt_of_le hF b22.size
        replace KZ := keepc b22 hZ KZ
        replace hZ := Nat.lt_of_lt_of_le hZ b22.size
        replace B := B.trans (b22.mono B.size)
        clear b22
        go_wp2_with fail
        refine (CI.out true a22 _ c22 yL yL rfl _ (rdS_owns o22) (by omega)).mono ?_
        rintro e w23 ⟨u23, rfl, o23, b23⟩
        obtain ⟨a23, c23, rfl, -⟩ := o23.rd
        replace o2 := o2.below b23
        replace o3 := o3.below b23
        replace p3 := p3.below b23
        replace o4 := o4.below b23
        replace o5 := o5.below b23
        replace o6 := o6.below b23
        replace o7 := o7.below b23
        replace KN := keepc b23 hN KN
        replace hN := Nat.lt_of_lt_of_le hN b23.size
        replace KP := keepc b23 hP KP
        replace hP := Nat.lt_of_lt_of_le hP b23.size
        replace KQ := keepc b23 hQ KQ
        replace hQ := Nat.lt_of_lt_of_le hQ b23.size
        replace KF := keepc b23 hF KF
        replace hF := Nat.lt_of_lt_of_le hF b23.size
        replace KZ := keepc b23 hZ KZ
        replace hZ := Nat.lt_of_lt_of_le hZ b23.size
        replace B := B.trans (b23.mono B.size)
        clear b23
        go_wp2_with fail
        refine (iSame_yes' a23 a7 _ _ c23 c7 yL _ (rdS_owns o23) (rdS_owns o7)).mono ?_
        rintro e w24 ⟨rfl, b24⟩
        replace o2 := o2.below b24
        replace o3 := o3.below b24
        replace p3 := p3.below b24
        replace o4 := o4.below b24
        replace o5 := o5.below b24
        replace o6 := o6.below b24
        replace o7 := o7.below b24
        replace KN := keepc b24 hN KN
        replace hN := Nat.lt_of_lt_of_le hN b24.size
        replace KP := keepc b24 hP KP
        replace hP := Nat.lt_of_lt_of_le hP b24.size
        replace KQ := keepc b24 hQ KQ
        replace hQ := Nat.lt_of_lt_of_le hQ b24.size
        replace KF := keepc b24 hF KF
        replace hF := Nat.lt_of_lt_of_le hF b24.size
        replace KZ := keepc b24 hZ KZ
        replace hZ := Nat.lt_of_lt_of_le hZ b24.size
        replace B := B.trans (b24.mono B.size)
        clear b24
        go_wp2
        go_ret
        exact ⟨rfl, B⟩
  · go_enter Try.func3, Try.ntmps3
    go_wp2_with fail
    refine (big_yes A _ cap _ hn (by have := h.1.2.1; have := h.1.2.2.1; omega)).mono ?_
    rintro e w0 ⟨rfl, rfl⟩
    go_wp2
    go_ret
    exact ⟨rfl, Below.refl _ _⟩
end Go.Proofs.Ytckdkijhkgicnaa
