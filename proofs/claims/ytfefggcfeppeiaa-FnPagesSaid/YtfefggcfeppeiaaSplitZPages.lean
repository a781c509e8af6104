/- The model's Split. -/
import Derived.Test.YtfefggcfeppeiaaPartedZPages
namespace Go.Proofs.Ytfefggcfeppeiaa
open Go.RowKit
attribute [local go_sem ↓] Go.wp_at_zero Go.wp_at_succ

/-- Two nodes in new memory, apart. -/
def TwoNodes (lf : Bool) (w : World) (p : List It × List It) (e : Ending) (w' : World) : Prop := ∃ v1 v2, e = .returned (.tuple #[.agg #[.bool lf, v1], .agg #[.bool lf, v2]]) ∧ OwnS itLay 92 w' w.heap.size v1 p.1 ∧ OwnS itLay 92 w' w.heap.size v2 p.2 ∧ Apart v1 v2 ∧ Below w.heap.size w w'

set_option maxRecDepth 100000 in
set_option maxHeartbeats 1600000 in
theorem sSplit_any (lf : Bool) (la : Option Addr) (n cap : Nat) (xs : List It) (w : World) (h : RdS itLay w la n cap xs) (hn : n ≤ 1048576) :
    Calls Try.prog 146 #[.agg #[.bool lf, .slice la n cap]] w (TwoNodes lf w (partedV xs)) := by
  obtain ⟨W0, hW0⟩ : ∃ W0, W0 = ((w.alloc (.cells #[.bool lf, .slice la n cap] 32)).alloc (.cells #[.bool false, .slice none 0 0] 32)).alloc (.cells #[.bool false, .slice none 0 0] 32) := ⟨_, rfl⟩
  have B0 : Below w.heap.size w W0 := by subst hW0; exact (((Below.refl _ _).alloc (Nat.le_refl _) _).alloc (by simp) _).alloc (by simp; omega) _
  have K0 : Loc W0 w.heap.size #[.bool lf, .slice la n cap] := by subst hW0; exact ((Loc.new w _ _).alloc _).alloc _
  have K1 : Loc W0 (w.heap.size + 1) #[.bool false, .slice none 0 0] := by
    subst hW0
    have := (Loc.new (w.alloc (.cells #[.bool lf, .slice la n cap] 32)) #[.bool false, .slice none 0 0] 32).alloc (.cells #[.bool false, .slice none 0 0] 32)
    rw [show (w.alloc (.cells #[.bool lf, .slice la n cap] 32)).heap.size = w.heap.size + 1 by simp] at this
    exact this
  have K2 : Loc W0 (w.heap.size + 1 + 1) #[.bool false, .slice none 0 0] := by
    subst hW0
    have := Loc.new ((w.alloc (.cells #[.bool lf, .slice la n cap] 32)).alloc (.cells #[.bool false, .slice none 0 0] 32)) #[.bool false, .slice none 0 0] 32
    rw [show ((w.alloc (.cells #[.bool lf, .slice la n cap] 32)).alloc (.cells #[.bool false, .slice none 0 0] 32)).heap.size = w.heap.size + 1 + 1 by simp] at this
    exact this
  have C := Lib.hid (sParted_any la n cap xs W0 (h.below B0) hn)
  have s0 : W0.heap.size = w.heap.size + 1 + 1 + 1 := by subst hW0; simp
  have k0 := K0.2.1 0
  have k1 := K0.2.1 1
  simp at k0 k1
  clear h
  go_enter Try.func146, Try.ntmps146
  go_wp2_with fail
  rw [← hW0]
  clear hW0
  refine C.out.mono ?_
  rintro e w1 ⟨v1, v2, rfl, o1, o2, ha, b1⟩
  obtain ⟨a1, c1, rfl, -⟩ := o1.rd
  obtain ⟨a2, c2, rfl, -⟩ := o2.rd
  have HO1 := Lib.hid o1
  have HO2 := Lib.hid o2
  have HA := Lib.hid ha
  have HB := Lib.hid (B0.trans (b1.mono B0.size))
  obtain ⟨-, j0, -⟩ := K0.below b1
  obtain ⟨hs1, m0, f0⟩ := K1.below b1
  obtain ⟨hs2, m1, f1⟩ := K2.below b1
  have i0 := j0 0
  have i1 := j0 1
  simp at i0 i1
  clear o1 o2 ha b1 C K0 K1 K2 k0 k1 B0 j0
  have q01 : w.heap.size ≠ w.heap.size + 1 := by omega
  have q02 : w.heap.size ≠ w.heap.size + 1 + 1 := by omega
  have q12 : w.heap.size + 1 ≠ w.heap.size + 1 + 1 := by omega
  go_wp2_with fail
  go_big_region
  obtain ⟨W2, hW2⟩ : ∃ W2, W2 = (((w1.setCell ⟨w.heap.size + 1, 0, none⟩ (.bool lf)).setCell ⟨w.heap.size + 1, 1, none⟩ (.slice a1 (partedV xs).1.length c1)).setCell ⟨w.heap.size + 1 + 1, 0, none⟩ (.bool lf)).setCell ⟨w.heap.size + 1 + 1, 1, none⟩ (.slice a2 (partedV xs).2.length c2) := ⟨_, rfl⟩
  rw [← hW2]
  have L1 : Loc W2.drew (w.heap.size + 1) #[.bool lf, .slice a1 (partedV xs).1.length c1] := by
    rw [hW2]
    exact ((((Loc.set (cs := #[.bool false, .slice none 0 0]) ⟨hs1, m0, f0⟩ 0 (.bool lf) (by simp)).set 1 (.slice a1 (partedV xs).1.length c1) (by simp)).other 0 _ (Ne.symm q12)).other 1 _ (Ne.symm q12)).drew
  have L2 : Loc W2.drew (w.heap.size + 1 + 1) #[.bool lf, .slice a2 (partedV xs).2.length c2] := by
    rw [hW2]
    exact (((((Loc.other (cs := #[.bool false, .slice none 0 0]) ⟨hs2, m1, f1⟩ 0 (.bool lf) q12).other 1 (.slice a1 (partedV xs).1.length c1) q12)).set 0 (.bool lf) (by simp)).set 1 (.slice a2 (partedV xs).2.length c2) (by simp)).drew
  have P : ∀ (v : Value) (ys : List It), OwnS itLay 92 w1 W0.heap.size v ys → OwnS itLay 92 W2.drew w.heap.size v ys := fun v ys h => by
    rw [hW2]
    exact OwnS.mono (OwnS.below (ownS_set2 (ownS_set2 (ownS_set2 (ownS_set2 h (by omega) _ _) (by omega) _ _) (by omega) _ _) (by omega) _ _) (drew_below _)) (by omega)
  have BB : Below w.heap.size w W2.drew := by
    rw [hW2]
    exact ((((HB.out.setCell (p := ⟨w.heap.size + 1, 0, none⟩) (show w.heap.size ≤ w.heap.size + 1 by omega) _).setCell (p := ⟨w.heap.size + 1, 1, none⟩) (show w.heap.size ≤ w.heap.size + 1 by omega) _).setCell (p := ⟨w.heap.size + 1 + 1, 0, none⟩) (show w.heap.size ≤ w.heap.size + 1 + 1 by omega) _).setCell (p := ⟨w.heap.size + 1 + 1, 1, none⟩) (show w.heap.size ≤ w.heap.size + 1 + 1 by omega) _).drew
  have P1 := Lib.hid (P _ _ HO1.out)
  have P2 := Lib.hid (P _ _ HO2.out)
  have l1 := L1.2.1
  have l2 := L2.2.1
  clear hW2 P m0 m1 f0 f1 HO1 HO2 hs1 hs2 i0 i1
  go_wp2
  refine bodyPost_ret (v := .tuple #[.agg #[.bool lf, .slice a1 (partedV xs).1.length c1], .agg #[.bool lf, .slice a2 (partedV xs).2.length c2]]) (by simp [results, Try.results146, go_sem, l1, l2]) rfl ?_
  exact ⟨_, _, rfl, P1.out, P2.out, HA.out, BB⟩
end Go.Proofs.Ytfefggcfeppeiaa
