/- The exact law of SameItems. -/
import Derived.Test.YtgjbngfcllanmaaSameItemsI
namespace Go.Proofs.Ytgjbngfcllanmaa
open Go.RowKit

set_option maxHeartbeats 800000 in
theorem exSameItems_walk (a a' : Option Addr) (n n' cap cap' : Nat) (xs ys : List It) (w : World) (h : RdS itLay w a n cap xs) (h' : RdS itLay w a' n' cap' ys) :
    Calls Try.prog 9 #[.slice a n cap, .slice a' n' cap'] w fun e w' => e = .returned (.bool true) ∧ Below w.heap.size w w' := by
  have hln := h.1.1
  have hln' := h'.1.1
  subst hln hln'
  have hm : xs.length ≤ maxLen := Nat.le_trans h.1.2.1 h.1.2.2.1
  have hm' : ys.length ≤ maxLen := Nat.le_trans h'.1.2.1 h'.1.2.2.1
  by_cases hn : xs.length ≤ 1048576
  · have hif : (if (1048576 : Int) - xs.length < 0 then (-1 : Int) else 1048576 - xs.length) = 1048576 - xs.length := by rw [if_neg (by omega)]
    go_enter Try.func9, Try.ntmps9
    go_wp2_with fail
    refine (szItemS_any a _ cap 1048576 _ hm (by omega)).mono ?_
    rintro e w0 ⟨rfl, rfl⟩
    rw [hif]
    clear hif
    by_cases hn' : ys.length ≤ 1048576 - xs.length
    · have hif : (if (1048576 - xs.length : Int) - ys.length < 0 then (-1 : Int) else (1048576 - xs.length : Int) - ys.length) = (1048576 - xs.length : Int) - ys.length := by rw [if_neg (by omega)]
      go_wp2_with fail
      refine (szItemS_any a' _ cap' _ _ hm' (by omega)).mono ?_
      rintro e w0 ⟨rfl, rfl⟩
      rw [hif]
      clear hif
      go_wp2_with fail
      refine (toItemS_any a _ cap xs _ h (by omega)).mono ?_
      rintro e w1 ⟨v1, rfl, o1, b1⟩
      obtain ⟨a1, c1, rfl, r1⟩ := o1.rd
      clear o1
      have B := b1
      clear b1
      go_wp2_with fail
      refine (toItemS_any a' _ cap' ys _ (h'.below B) (by omega)).mono ?_
      rintro e w1 ⟨v2, rfl, o2, b2⟩
      obtain ⟨a2, c2, rfl, r2⟩ := o2.rd
      clear o2
      replace r1 := r1.below b2
      replace B := B.trans (b2.mono B.size)
      clear b2
      go_wp2_with fail
      refine (sSameItems_any a1 a2 _ _ c1 c2 xs ys _ r1 r2).mono ?_
      rintro e w3 ⟨rfl, b3⟩
      replace B := B.trans (b3.mono B.size)
      clear r1 r2 b3
      go_wp2_with fail
      refine (toItemS_any a _ cap xs _ (h.below B) (by omega)).mono ?_
      rintro e w1 ⟨v4, rfl, o4, b4⟩
      obtain ⟨a4, c4, rfl, r4⟩ := o4.rd
      clear o4
      replace B := B.trans (b4.mono B.size)
      clear b4
      go_wp2_with fail
      refine (toItemS_any a' _ cap' ys _ (h'.below B) (by omega)).mono ?_
      rintro e w1 ⟨v5, rfl, o5, b5⟩
      obtain ⟨a5, c5, rfl, r5⟩ := o5.rd
      clear o5
      replace r4 := r4.below b5
      replace B := B.trans (b5.mono B.size)
      clear b5
      go_wp2_with fail
      refine (iSameItems_any a4 a5 _ _ c4 c5 xs ys _ r4 r5).mono ?_
      rintro e w6 ⟨rfl, b6⟩
      replace B := B.trans (b6.mono B.size)
      replace r4 := r4.below b6
      replace r5 := r5.below b6
      clear b6
      go_wp2_with fail
      refine (toItemS_any a _ cap xs _ (h.below B) (by omega)).mono ?_
      rintro e w1 ⟨v7, rfl, o7, b7⟩
      obtain ⟨a7, c7, rfl, r7⟩ := o7.rd
      clear o7
      replace r4 := r4.below b7
      replace r5 := r5.below b7
      replace B := B.trans (b7.mono B.size)
      clear b7
      go_wp2_with fail
      refine (eqItemS_same a4 a7 _ c4 c7 xs _ r4 r7 (by omega)).mono ?_
      rintro e w8 ⟨rfl, b8⟩
      replace B := B.trans (b8.mono B.size)
      replace r5 := r5.below b8
      clear b8 r4 r7
      go_wp2_with fail
      refine (toItemS_any a' _ cap' ys _ (h'.below B) (by omega)).mono ?_
      rintro e w1 ⟨v9, rfl, o9, b9⟩
      obtain ⟨a9, c9, rfl, r9⟩ := o9.rd
      clear o9
      replace r5 := r5.below b9
      replace B := B.trans (b9.mono B.size)
      clear b9
      go_wp2_with fail
      refine (eqItemS_same a5 a9 _ c5 c9 ys _ r5 r9 (by omega)).mono ?_
      rintro e w8 ⟨rfl, b8⟩
      go_wp2
      go_ret
      exact ⟨rfl, B.trans (b8.mono B.size)⟩
    · have hif : (if (1048576 - xs.length : Int) - ys.length < 0 then (-1 : Int) else (1048576 - xs.length : Int) - ys.length) = -1 := by rw [if_pos (by omega)]
      go_wp2_with fail
      refine (szItemS_any a' _ cap' _ _ hm' (by omega)).mono ?_
      rintro e w0 ⟨rfl, rfl⟩
      rw [hif]
      clear hif
      go_wp2
      go_ret
      exact ⟨rfl, Below.refl _ _⟩
  · have hif : (if (1048576 : Int) - xs.length < 0 then (-1 : Int) else 1048576 - xs.length) = -1 := by rw [if_pos (by omega)]
    go_enter Try.func9, Try.ntmps9
    go_wp2_with fail
    refine (szItemS_any a _ cap 1048576 _ hm (by omega)).mono ?_
    rintro e w0 ⟨rfl, rfl⟩
    rw [hif]
    clear hif
    go_wp2
    go_ret
    exact ⟨rfl, Below.refl _ _⟩
end Go.Proofs.Ytgjbngfcllanmaa
