/- The exact law of EntryAt. -/
import Derived.Test.YtckdkijhkgicnaaNodeC
namespace Go.Proofs.Ytckdkijhkgicnaa
open Go.RowKit

set_option maxHeartbeats 800000 in
theorem exEntryAt_walk (C : CEntryAt 23) (a : Option Addr) (n cap : Nat) (xs : List It) (id : Int) (w : World) (h : RdS itLay w a n cap xs) :
    Calls Try.prog 7 #[.slice a n cap, .int .i64 id] w fun e w' => e = .returned (.bool true) ∧ Below w.heap.size w w' := by
  replace C := Lib.hid C
  have hln := h.1.1
  subst hln
  have hm : xs.length ≤ maxLen := Nat.le_trans h.1.2.1 h.1.2.2.1
  by_cases hn : xs.length ≤ 1048576
  · have hif : (if (1048576 : Int) - xs.length < 0 then (-1 : Int) else 1048576 - xs.length) = 1048576 - xs.length := by rw [if_neg (by omega)]
    go_enter Try.func7, Try.ntmps7
    go_wp2_with fail
    refine (szEntryS_any a _ cap 1048576 _ hm (by omega)).mono ?_
    rintro e w0 ⟨rfl, rfl⟩
    rw [hif]
    clear hif
    go_wp2_with fail
    refine (toEntryS_any a _ cap xs _ h (by omega)).mono ?_
    rintro e w1 ⟨v1, rfl, o1, b1⟩
    obtain ⟨a1, c1, rfl, r1⟩ := o1.rd
    clear o1
    go_wp2_with fail
    refine (sEntryAt_any a1 _ c1 xs id _ r1).mono ?_
    rintro e w2 ⟨rfl, b2⟩
    have B := b1.trans (b2.mono b1.size)
    clear r1 b1 b2
    go_wp2_with fail
    refine (toEntryS_any a _ cap xs _ (h.below B) (by omega)).mono ?_
    rintro e w3 ⟨v3, rfl, o3, b3⟩
    obtain ⟨a3, c3, rfl, r3⟩ := o3.rd
    replace B := B.trans (b3.mono B.size)
    clear o3 b3
    go_wp2_with fail
    refine (C.out a3 _ c3 xs id _ r3).mono ?_
    rintro e w4 ⟨rfl, b4⟩
    replace B := B.trans (b4.mono B.size)
    replace r3 := r3.below b4
    clear b4
    go_wp2_with fail
    refine (toEntryS_any a _ cap xs _ (h.below B) (by omega)).mono ?_
    rintro e w6 ⟨v6, rfl, o6, b6⟩
    obtain ⟨a6, c6, rfl, r6⟩ := o6.rd
    replace B := B.trans (b6.mono B.size)
    replace r3 := r3.below b6
    clear o6 b6
    go_wp2_with fail
    refine (eqEntryS_same a3 a6 _ c3 c6 xs _ r3 r6 (by omega)).mono ?_
    rintro e w7 ⟨rfl, b7⟩
    go_wp2
    go_ret
    exact ⟨rfl, B.trans (b7.mono B.size)⟩
  · have hif : (if (1048576 : Int) - xs.length < 0 then (-1 : Int) else 1048576 - xs.length) = -1 := by rw [if_pos (by omega)]
    go_enter Try.func7, Try.ntmps7
    go_wp2_with fail
    refine (szEntryS_any a _ cap 1048576 _ hm (by omega)).mono ?_
    rintro e w0 ⟨rfl, rfl⟩
    rw [hif]
    clear hif
    go_wp2
    go_ret
    exact ⟨rfl, Below.refl _ _⟩
end Go.Proofs.Ytckdkijhkgicnaa
