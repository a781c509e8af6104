/- The exact laws of the sorts. -/
import Derived.Test.YtgjbngfcllanmaaItemM
import Derived.Test.YtgjbngfcllanmaaApart
import Derived.Test.YtgjbngfcllanmaaSortI
namespace Go.Proofs.Ytgjbngfcllanmaa
open Go.RowKit

set_option maxHeartbeats 1600000 in
theorem exById_walk (a : Option Addr) (n cap : Nat) (xs : List It) (w : World) (h : RdS itLay w a n cap xs) :
    Calls Try.prog 5 #[.slice a n cap] w fun e w' => e = .returned (.bool true) ∧ Below w.heap.size w w' := by
  have hln := h.1.1
  subst hln
  have hm : xs.length ≤ maxLen := Nat.le_trans h.1.2.1 h.1.2.2.1
  by_cases hn : xs.length ≤ 1048576
  · have hif : (if (1048576 : Int) - xs.length < 0 then (-1 : Int) else 1048576 - xs.length) = 1048576 - xs.length := by rw [if_neg (by omega)]
    obtain ⟨ys, hys⟩ : ∃ ys, ys = sortB ltId xs := ⟨_, rfl⟩
    have HY := Lib.hid hys
    have hl : ys.length ≤ 2000000 := by rw [hys, sortB_len]; omega
    clear hys
    go_enter Try.func5, Try.ntmps5
    go_wp2_with fail
    refine (szItemS_any a _ cap 1048576 _ hm (by omega)).mono ?_
    rintro e w0 ⟨rfl, rfl⟩
    rw [hif]
    clear hif
    go_wp2_with fail
    refine (toItemS_any a _ cap xs _ h (by omega)).mono ?_
    rintro e w1 ⟨v1, rfl, o1, b1⟩
    obtain ⟨a1, c1, rfl, r1⟩ := o1.rd
    clear o1
    go_wp2_with fail
    refine (sById_any a1 _ c1 xs _ r1 (by omega)).mono ?_
    rintro e w2 ⟨v2, rfl, o2, b2⟩
    rw [← HY.out] at o2
    have B2 := b1.trans (b2.mono b1.size)
    obtain ⟨a2, c2, rfl, r2⟩ := o2.rd
    clear b1 b2 r1
    go_wp2_with fail
    refine (toItemS_any a _ cap xs _ (h.below B2) (by omega)).mono ?_
    rintro e w3 ⟨v3, rfl, o3, b3⟩
    obtain ⟨a3, c3, rfl, r3⟩ := o3.rd
    have d23 := ownS_apart o2 o3 (Nat.le_refl _)
    have B3 := B2.trans (b3.mono B2.size)
    replace o2 := o2.below b3
    replace r2 := r2.below b3
    clear b3
    go_wp2_with fail
    refine (iById_any a3 _ c3 xs _ r3 (by omega)).mono ?_
    rintro e w4 ⟨v4, rfl, o4, b4⟩
    rw [← HY.out] at o4
    obtain ⟨a4, c4, rfl, r4⟩ := o4.rd
    have d34 := ownS_apart o3 o4 (Nat.le_refl _)
    have d24 := ownS_apart o2 o4 (Nat.le_refl _)
    have B4 := B3.trans (b4.mono B3.size)
    replace o2 := o2.below b4
    replace r2 := r2.below b4
    replace o3 := o3.below b4
    replace r3 := r3.below b4
    clear b4
    go_wp2_with fail
    refine (eqItemS_same a4 a2 ys.length c4 c2 ys _ r4 r2 (by omega)).mono ?_
    rintro e w5 ⟨rfl, b5⟩
    have B5 := B4.trans (b5.mono B4.size)
    replace o2 := o2.below b5
    replace r2 := r2.below b5
    replace o3 := o3.below b5
    replace r3 := r3.below b5
    replace o4 := o4.below b5
    replace r4 := r4.below b5
    clear b5
    go_wp2_with fail
    refine (toItemS_any a _ cap xs _ (h.below B5) (by omega)).mono ?_
    rintro e w6 ⟨v6, rfl, o6, b6⟩
    obtain ⟨a6, c6, rfl, r6⟩ := o6.rd
    have B6 := B5.trans (b6.mono B5.size)
    replace o2 := o2.below b6
    replace r2 := r2.below b6
    replace o3 := o3.below b6
    replace r3 := r3.below b6
    replace o4 := o4.below b6
    replace r4 := r4.below b6
    clear b6 o6
    go_wp2_with fail
    refine (eqItemS_same a3 a6 _ c3 c6 xs _ r3 r6 (by omega)).mono ?_
    rintro e w7 ⟨rfl, b7⟩
    have B7 := B6.trans (b7.mono B6.size)
    replace o2 := o2.below b7
    replace o3 := o3.below b7
    replace o4 := o4.below b7
    clear b7 r6 r2 r3 r4
    go_wp2_with fail
    refine (markItemS_any a3 _ c3 xs 1 _ _ o3 rfl (by omega) (by omega) (by omega)).mono ?_
    rintro e w8 ⟨rfl, o3', g8⟩
    have B8 := B7.grown g8 B7.size (fun k hk => by have := (o3.lt k hk).1; have := B2.size; omega)
    replace o2 := o2.keptApart g8 d23
    replace o4 := o4.keptApart g8 d34.symm
    clear o3 o3' g8 d23 d34
    have r2 := rdS_owns o2
    have r4 := rdS_owns o4
    go_wp2_with fail
    refine (eqItemS_same a4 a2 ys.length c4 c2 ys _ r4 r2 (by omega)).mono ?_
    rintro e w9 ⟨rfl, b9⟩
    have B9 := B8.trans (b9.mono B8.size)
    replace o2 := o2.below b9
    replace o4 := o4.below b9
    clear b9 r2 r4
    go_wp2_with fail
    refine (markItemS_any a4 _ c4 ys 1 _ _ o4 rfl (by omega) (by omega) (by omega)).mono ?_
    rintro e w10 ⟨rfl, o4', g10⟩
    have B10 := B9.grown g10 B9.size (fun k hk => by have := (o4.lt k hk).1; have := B3.size; omega)
    replace o2 := o2.keptApart g10 d24
    clear o4 g10 d24
    have r4 := rdS_owns' o4' (markedI_len _ _)
    go_wp2_with fail
    refine (heldItemS_any a4 _ c4 1 _ r4 (by omega) (by omega) (by omega)).mono ?_
    rintro e w11 ⟨rfl, rfl⟩
    go_wp2_with fail
    refine (toItemS_any a _ cap xs _ (h.below B10) (by omega)).mono ?_
    rintro e w12 ⟨v12, rfl, o12, b12⟩
    obtain ⟨a12, c12, rfl, r12⟩ := o12.rd
    have B12 := B10.trans (b12.mono B10.size)
    replace o2 := o2.below b12
    replace r4 := r4.below b12
    clear b12 o12 o4'
    go_wp2_with fail
    refine (iById_any a12 _ c12 xs _ r12 (by omega)).mono ?_
    rintro e w13 ⟨v13, rfl, o13, b13⟩
    rw [← HY.out] at o13
    obtain ⟨a13, c13, rfl, r13⟩ := o13.rd
    have B13 := B12.trans (b13.mono B12.size)
    replace o2 := o2.below b13
    replace r4 := r4.below b13
    clear b13 o13 r12
    have r2 := rdS_owns o2
    go_wp2_with fail
    refine (eqItemS_same a13 a2 ys.length c13 c2 ys _ r13 r2 (by omega)).mono ?_
    rintro e w14 ⟨rfl, b14⟩
    have B14 := B13.trans (b14.mono B13.size)
    replace r4 := r4.below b14
    clear b14 r2 r13 o2
    go_wp2_with fail
    refine (heldItemS_any a4 _ c4 1 _ r4 (by omega) (by omega) (by omega)).mono ?_
    rintro e w15 ⟨rfl, rfl⟩
    go_wp2
    go_ret
    exact ⟨rfl, B14⟩
  · have hif : (if (1048576 : Int) - xs.length < 0 then (-1 : Int) else 1048576 - xs.length) = -1 := by rw [if_pos (by omega)]
    go_enter Try.func5, Try.ntmps5
    go_wp2_with fail
    refine (szItemS_any a _ cap 1048576 _ hm (by omega)).mono ?_
    rintro e w0 ⟨rfl, rfl⟩
    rw [hif]
    clear hif
    go_wp2
    go_ret
    exact ⟨rfl, Below.refl _ _⟩

set_option maxHeartbeats 1600000 in
theorem exByKey_walk (a : Option Addr) (n cap : Nat) (xs : List It) (w : World) (h : RdS itLay w a n cap xs) :
    Calls Try.prog 6 #[.slice a n cap] w fun e w' => e = .returned (.bool true) ∧ Below w.heap.size w w' := by
  have hln := h.1.1
  subst hln
  have hm : xs.length ≤ maxLen := Nat.le_trans h.1.2.1 h.1.2.2.1
  by_cases hn : xs.length ≤ 1048576
  · have hif : (if (1048576 : Int) - xs.length < 0 then (-1 : Int) else 1048576 - xs.length) = 1048576 - xs.length := by rw [if_neg (by omega)]
    obtain ⟨ys, hys⟩ : ∃ ys, ys = sortB ltKey xs := ⟨_, rfl⟩
    have HY := Lib.hid hys
    have hl : ys.length ≤ 2000000 := by rw [hys, sortB_len]; omega
    clear hys
    go_enter Try.func6, Try.ntmps6
    go_wp2_with fail
    refine (szItemS_any a _ cap 1048576 _ hm (by omega)).mono ?_
    rintro e w0 ⟨rfl, rfl⟩
    rw [hif]
    clear hif
    go_wp2_with fail
    refine (toItemS_any a _ cap xs _ h (by omega)).mono ?_
    rintro e w1 ⟨v1, rfl, o1, b1⟩
    obtain ⟨a1, c1, rfl, r1⟩ := o1.rd
    clear o1
    go_wp2_with fail
    refine (sByKey_any a1 _ c1 xs _ r1 (by omega)).mono ?_
    rintro e w2 ⟨v2, rfl, o2, b2⟩
    rw [← HY.out] at o2
    have B2 := b1.trans (b2.mono b1.size)
    obtain ⟨a2, c2, rfl, r2⟩ := o2.rd
    clear b1 b2 r1
    go_wp2_with fail
    refine (toItemS_any a _ cap xs _ (h.below B2) (by omega)).mono ?_
    rintro e w3 ⟨v3, rfl, o3, b3⟩
    obtain ⟨a3, c3, rfl, r3⟩ := o3.rd
    have d23 := ownS_apart o2 o3 (Nat.le_refl _)
    have B3 := B2.trans (b3.mono B2.size)
    replace o2 := o2.below b3
    replace r2 := r2.below b3
    clear b3
    go_wp2_with fail
    refine (iByKey_any a3 _ c3 xs _ r3 (by omega)).mono ?_
    rintro e w4 ⟨v4, rfl, o4, b4⟩
    rw [← HY.out] at o4
    obtain ⟨a4, c4, rfl, r4⟩ := o4.rd
    have d34 := ownS_apart o3 o4 (Nat.le_refl _)
    have d24 := ownS_apart o2 o4 (Nat.le_refl _)
    have B4 := B3.trans (b4.mono B3.size)
    replace o2 := o2.below b4
    replace r2 := r2.below b4
    replace o3 := o3.below b4
    replace r3 := r3.below b4
    clear b4
    go_wp2_with fail
    refine (eqItemS_same a4 a2 ys.length c4 c2 ys _ r4 r2 (by omega)).mono ?_
    rintro e w5 ⟨rfl, b5⟩
    have B5 := B4.trans (b5.mono B4.size)
    replace o2 := o2.below b5
    replace r2 := r2.below b5
    replace o3 := o3.below b5
    replace r3 := r3.below b5
    replace o4 := o4.below b5
    replace r4 := r4.below b5
    clear b5
    go_wp2_with fail
    refine (toItemS_any a _ cap xs _ (h.below B5) (by omega)).mono ?_
    rintro e w6 ⟨v6, rfl, o6, b6⟩
    obtain ⟨a6, c6, rfl, r6⟩ := o6.rd
    have B6 := B5.trans (b6.mono B5.size)
    replace o2 := o2.below b6
    replace r2 := r2.below b6
    replace o3 := o3.below b6
    replace r3 := r3.below b6
    replace o4 := o4.below b6
    replace r4 := r4.below b6
    clear b6 o6
    go_wp2_with fail
    refine (eqItemS_same a3 a6 _ c3 c6 xs _ r3 r6 (by omega)).mono ?_
    rintro e w7 ⟨rfl, b7⟩
    have B7 := B6.trans (b7.mono B6.size)
    replace o2 := o2.below b7
    replace o3 := o3.below b7
    replace o4 := o4.below b7
    clear b7 r6 r2 r3 r4
    go_wp2_with fail
    refine (markItemS_any a3 _ c3 xs 1 _ _ o3 rfl (by omega) (by omega) (by omega)).mono ?_
    rintro e w8 ⟨rfl, o3', g8⟩
    have B8 := B7.grown g8 B7.size (fun k hk => by have := (o3.lt k hk).1; have := B2.size; omega)
    replace o2 := o2.keptApart g8 d23
    replace o4 := o4.keptApart g8 d34.symm
    clear o3 o3' g8 d23 d34
    have r2 := rdS_owns o2
    have r4 := rdS_owns o4
    go_wp2_with fail
    refine (eqItemS_same a4 a2 ys.length c4 c2 ys _ r4 r2 (by omega)).mono ?_
    rintro e w9 ⟨rfl, b9⟩
    have B9 := B8.trans (b9.mono B8.size)
    replace o2 := o2.below b9
    replace o4 := o4.below b9
    clear b9 r2 r4
    go_wp2_with fail
    refine (markItemS_any a4 _ c4 ys 1 _ _ o4 rfl (by omega) (by omega) (by omega)).mono ?_
    rintro e w10 ⟨rfl, o4', g10⟩
    have B10 := B9.grown g10 B9.size (fun k hk => by have := (o4.lt k hk).1; have := B3.size; omega)
    replace o2 := o2.keptApart g10 d24
    clear o4 g10 d24
    have r4 := rdS_owns' o4' (markedI_len _ _)
    go_wp2_with fail
    refine (heldItemS_any a4 _ c4 1 _ r4 (by omega) (by omega) (by omega)).mono ?_
    rintro e w11 ⟨rfl, rfl⟩
    go_wp2_with fail
    refine (toItemS_any a _ cap xs _ (h.below B10) (by omega)).mono ?_
    rintro e w12 ⟨v12, rfl, o12, b12⟩
    obtain ⟨a12, c12, rfl, r12⟩ := o12.rd
    have B12 := B10.trans (b12.mono B10.size)
    replace o2 := o2.below b12
    replace r4 := r4.below b12
    clear b12 o12 o4'
    go_wp2_with fail
    refine (iByKey_any a12 _ c12 xs _ r12 (by omega)).mono ?_
    rintro e w13 ⟨v13, rfl, o13, b13⟩
    rw [← HY.out] at o13
    obtain ⟨a13, c13, rfl, r13⟩ := o13.rd
    have B13 := B12.trans (b13.mono B12.size)
    replace o2 := o2.below b13
    replace r4 := r4.below b13
    clear b13 o13 r12
    have r2 := rdS_owns o2
    go_wp2_with fail
    refine (eqItemS_same a13 a2 ys.length c13 c2 ys _ r13 r2 (by omega)).mono ?_
    rintro e w14 ⟨rfl, b14⟩
    have B14 := B13.trans (b14.mono B13.size)
    replace r4 := r4.below b14
    clear b14 r2 r13 o2
    go_wp2_with fail
    refine (heldItemS_any a4 _ c4 1 _ r4 (by omega) (by omega) (by omega)).mono ?_
    rintro e w15 ⟨rfl, rfl⟩
    go_wp2
    go_ret
    exact ⟨rfl, B14⟩
  · have hif : (if (1048576 : Int) - xs.length < 0 then (-1 : Int) else 1048576 - xs.length) = -1 := by rw [if_pos (by omega)]
    go_enter Try.func6, Try.ntmps6
    go_wp2_with fail
    refine (szItemS_any a _ cap 1048576 _ hm (by omega)).mono ?_
    rintro e w0 ⟨rfl, rfl⟩
    rw [hif]
    clear hif
    go_wp2
    go_ret
    exact ⟨rfl, Below.refl _ _⟩

end Go.Proofs.Ytgjbngfcllanmaa
