/- The exact laws of Put2, Pad and Get2: each walked from its callees' contracts. -/
import Derived.Test.YtpjboijmajlocaaNum
namespace Go.Proofs.Ytpjboijmajlocaa
open Go.RowKit

/-- What the frame tells of a slice that came in. -/
theorem rdI_row {k : IntKind} {w : World} {a : Option Addr} {n c : Nat} {zs : List Int}
    (h : (a = none ∧ n = 0 ∧ c = 0 ∧ zs = []) ∨
      ∃ x, a = some x ∧ n ≤ c ∧ c ≤ maxLen ∧ zs.length = c ∧ (∀ i, i < zs.length → w.cell? (x.add i) = some (.int k (zs.getD i 0))) ∧ ∀ n ∈ zs, (Lit.int k n).wf = true) :
    RdI k w a n c (zs.take n) ∧ ∀ z ∈ zs.take n, (Lit.int k z).wf = true := by
  rcases h with ⟨rfl, rfl, rfl, rfl⟩ | ⟨x, rfl, hl, hm, hz, hc, hw⟩
  · exact ⟨rdI_nil _ _, fun z hz => by simp at hz⟩
  · refine ⟨⟨⟨by simp; omega, hl, hm, fun h => by cases h⟩, fun hn => ?_⟩, fun z hz => hw z (List.mem_of_mem_take hz)⟩
    obtain ⟨b, off, rfl, hb⟩ := ints_at hc (by omega)
    refine ⟨b, off, rfl, fun i hi => ?_⟩
    rw [hb i (by omega)]
    simp [List.getD, hi]

theorem range_bytes {zs : List Int} (h : ∀ z ∈ zs, (Lit.int .u8 z).wf = true) (j : Nat) : 0 ≤ zs.getD j 0 ∧ zs.getD j 0 ≤ 255 := by
  by_cases hj : j < zs.length
  · have := bounds_u8 (h zs[j] (List.getElem_mem hj))
    simpa [List.getD, hj] using this
  · simp [List.getD, hj]

theorem put2_le (zs : List Int) (x : Int) : (put2 zs x).length ≤ zs.length + 2 := by
  unfold put2
  split <;> simp
theorem pad_le (zs : List Int) (x : Int) : (pad zs x).length ≤ zs.length + 64 := by
  unfold pad
  split
  · rw [List.length_append, List.length_replicate]; omega
  · omega

set_option maxHeartbeats 1600000 in
theorem exPut2_walk (a : Option Addr) (n c : Nat) (zs : List Int) (x : Int) (w : World) (h : RdI .u8 w a n c zs) (hx : (Lit.int .i64 x).wf = true) :
    Calls Try.prog 4 #[.slice a n c, .int .i64 x] w fun e w' => e = .returned (.bool true) ∧ Below w.heap.size w w' := by
  have hz := h.1.1
  subst hz
  by_cases hn : zs.length ≤ 1048576
  · obtain ⟨ys, hys⟩ : ∃ ys, ys = put2 zs x := ⟨_, rfl⟩
    have HY := Lib.hid hys
    have hl : ys.length ≤ 2000000 := by rw [hys]; have := put2_le zs x; omega
    clear hys
    go_enter Try.func4, Try.ntmps4
    -- w0
    go_wp2_with fail
    refine (toByteS_any a _ c zs _ h (by omega)).mono ?_
    rintro e w1 ⟨v1, rfl, o1, b1⟩
    obtain ⟨a1, c1, rfl, r1⟩ := o1.rd
    clear o1
    go_wp2_with fail
    refine (sPut2_any a1 _ c1 zs x _ r1 (by omega) hx).mono ?_
    rintro e w2 ⟨v2, rfl, o2, b2⟩
    rw [← HY.out] at o2
    have B2 := b1.trans (b2.mono b1.size)
    obtain ⟨a2, c2, rfl, r2⟩ := o2.rd
    clear b1 b2 r1
    -- x0
    go_wp2_with fail
    refine (toByteS_any a _ c zs _ (h.below B2) (by omega)).mono ?_
    rintro e w3 ⟨v3, rfl, o3, b3⟩
    obtain ⟨a3, c3, rfl, r3⟩ := o3.rd
    have d23 := own_apart o2 o3 (Nat.le_refl _)
    have B3 := B2.trans (b3.mono B2.size)
    replace o2 := o2.below b3
    replace r2 := r2.below b3
    clear b3
    -- g0
    go_wp2_with fail
    refine (put2_any a3 _ c3 zs x _ r3 (by omega) hx).mono ?_
    rintro e w4 ⟨v4, rfl, o4, b4⟩
    rw [← HY.out] at o4
    obtain ⟨a4, c4, rfl, r4⟩ := o4.rd
    have d34 := own_apart o3 o4 (Nat.le_refl _)
    have d24 := own_apart o2 o4 (Nat.le_refl _)
    have B4 := B3.trans (b4.mono B3.size)
    replace o2 := o2.below b4
    replace r2 := r2.below b4
    replace o3 := o3.below b4
    replace r3 := r3.below b4
    clear b4
    go_wp2_with fail
    refine (eqByteS_same a4 a2 ys.length c4 c2 ys _ r4 r2 (by omega)).mono ?_
    rintro e w5 ⟨rfl, b5⟩
    have B5 := B4.trans (b5.mono B4.size)
    replace o2 := o2.below b5
    replace r2 := r2.below b5
    replace o3 := o3.below b5
    replace r3 := r3.below b5
    replace o4 := o4.below b5
    replace r4 := r4.below b5
    clear b5
    -- the argument is as it was
    go_wp2_with fail
    refine (toByteS_any a _ c zs _ (h.below B5) (by omega)).mono ?_
    rintro e w6 ⟨v6, rfl, o6, b6⟩
    obtain ⟨a6, c6, rfl, r6⟩ := o6.rd
    have B6 := B5.trans (b6.mono B5.size)
    replace o2 := o2.below b6
    replace r2 := r2.below b6
    replace o3 := o3.below b6
    replace r3 := r3.below b6
    replace o4 := o4.below b6
    replace r4 := r4.below b6
    clear b6 o6
    go_wp2_with fail
    refine (eqByteS_same a3 a6 _ c3 c6 zs _ r3 r6 (by omega)).mono ?_
    rintro e w7 ⟨rfl, b7⟩
    have B7 := B6.trans (b7.mono B6.size)
    replace o2 := o2.below b7
    replace o3 := o3.below b7
    replace o4 := o4.below b7
    clear b7 r6 r2 r3 r4
    -- x0 marked
    go_wp2_with fail
    refine (markByteS_any a3 _ c3 zs 1 _ _ o3 rfl (by omega) (by omega) (by omega)).mono ?_
    rintro e w8 ⟨rfl, o3', g8⟩
    have B8 := B7.grown g8 B7.size (fun k hk => by have := (o3.lt k hk).1; have := B2.size; omega)
    replace o2 := o2.keptApart g8 d23
    replace o4 := o4.keptApart g8 d34.symm
    clear o3 o3' g8 d23 d34
    have r2 := rdI_owns o2 rfl
    have r4 := rdI_owns o4 rfl
    go_wp2_with fail
    refine (eqByteS_same a4 a2 ys.length c4 c2 ys _ r4 r2 (by omega)).mono ?_
    rintro e w9 ⟨rfl, b9⟩
    have B9 := B8.trans (b9.mono B8.size)
    replace o2 := o2.below b9
    replace o4 := o4.below b9
    clear b9 r2 r4
    -- g0 marked
    go_wp2_with fail
    refine (markByteS_any a4 _ c4 ys 1 _ _ o4 rfl (by omega) (by omega) (by omega)).mono ?_
    rintro e w10 ⟨rfl, o4', g10⟩
    have B10 := B9.grown g10 B9.size (fun k hk => by have := (o4.lt k hk).1; have := B3.size; omega)
    replace o2 := o2.keptApart g10 d24
    clear o4 g10 d24
    have r4 := rdI_owns o4' (gen_length _ _)
    go_wp2_with fail
    refine (heldByteS_any a4 _ c4 1 _ r4 (by omega) (by omega) (by omega)).mono ?_
    rintro e w11 ⟨rfl, rfl⟩
    -- once more
    go_wp2_with fail
    refine (toByteS_any a _ c zs _ (h.below B10) (by omega)).mono ?_
    rintro e w12 ⟨v12, rfl, o12, b12⟩
    obtain ⟨a12, c12, rfl, r12⟩ := o12.rd
    have B12 := B10.trans (b12.mono B10.size)
    replace o2 := o2.below b12
    replace r4 := r4.below b12
    clear b12 o12 o4'
    go_wp2_with fail
    refine (put2_any a12 _ c12 zs x _ r12 (by omega) hx).mono ?_
    rintro e w13 ⟨v13, rfl, o13, b13⟩
    rw [← HY.out] at o13
    obtain ⟨a13, c13, rfl, r13⟩ := o13.rd
    have B13 := B12.trans (b13.mono B12.size)
    replace o2 := o2.below b13
    replace r4 := r4.below b13
    clear b13 o13 r12
    have r2 := rdI_owns o2 rfl
    go_wp2_with fail
    refine (eqByteS_same a13 a2 ys.length c13 c2 ys _ r13 r2 (by omega)).mono ?_
    rintro e w14 ⟨rfl, b14⟩
    have B14 := B13.trans (b14.mono B13.size)
    replace r4 := r4.below b14
    clear b14 r2 r13 o2
    go_wp2_with fail
    refine (heldByteS_any a4 _ c4 1 _ r4 (by omega) (by omega) (by omega)).mono ?_
    rintro e w15 ⟨rfl, rfl⟩
    go_wp2
    go_ret
    exact ⟨rfl, B14⟩
  · go_enter Try.func4, Try.ntmps4
    go_wp2
    go_ret
    exact ⟨rfl, Below.refl _ _⟩

set_option maxHeartbeats 1600000 in
theorem exPad_walk (a : Option Addr) (n c : Nat) (zs : List Int) (x : Int) (w : World) (h : RdI .u8 w a n c zs) (hx : (Lit.int .i64 x).wf = true) :
    Calls Try.prog 6 #[.slice a n c, .int .i64 x] w fun e w' => e = .returned (.bool true) ∧ Below w.heap.size w w' := by
  have hz := h.1.1
  subst hz
  by_cases hn : zs.length ≤ 1048576
  · obtain ⟨ys, hys⟩ : ∃ ys, ys = pad zs x := ⟨_, rfl⟩
    have HY := Lib.hid hys
    have hl : ys.length ≤ 2000000 := by rw [hys]; have := pad_le zs x; omega
    clear hys
    go_enter Try.func6, Try.ntmps6
    -- w0
    go_wp2_with fail
    refine (toByteS_any a _ c zs _ h (by omega)).mono ?_
    rintro e w1 ⟨v1, rfl, o1, b1⟩
    obtain ⟨a1, c1, rfl, r1⟩ := o1.rd
    clear o1
    go_wp2_with fail
    refine (sPad_any a1 _ c1 zs x _ r1 (by omega) hx).mono ?_
    rintro e w2 ⟨v2, rfl, o2, b2⟩
    rw [← HY.out] at o2
    have B2 := b1.trans (b2.mono b1.size)
    obtain ⟨a2, c2, rfl, r2⟩ := o2.rd
    clear b1 b2 r1
    -- x0
    go_wp2_with fail
    refine (toByteS_any a _ c zs _ (h.below B2) (by omega)).mono ?_
    rintro e w3 ⟨v3, rfl, o3, b3⟩
    obtain ⟨a3, c3, rfl, r3⟩ := o3.rd
    have d23 := own_apart o2 o3 (Nat.le_refl _)
    have B3 := B2.trans (b3.mono B2.size)
    replace o2 := o2.below b3
    replace r2 := r2.below b3
    clear b3
    -- g0
    go_wp2_with fail
    refine (pad_any a3 _ c3 zs x _ r3 (by omega) hx).mono ?_
    rintro e w4 ⟨v4, rfl, o4, b4⟩
    rw [← HY.out] at o4
    obtain ⟨a4, c4, rfl, r4⟩ := o4.rd
    have d34 := own_apart o3 o4 (Nat.le_refl _)
    have d24 := own_apart o2 o4 (Nat.le_refl _)
    have B4 := B3.trans (b4.mono B3.size)
    replace o2 := o2.below b4
    replace r2 := r2.below b4
    replace o3 := o3.below b4
    replace r3 := r3.below b4
    clear b4
    go_wp2_with fail
    refine (eqByteS_same a4 a2 ys.length c4 c2 ys _ r4 r2 (by omega)).mono ?_
    rintro e w5 ⟨rfl, b5⟩
    have B5 := B4.trans (b5.mono B4.size)
    replace o2 := o2.below b5
    replace r2 := r2.below b5
    replace o3 := o3.below b5
    replace r3 := r3.below b5
    replace o4 := o4.below b5
    replace r4 := r4.below b5
    clear b5
    -- the argument is as it was
    go_wp2_with fail
    refine (toByteS_any a _ c zs _ (h.below B5) (by omega)).mono ?_
    rintro e w6 ⟨v6, rfl, o6, b6⟩
    obtain ⟨a6, c6, rfl, r6⟩ := o6.rd
    have B6 := B5.trans (b6.mono B5.size)
    replace o2 := o2.below b6
    replace r2 := r2.below b6
    replace o3 := o3.below b6
    replace r3 := r3.below b6
    replace o4 := o4.below b6
    replace r4 := r4.below b6
    clear b6 o6
    go_wp2_with fail
    refine (eqByteS_same a3 a6 _ c3 c6 zs _ r3 r6 (by omega)).mono ?_
    rintro e w7 ⟨rfl, b7⟩
    have B7 := B6.trans (b7.mono B6.size)
    replace o2 := o2.below b7
    replace o3 := o3.below b7
    replace o4 := o4.below b7
    clear b7 r6 r2 r3 r4
    -- x0 marked
    go_wp2_with fail
    refine (markByteS_any a3 _ c3 zs 1 _ _ o3 rfl (by omega) (by omega) (by omega)).mono ?_
    rintro e w8 ⟨rfl, o3', g8⟩
    have B8 := B7.grown g8 B7.size (fun k hk => by have := (o3.lt k hk).1; have := B2.size; omega)
    replace o2 := o2.keptApart g8 d23
    replace o4 := o4.keptApart g8 d34.symm
    clear o3 o3' g8 d23 d34
    have r2 := rdI_owns o2 rfl
    have r4 := rdI_owns o4 rfl
    go_wp2_with fail
    refine (eqByteS_same a4 a2 ys.length c4 c2 ys _ r4 r2 (by omega)).mono ?_
    rintro e w9 ⟨rfl, b9⟩
    have B9 := B8.trans (b9.mono B8.size)
    replace o2 := o2.below b9
    replace o4 := o4.below b9
    clear b9 r2 r4
    -- g0 marked
    go_wp2_with fail
    refine (markByteS_any a4 _ c4 ys 1 _ _ o4 rfl (by omega) (by omega) (by omega)).mono ?_
    rintro e w10 ⟨rfl, o4', g10⟩
    have B10 := B9.grown g10 B9.size (fun k hk => by have := (o4.lt k hk).1; have := B3.size; omega)
    replace o2 := o2.keptApart g10 d24
    clear o4 g10 d24
    have r4 := rdI_owns o4' (gen_length _ _)
    go_wp2_with fail
    refine (heldByteS_any a4 _ c4 1 _ r4 (by omega) (by omega) (by omega)).mono ?_
    rintro e w11 ⟨rfl, rfl⟩
    -- once more
    go_wp2_with fail
    refine (toByteS_any a _ c zs _ (h.below B10) (by omega)).mono ?_
    rintro e w12 ⟨v12, rfl, o12, b12⟩
    obtain ⟨a12, c12, rfl, r12⟩ := o12.rd
    have B12 := B10.trans (b12.mono B10.size)
    replace o2 := o2.below b12
    replace r4 := r4.below b12
    clear b12 o12 o4'
    go_wp2_with fail
    refine (pad_any a12 _ c12 zs x _ r12 (by omega) hx).mono ?_
    rintro e w13 ⟨v13, rfl, o13, b13⟩
    rw [← HY.out] at o13
    obtain ⟨a13, c13, rfl, r13⟩ := o13.rd
    have B13 := B12.trans (b13.mono B12.size)
    replace o2 := o2.below b13
    replace r4 := r4.below b13
    clear b13 o13 r12
    have r2 := rdI_owns o2 rfl
    go_wp2_with fail
    refine (eqByteS_same a13 a2 ys.length c13 c2 ys _ r13 r2 (by omega)).mono ?_
    rintro e w14 ⟨rfl, b14⟩
    have B14 := B13.trans (b14.mono B13.size)
    replace r4 := r4.below b14
    clear b14 r2 r13 o2
    go_wp2_with fail
    refine (heldByteS_any a4 _ c4 1 _ r4 (by omega) (by omega) (by omega)).mono ?_
    rintro e w15 ⟨rfl, rfl⟩
    go_wp2
    go_ret
    exact ⟨rfl, B14⟩
  · go_enter Try.func6, Try.ntmps6
    go_wp2
    go_ret
    exact ⟨rfl, Below.refl _ _⟩


set_option maxHeartbeats 800000 in
theorem exGet2_walk (a : Option Addr) (n c : Nat) (zs : List Int) (x : Int) (w : World) (h : RdI .u8 w a n c zs) (hb : ∀ j, 0 ≤ zs.getD j 0 ∧ zs.getD j 0 ≤ 255) (hx : (Lit.int .i64 x).wf = true) :
    Calls Try.prog 5 #[.slice a n c, .int .i64 x] w fun e w' => e = .returned (.bool true) ∧ Below w.heap.size w w' := by
  have hz := h.1.1
  subst hz
  have HB := Lib.hid hb
  clear hb
  by_cases hn : zs.length ≤ 1048576
  · go_enter Try.func5, Try.ntmps5
    go_wp2_with fail
    refine (toByteS_any a _ c zs _ h (by omega)).mono ?_
    rintro e w1 ⟨v1, rfl, o1, b1⟩
    obtain ⟨a1, c1, rfl, r1⟩ := o1.rd
    clear o1
    go_wp2_with fail
    refine (sGet2_any a1 _ c1 zs x _ r1 HB.out (by omega) hx).mono ?_
    rintro e w2 ⟨rfl, b2⟩
    have B2 := b1.trans (b2.mono b1.size)
    clear b1 b2 r1
    go_wp2_with fail
    refine (toByteS_any a _ c zs _ (h.below B2) (by omega)).mono ?_
    rintro e w3 ⟨v3, rfl, o3, b3⟩
    obtain ⟨a3, c3, rfl, r3⟩ := o3.rd
    have B3 := B2.trans (b3.mono B2.size)
    clear b3 o3
    go_wp2_with fail
    refine (get2_any a3 _ c3 zs x _ r3 HB.out (by omega) hx).mono ?_
    rintro e w4 ⟨rfl, b4⟩
    have B4 := B3.trans (b4.mono B3.size)
    replace r3 := r3.below b4
    clear b4
    go_wp2_with fail
    refine (toByteS_any a _ c zs _ (h.below B4) (by omega)).mono ?_
    rintro e w6 ⟨v6, rfl, o6, b6⟩
    obtain ⟨a6, c6, rfl, r6⟩ := o6.rd
    have B6 := B4.trans (b6.mono B4.size)
    replace r3 := r3.below b6
    clear b6 o6
    go_wp2_with fail
    refine (eqByteS_same a3 a6 _ c3 c6 zs _ r3 r6 (by omega)).mono ?_
    rintro e w7 ⟨rfl, b7⟩
    have B7 := B6.trans (b7.mono B6.size)
    go_wp2
    go_ret
    exact ⟨rfl, B7⟩
  · go_enter Try.func5, Try.ntmps5
    go_wp2
    go_ret
    exact ⟨rfl, Below.refl _ _⟩
end Go.Proofs.Ytpjboijmajlocaa
