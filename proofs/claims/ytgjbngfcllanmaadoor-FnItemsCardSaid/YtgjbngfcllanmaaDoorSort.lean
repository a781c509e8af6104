/- The model's sorts: insertion, behind all that aren't larger. -/
import Derived.Test.YtgjbngfcllanmaaDoorInto
import Derived.BigQuiet
namespace Go.Proofs.YtgjbngfcllanmaaDoor
open Go.RowKit

/-- Where an element goes, from k down. -/
def cutAt (lt : It → It → Bool) (x : It) (ys : List It) : Nat → Nat
  | 0 => 0
  | k + 1 => if lt x (ys.getD k zeroIt) then cutAt lt x ys k else k + 1
def insB (lt : It → It → Bool) (x : It) (ys : List It) : List It := ys.take (cutAt lt x ys ys.length) ++ x :: ys.drop (cutAt lt x ys ys.length)
def sortB (lt : It → It → Bool) (xs : List It) : List It := xs.foldl (fun ys x => insB lt x ys) []
theorem cutAt_le (lt : It → It → Bool) (x : It) (ys : List It) : ∀ k, cutAt lt x ys k ≤ k
  | 0 => Nat.le_refl _
  | k + 1 => by unfold cutAt; split; exact Nat.le_succ_of_le (cutAt_le lt x ys k); exact Nat.le_refl _
theorem insB_len (lt : It → It → Bool) (x : It) (ys : List It) : (insB lt x ys).length = ys.length + 1 := by
  have := cutAt_le lt x ys ys.length
  unfold insB
  rw [List.length_append, List.length_cons, List.length_take, List.length_drop]
  omega
theorem sortB_snoc (lt : It → It → Bool) (xs : List It) (i : Nat) (x : It) (h : xs[i]? = some x) : sortB lt (xs.take (i + 1)) = insB lt x (sortB lt (xs.take i)) := by
  unfold sortB
  rw [List.take_add_one, h]
  simp
theorem sortB_len (lt : It → It → Bool) (xs : List It) : (sortB lt xs).length = xs.length := by
  have h : ∀ (xs ys : List It), (xs.foldl (fun ys x => insB lt x ys) ys).length = ys.length + xs.length := by
    intro xs
    induction xs with
    | nil => intro ys; rfl
    | cons x l ih => intro ys; rw [List.foldl_cons, ih, insB_len, List.length_cons]; omega
  simpa [sortB] using h xs []
theorem cutAt_yes {lt : It → It → Bool} {x y : It} {ys : List It} {j : Nat} (h : ys.getD j zeroIt = y) (hl : lt x y = true) : cutAt lt x ys (j + 1) = cutAt lt x ys j := by
  show (if lt x (ys.getD j zeroIt) = true then _ else _) = _
  rw [h, if_pos hl]
theorem cutAt_no {lt : It → It → Bool} {x y : It} {ys : List It} {j : Nat} (h : ys.getD j zeroIt = y) (hl : lt x y = false) : cutAt lt x ys (j + 1) = j + 1 := by
  show (if lt x (ys.getD j zeroIt) = true then _ else _) = _
  rw [h, hl]; rfl
theorem insB_at (lt : It → It → Bool) (x : It) (ys : List It) (i j : Nat) (hy : ys.length = i) (h : cutAt lt x ys i = j) : insB lt x ys = ys.take j ++ x :: ys.drop j := by
  subst hy; unfold insB; rw [h]
def ltKey (a b : It) : Bool := aheadV (keyV a.x0 a.y0 a.x1 a.y1) a.id (keyV b.x0 b.y0 b.x1 b.y1) b.id
def ltId (a b : It) : Bool := decide (a.id < b.id)

set_option maxHeartbeats 3200000 in
set_option maxRecDepth 100000 in
theorem sById_any (a : Option Addr) (n cap : Nat) (xs : List It) (w : World) (h : RdS itLay w a n cap xs) (hn : n ≤ 1099511627776) :
    Calls Tryd.prog 17 #[.slice a n cap] w (NewItems (sortB ltId xs) w) := by
  have hm := h.1.2.2.1
  have hnc := h.1.2.1
  unfold maxLen at hm
  have HR := Lib.hid h
  have HL := Lib.hid h.1.1
  clear h
  have O0 := Lib.hid (own_nil w 30 5 w.heap.size w.heap.size rfl (Nat.le_refl _))
  go_enter Tryd.func17, Tryd.ntmps17
  go_wp2
  go_loopw [3, 4] (fun v i wr => ∃ k : Nat, k ≤ n ∧ i = .int .i64 k ∧ OwnS itLay 30 wr w.heap.size v (sortB ltId (xs.take k)) ∧ Below w.heap.size w wr) (fun _ i _ => n - (intOf i).toNat)
  case atStart => exact ⟨0, Nat.zero_le _, rfl, O0.out, new_below w _⟩
  case round =>
    obtain ⟨i, hi, rfl, ho, hB⟩ := hrel
    have hys : (sortB ltId (xs.take i)).length = i := by rw [sortB_len, List.length_take, HL.out]; omega
    by_cases hlt : i < n
    · obtain ⟨ya, yc, rfl, hy⟩ := OwnS.rd ho
      obtain ⟨b, off, x, rfl, hbl, hx, -, -, -, -, -⟩ := rdIt_at HR.out hlt
      have hsn := Lib.hid (sortB_snoc ltId xs i x hx)
      generalize hY : sortB ltId (xs.take i) = ys at *
      subst hys
      have HY := Lib.hid hy
      have HX := Lib.hid hx
      have hyc := hy.1.2.1
      have hyc2 := hy.1.2.2.1
      unfold maxLen at hyc2
      clear hy ho hx hY
      have z0 : (0 : Int) ≤ ys.length := by omega
      have z1 : (ys.length : Int) < n := by omega
      go_wp2_with fail
      go_loopw [5] (fun k w2 => ∃ j : Nat, j ≤ ys.length ∧ k = .int .i64 j ∧ cutAt ltId x ys ys.length = cutAt ltId x ys j ∧ Below wr.heap.size wr w2) (fun k _ => (intOf k).toNat)
      case atStart => exact ⟨ys.length, Nat.le_refl _, rfl, rfl, Below.refl _ _⟩
      case round =>
        obtain ⟨j, hj, rfl, hc, hB2⟩ := hrel
        have hB3 := hB.trans (hB2.mono hB.size)
        obtain ⟨b', off', x', e', _, hx', d0, d1, d2, d3, d4⟩ := rdIt_at (HR.out.below hB3) hlt
        obtain ⟨rfl, rfl⟩ : b = b' ∧ off = off' := by simpa using e'
        obtain rfl : x = x' := by rw [HX.out] at hx'; simpa using hx'
        clear hx' e'
        have HC := Lib.hid hc
        have HY2 := Lib.hid (HY.out.below hB2)
        clear hc
        cases j with
        | zero =>
          have HC' : Hid (cutAt ltId x ys ys.length = 0) := HC.out
          go_wp2_with fail
          go_quiet (fail)
          go_wp2_with fail
          have HY2 := Lib.hid (HY2.out.below (drewN_below _ nq))
          replace hB3 := hB3.trans ((drewN_below _ nq).mono hB3.size)
          refine (l4Into_any _ _ _ _ _ _ _ HY2.out (by omega) (by omega)).mono ?_
          rintro e w3 ⟨v3, rfl, ho3, hB3'⟩
          go_wp2
          go_roundw
          case rel =>
            refine ⟨ys.length + 1, by omega, by go_num, ?_, hB3.trans (hB3'.mono hB3.size)⟩
            rw [hsn.out, insB_at _ _ _ _ _ rfl HC'.out]
            exact OwnS.mono (L := itLay) ho3 hB3.size
          case measure => simp [intOf]; omega

        | succ j =>
          obtain ⟨g, og, y, rfl, hgl, hyj, p0, p1, p2, p3, p4⟩ := rdIt_at HY2.out (i := j) (by omega)
          have hgd : ys.getD j zeroIt = y := by simp [List.getD, hyj]
          have y0 : (0 : Int) ≤ j := by omega
          have y1 : (j : Int) < ys.length := by omega
          by_cases hlt2 : x.id < y.id
          · have hn' : cutAt ltId x ys (j + 1) = cutAt ltId x ys j := cutAt_yes hgd (decide_eq_true hlt2)
            have HC2 := Lib.hid (HC.out.trans hn')
            clear hn' HC hgd
            go_wp2_with fail
            go_quiet (fail)
            go_wp2
            go_roundw
            case rel => exact ⟨j, by omega, by go_num, HC2.out, hB2.trans ((drewN_below _ _).mono hB2.size)⟩
            case measure => simp [intOf]
          · have hn' : cutAt ltId x ys (j + 1) = j + 1 := cutAt_no hgd (decide_eq_false hlt2)
            have HC' := Lib.hid (HC.out.trans hn')
            clear hn' HC hgd
            go_wp2_with fail
            go_quiet (fail)
            go_wp2_with fail
            have HY2 := Lib.hid (HY2.out.below (drewN_below _ nq))
            replace hB3 := hB3.trans ((drewN_below _ nq).mono hB3.size)
            refine (l4Into_any _ _ _ _ _ _ _ HY2.out (by omega) (by omega)).mono ?_
            rintro e w3 ⟨v3, rfl, ho3, hB3'⟩
            go_wp2
            go_roundw
            case rel =>
              refine ⟨ys.length + 1, by omega, by go_num, ?_, hB3.trans (hB3'.mono hB3.size)⟩
              rw [hsn.out, insB_at _ _ _ _ _ rfl HC'.out]
              exact OwnS.mono (L := itLay) ho3 hB3.size
            case measure => simp [intOf]; omega

    · obtain rfl : i = n := by omega
      rw [List.take_of_length_le (by rw [HL.out]; exact Nat.le_refl _)] at ho
      go_wp2
      go_ret
      exact ⟨_, rfl, ho, hB⟩

set_option maxHeartbeats 3200000 in
set_option maxRecDepth 100000 in
theorem sByKey_any (a : Option Addr) (n cap : Nat) (xs : List It) (w : World) (h : RdS itLay w a n cap xs) (hn : n ≤ 1099511627776) :
    Calls Tryd.prog 16 #[.slice a n cap] w (NewItems (sortB ltKey xs) w) := by
  have hm := h.1.2.2.1
  have hnc := h.1.2.1
  unfold maxLen at hm
  have HR := Lib.hid h
  have HL := Lib.hid h.1.1
  clear h
  have O0 := Lib.hid (own_nil w 30 5 w.heap.size w.heap.size rfl (Nat.le_refl _))
  go_enter Tryd.func16, Tryd.ntmps16
  go_wp2
  go_loopw [3, 4] (fun v i wr => ∃ k : Nat, k ≤ n ∧ i = .int .i64 k ∧ OwnS itLay 30 wr w.heap.size v (sortB ltKey (xs.take k)) ∧ Below w.heap.size w wr) (fun _ i _ => n - (intOf i).toNat)
  case atStart => exact ⟨0, Nat.zero_le _, rfl, O0.out, new_below w _⟩
  case round =>
    obtain ⟨i, hi, rfl, ho, hB⟩ := hrel
    have hys : (sortB ltKey (xs.take i)).length = i := by rw [sortB_len, List.length_take, HL.out]; omega
    by_cases hlt : i < n
    · obtain ⟨ya, yc, rfl, hy⟩ := OwnS.rd ho
      obtain ⟨b, off, x, rfl, hbl, hx, -, -, -, -, -⟩ := rdIt_at HR.out hlt
      have hsn := Lib.hid (sortB_snoc ltKey xs i x hx)
      generalize hY : sortB ltKey (xs.take i) = ys at *
      subst hys
      have HY := Lib.hid hy
      have HX := Lib.hid hx
      have hyc := hy.1.2.1
      have hyc2 := hy.1.2.2.1
      unfold maxLen at hyc2
      clear hy ho hx hY
      have z0 : (0 : Int) ≤ ys.length := by omega
      have z1 : (ys.length : Int) < n := by omega
      go_wp2_with fail
      go_loopw [5] (fun k w2 => ∃ j : Nat, j ≤ ys.length ∧ k = .int .i64 j ∧ cutAt ltKey x ys ys.length = cutAt ltKey x ys j ∧ Below wr.heap.size wr w2) (fun k _ => (intOf k).toNat)
      case atStart => exact ⟨ys.length, Nat.le_refl _, rfl, rfl, Below.refl _ _⟩
      case round =>
        obtain ⟨j, hj, rfl, hc, hB2⟩ := hrel
        have hB3 := hB.trans (hB2.mono hB.size)
        obtain ⟨b', off', x', e', _, hx', d0, d1, d2, d3, d4⟩ := rdIt_at (HR.out.below hB3) hlt
        obtain ⟨rfl, rfl⟩ : b = b' ∧ off = off' := by simpa using e'
        obtain rfl : x = x' := by rw [HX.out] at hx'; simpa using hx'
        clear hx' e'
        have HC := Lib.hid hc
        have HY2 := Lib.hid (HY.out.below hB2)
        clear hc
        cases j with
        | zero =>
          have HC' : Hid (cutAt ltKey x ys ys.length = 0) := HC.out
          go_wp2_with fail
          go_quiet (fail)
          go_wp2_with fail
          have HY2 := Lib.hid (HY2.out.below (drewN_below _ nq))
          replace hB3 := hB3.trans ((drewN_below _ nq).mono hB3.size)
          refine (l4Into_any _ _ _ _ _ _ _ HY2.out (by omega) (by omega)).mono ?_
          rintro e w3 ⟨v3, rfl, ho3, hB3'⟩
          go_wp2
          go_roundw
          case rel =>
            refine ⟨ys.length + 1, by omega, by go_num, ?_, hB3.trans (hB3'.mono hB3.size)⟩
            rw [hsn.out, insB_at _ _ _ _ _ rfl HC'.out]
            exact OwnS.mono (L := itLay) ho3 hB3.size
          case measure => simp [intOf]; omega

        | succ j =>
          obtain ⟨g, og, y, rfl, hgl, hyj, p0, p1, p2, p3, p4⟩ := rdIt_at HY2.out (i := j) (by omega)
          have hgd : ys.getD j zeroIt = y := by simp [List.getD, hyj]
          have y0 : (0 : Int) ≤ j := by omega
          have y1 : (j : Int) < ys.length := by omega
          have C := sAhead_any x.id x.x0 x.y0 x.x1 x.y1 y.id y.x0 y.y0 y.x1 y.y1
          have hK : aheadV (keyV x.x0 x.y0 x.x1 x.y1) x.id (keyV y.x0 y.y0 y.x1 y.y1) y.id = ltKey x y := rfl
          rw [hK] at C
          clear hK
          replace C := Lib.hid C
          cases hlt2 : ltKey x y with
          | true =>
            have hn' : cutAt ltKey x ys (j + 1) = cutAt ltKey x ys j := cutAt_yes hgd hlt2
            have HC2 := Lib.hid (HC.out.trans hn')
            rw [hlt2] at C
            clear hn' HC hgd hlt2
            go_wp2_with fail
            have q0 := cellq d0
            have q1 := cellq d1
            have q2 := cellq d2
            have q3 := cellq d3
            have q4 := cellq d4
            have r0 := cellq p0
            have r1 := cellq p1
            have r2 := cellq p2
            have r3 := cellq p3
            have r4 := cellq p4
            refine wp_region_quiet_below (by kernel_rfl) (by kernel_rfl) ?_
            repeat (go_big_quiet_step (first | (go_at_call 21; with_reducible exact callr (C.out _))))
            refine wpQuiet_nil (quiet_end fun W hW => ?_)
            clear q0 q1 q2 q3 q4 r0 r1 r2 r3 r4
            go_wp2
            go_roundw
            case rel => exact ⟨j, by omega, by go_num, HC2.out, hB2.trans (hW.mono hB2.size)⟩
            case measure => simp [intOf]
          | false =>
            have hn' : cutAt ltKey x ys (j + 1) = j + 1 := cutAt_no hgd hlt2
            have HC' := Lib.hid (HC.out.trans hn')
            rw [hlt2] at C
            clear hn' HC hgd hlt2
            go_wp2_with fail
            have q0 := cellq d0
            have q1 := cellq d1
            have q2 := cellq d2
            have q3 := cellq d3
            have q4 := cellq d4
            have r0 := cellq p0
            have r1 := cellq p1
            have r2 := cellq p2
            have r3 := cellq p3
            have r4 := cellq p4
            refine wp_region_quiet_below (by kernel_rfl) (by kernel_rfl) ?_
            repeat (go_big_quiet_step (first | (go_at_call 21; with_reducible exact callr (C.out _))))
            refine wpQuiet_nil (quiet_end fun W hW => ?_)
            clear q0 q1 q2 q3 q4 r0 r1 r2 r3 r4
            have HY2 := Lib.hid (HY2.out.below hW)
            have hRx := Lib.hid ((HR.out.below hB3).below hW)
            replace hB3 := hB3.trans (hW.mono hB3.size)
            clear d0 d1 d2 d3 d4 p0 p1 p2 p3 p4
            obtain ⟨b', off', x', e', _, hx', d0, d1, d2, d3, d4⟩ := rdIt_at hRx.out hlt
            obtain ⟨rfl, rfl⟩ : b = b' ∧ off = off' := by simpa using e'
            obtain rfl : x = x' := by rw [HX.out] at hx'; simpa using hx'
            clear hx' e'
            go_wp2_with fail
            refine (l4Into_any _ _ _ _ _ _ _ HY2.out (by omega) (by omega)).mono ?_
            rintro e w3 ⟨v3, rfl, ho3, hB3'⟩
            go_wp2
            go_roundw
            case rel =>
              refine ⟨ys.length + 1, by omega, by go_num, ?_, hB3.trans (hB3'.mono hB3.size)⟩
              rw [hsn.out, insB_at _ _ _ _ _ rfl HC'.out]
              exact OwnS.mono (L := itLay) ho3 hB3.size
            case measure => simp [intOf]; omega

    · obtain rfl : i = n := by omega
      rw [List.take_of_length_le (by rw [HL.out]; exact Nat.le_refl _)] at ho
      go_wp2
      go_ret
      exact ⟨_, rfl, ho, hB⟩

end Go.Proofs.YtgjbngfcllanmaaDoor
