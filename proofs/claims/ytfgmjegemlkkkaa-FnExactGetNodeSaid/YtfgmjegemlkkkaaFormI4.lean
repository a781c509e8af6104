/- The program's firstEntries: the entries that the bytes hold, one behind the other. -/
import Derived.Test.YtfgmjegemlkkkaaFormI1
import Derived.Test.YtfgmjegemlkkkaaNodeI2
namespace Go.Proofs.Ytfgmjegemlkkkaa
open Go.RowKit

set_option maxHeartbeats 3200000 in
set_option maxRecDepth 100000 in
theorem iFirst_any (a : Option Addr) (c kk : Nat) (bs : List Int) (w : World) (h : RdI .u8 w a 24 c (bs.drop 1)) (hl : bs.length = 25) (hz : ∀ j, 0 ≤ bs.getD j 0 ∧ bs.getD j 0 ≤ 255) (hkk : kk ≤ 255) :
    Calls Try.prog 38 #[.slice a 24 c, .int .i64 kk] w fun e w' => ∃ v, e = .returned (.tuple #[v, .bool (decide (kk ≤ 4) && hasAll bs kk)]) ∧ ((decide (kk ≤ 4) && hasAll bs kk) = true → OwnS itLay 35 w' w.heap.size v (rawAll bs kk)) ∧ Below w.heap.size w w' := by
  obtain ⟨i0, hi, hz0, hz1, hz2⟩ := info_parts Try.infoEntry
  replace hi := Lib.hid hi
  replace hz0 := Lib.hid hz0
  replace hz1 := Lib.hid hz1
  replace hz2 := Lib.hid hz2
  have HR := Lib.hid h
  have HL := Lib.hid hl
  have HZ : Hid (∀ j, 0 ≤ (bs.drop 1).getD j 0 ∧ (bs.drop 1).getD j 0 ≤ 255) := Lib.hid (fun j => by
    rw [List.getD_eq_getElem?_getD, List.getElem?_drop, ← List.getD_eq_getElem?_getD]
    exact hz (1 + j))
  clear h hl hz
  go_enter Try.func38, Try.ntmps38
  go_wp2_with (at_make; refine wpList_make_own _ rfl _ _ 24 rfl w.heap.size 35 i0 (.agg #[.int .i64 0, .int .i64 0, .int .i64 0, .int .i64 0, .int .i64 0]) 5 Try.underlying24 hi.out hz0.out hz1.out .i64 .i64 4 4 rfl rfl rfl ?_ ?_ ?_ ?_)
  case refine_1 => rw [hz2.out]; omega
  case refine_2 => unfold maxLen; omega
  case refine_3 => exact Nat.le_refl _
  intro w1 hown hgrow
  have B1 := Lib.hid (grownNone_below hgrow)
  replace hown := Lib.hid hown
  clear hgrow
  go_wp2
  go_loopw [6, 12] (fun v i wr => ∃ k : Nat, k ≤ kk ∧ k ≤ 4 ∧ v = .slice (some ⟨w.heap.size, 0, none⟩) k 4 ∧ i = .int .i64 (k : Int) ∧ Hid (hasAll bs k = true) ∧ Hid (wr.ownsRow w.heap.size 35 5 (.slice (some ⟨w.heap.size, 0, none⟩) k 4) k ((rawAll bs k).flatMap itLay.cells)) ∧ Below w.heap.size w wr) (fun _ i _ => kk - (intOf i).toNat)
  case atStart => exact ⟨0, Nat.zero_le _, Nat.zero_le _, rfl, rfl, rfl, hown, B1.out⟩
  case round =>
    clear hown B1
    obtain ⟨k, hk, hk4, rfl, rfl, HA, HO, hB⟩ := hrel
    by_cases hlt : k < kk
    · have z1 : (k : Int) < kk := by omega
      obtain ⟨y, hy⟩ : ∃ y, getE (bs.drop 1) ((k : Int) * 6) = y := ⟨_, rfl⟩
      have CE := iGetEntry_any a 24 c (bs.drop 1) ((k : Int) * 6) wr (HR.out.below hB) HZ.out (by omega) (wf_small _ (by omega) (by omega))
      rw [hy] at CE
      have hmul : IntKind.i64.wrap ((k : Int) * 6) = (k : Int) * 6 := by rw [IntKind.wrap_i64]; omega
      obtain ⟨d1, d2⟩ := hasE_drop HL.out k
      replace d1 := (congrArg (hasE (bs.drop 1)) (Int.mul_comm (k : Int) 6)).trans d1
      cases hh : hasE (bs.drop 1) ((k : Int) * 6) with
      | false =>
        rw [hh] at CE
        replace CE := Lib.hid CE
        have ht : Hid ((decide (kk ≤ 4) && hasAll bs kk) = false) := by
          show _ = _
          rw [hasAll_no (d1.symm.trans hh) kk hlt, Bool.and_false]
        clear hh hy d1 d2
        go_wp2_with fail
        refine CE.out.mono ?_
        rintro e w2 ⟨rfl, b2⟩
        have B2 := Lib.hid (hB.trans (b2.mono hB.size))
        have s2 := b2.size
        clear b2 hB HO
        go_wp2
        go_ret2
        refine ⟨_, (by rw [ht.out]; rfl), (fun h => by rw [ht.out] at h; cases h), ?_⟩
        exact (B2.out.alloc B2.out.size _).alloc (by have := B2.out.size; simp; omega) _
      | true =>
        have h4 : k < 4 := by
          refine Nat.lt_of_not_le (fun h => ?_)
          have := hasE_far HL.out h
          rw [← d1, hh] at this
          cases this
        have hy2 : rawE bs (1 + 6 * k) = y := by
          rw [← hy, getE_yes hh, ← d2, show ((k : Int) * 6).toNat = 6 * k by omega]
        have HA2 : Hid (hasAll bs (k + 1) = true) := by
          show hasAll bs (k + 1) = true
          rw [hasAll, HA.out, ← d1, hh]
          rfl
        have HY : Hid (rawAll bs (k + 1) = rawAll bs k ++ [y]) := by
          show rawAll bs (k + 1) = _
          rw [rawAll, hy2]
        rw [hh] at CE
        replace CE := Lib.hid CE
        clear hh hy hy2 d1 d2
        go_wp2_with fail
        refine CE.out.mono ?_
        rintro e w2 ⟨rfl, b2⟩
        have HO2 : Hid (w2.ownsRow w.heap.size 35 5 (.slice (some ⟨w.heap.size, 0, none⟩) k 4) k ((rawAll bs k).flatMap itLay.cells)) := Lib.hid (World.ownsRow.kept HO.out (Below.toGrown b2 none) (by right; simp [Value.ownBlock]))
        have B2 := hB.trans (b2.mono hB.size)
        have s2 := b2.size
        clear b2 hB HO CE
        go_wp2_with (at_builtin; refine wpList_append_fits _ rfl (.tmp 25) (.tmp 27) 24 rfl w.heap.size 35 i0 5 Try.underlying24 hi.out hz1.out w.heap.size k 4 ((rawAll bs k).flatMap itLay.cells) rfl (World.ownsRow.alloc (World.ownsRow.alloc HO2.out _) _) ⟨w2.heap.size + 1, 0, none⟩ 1 1 (itLay.cells y) rfl rfl ?_ (itLay.one _) ?_ ?_)
        case refine_1 => exact news2 w2 _ _ _ _ rfl
        case refine_2 => omega
        intro w3 o3 g3
        have O3 : Hid (w3.ownsRow w.heap.size 35 5 (.slice (some ⟨w.heap.size, 0, none⟩) (k + 1) 4) (k + 1) ((rawAll bs (k + 1)).flatMap itLay.cells)) := by
          rw [HY.out, List.flatMap_append]
          have := o3
          simp only [List.flatMap_cons, List.flatMap_nil, List.append_nil]
          exact Lib.hid this
        have B3 := Lib.hid (((B2.alloc B2.size (.cells #[.int .i64 y.id, .int .i64 y.x0, .int .i64 y.y0, .int .i64 y.x1, .int .i64 y.y1] 35)).alloc (by have := B2.size; simp; omega) (.cells #[.int .i64 y.id, .int .i64 y.x0, .int .i64 y.y0, .int .i64 y.x1, .int .i64 y.y1] 35)).grown g3 (by have := B2.size; simp; omega) (fun j hj => by cases hj; exact Nat.le_refl _))
        clear o3 g3
        go_wp2
        go_roundw
        case rel => exact ⟨k + 1, by omega, by omega, rfl, by go_num, HA2, O3, B3.out⟩
        case measure => simp [intOf]; omega
    · obtain rfl : k = kk := by omega
      have ht : Hid ((decide (k ≤ 4) && hasAll bs k) = true) := by
        show _ = _
        rw [HA.out, decide_eq_true hk4]
        rfl
      go_wp2
      go_ret2
      refine ⟨_, (by rw [ht.out]; rfl), fun _ => ?_, hB⟩
      unfold OwnS
      rw [rawAll_len]
      exact HO.out
end Go.Proofs.Ytfgmjegemlkkkaa
