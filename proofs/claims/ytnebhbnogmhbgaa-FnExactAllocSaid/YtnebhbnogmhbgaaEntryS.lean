/- The laws' own helpers on slices of entries: how many, a copy, equality. -/
import Derived.Test.YtnebhbnogmhbgaaItemS
import Derived.Test.YtnebhbnogmhbgaaEntry
namespace Go.Proofs.Ytnebhbnogmhbgaa
open Go.RowKit

theorem Try.infoEntry : (Try.prog.info? 91).map (fun i => (i.zero, i.size, i.bytes)) = some (some (.agg #[.int .i64 0, .int .i64 0, .int .i64 0, .int .i64 0, .int .i64 0]), 5, 40) := by kernel_rfl

set_option maxRecDepth 100000 in
set_option maxHeartbeats 400000 in
/-- laws.szEntryS: what is left of a number, less the length; -1 where too much. -/
theorem szEntryS_any (a : Option Addr) (n cap : Nat) (left : Int) (w : World) (hn : n ≤ maxLen) (hl : 0 ≤ left ∧ left ≤ 1048576) :
    Calls Try.prog 87 #[.slice a n cap, .int .i64 left] w fun e w' => e = .returned (.int .i64 (if left - n < 0 then -1 else left - n)) ∧ w = w' := by
  unfold maxLen at hn
  obtain ⟨l0, l1⟩ := hl
  by_cases h : left - n < 0
  · rw [if_pos h]
    go_enter Try.func87, Try.ntmps87
    go_wp2
    go_ret
    exact ⟨rfl, rfl⟩
  · rw [if_neg h]
    go_enter Try.func87, Try.ntmps87
    go_wp2
    go_ret
    exact ⟨rfl, rfl⟩

/-- A slice of rectangles in new memory. -/
def NewEntries (xs : List It) (w : World) (e : Ending) (w' : World) : Prop := ∃ v, e = .returned v ∧ OwnS itLay 91 w' w.heap.size v xs ∧ Below w.heap.size w w'

set_option maxRecDepth 100000 in
set_option maxHeartbeats 800000 in
/-- laws.toEntryS: a copy in new memory. -/
theorem toEntryS_any (a : Option Addr) (n cap : Nat) (xs : List It) (w : World) (h : RdS itLay w a n cap xs) (hn : n ≤ 4398046511104) :
    Calls Try.prog 88 #[.slice a n cap] w (NewEntries xs w) := by
  obtain ⟨i0, hi, hz0, hz1, hz2⟩ := info_parts Try.infoEntry
  have HR := Lib.hid h; clear h
  replace hz2 := Lib.hid hz2
  have hnc := HR.out.1.2.1
  go_enter Try.func88, Try.ntmps88
  go_wp2_with (at_make; refine wpList_make_full _ rfl _ _ 30 rfl w.heap.size 91 i0 (.agg #[.int .i64 0, .int .i64 0, .int .i64 0, .int .i64 0, .int .i64 0]) 5 Try.underlying30 hi hz0 hz1 .i64 .i64 (n : Int) (n : Int) n rfl rfl rfl rfl ?_ ?_ ?_ ?_)
  case refine_1 => rw [hz2.out]; omega
  case refine_2 => unfold maxLen; omega
  case refine_3 => exact Nat.le_refl _
  intro w1 hown hgrow
  have hb := grownNone_below hgrow
  clear hgrow
  rw [madeI] at hown
  go_wp2
  go_loopw [4] (fun i wr => ∃ k : Nat, k ≤ n ∧ i = .int .i64 k ∧
      wr.ownsRow w.heap.size 91 5 (.slice (some ⟨w.heap.size, 0, none⟩) n n) n ((copiedI xs n k).flatMap itLay.cells) ∧ Below w.heap.size w wr)
    (fun i _ => n - (intOf i).toNat)
  case atStart => exact ⟨0, Nat.zero_le _, rfl, by rw [copiedI_start]; exact hown, hb⟩
  case round =>
    obtain ⟨k, hk, rfl, ho, hB⟩ := hrel
    by_cases hlt : k < n
    · obtain ⟨b, off, x, rfl, hbl, hx, d0, d1, d2, d3, d4⟩ := rdIt_at (HR.out.below hB) hlt
      have hst := Lib.hid (copiedI_set xs n k x hx)
      have hl := copiedI_len xs n k
      have HO := Lib.hid ho
      clear ho hx
      have z0 : (0 : Int) ≤ k := by omega
      have z1 : (k : Int) < n := by omega
      go_wp2_with fail
      refine (toEntry_any _ _ _ _ _ _).mono ?_
      rintro e w2 ⟨rfl, hj⟩
      have HO2 := OwnS.kept (L := itLay) (xs := copiedI xs n k) (by unfold OwnS; rw [hl]; exact HO.out) (Below.toGrown hj none) (.inr (by simp [Value.ownBlock]))
      unfold OwnS at HO2
      rw [hl] at HO2
      obtain ⟨y, e0, e1, e2, e3, e4⟩ := ownIt_at HO2 hl hlt
      have hfz := HO2.frozenAt
      have hbl2 : w.heap.size < w2.heap.size := by
        have := HO2.lt w.heap.size rfl
        omega
      have H2 := Lib.hid HO2
      clear HO2
      go_wp2
      go_roundw
      case rel =>
        refine ⟨k + 1, by omega, by go_num, ?_, (((((hB.trans (hj.mono hB.size)).setCell (p := ⟨w.heap.size, _, none⟩) (Nat.le_refl _) _).setCell (p := ⟨w.heap.size, _, none⟩) (Nat.le_refl _) _).setCell (p := ⟨w.heap.size, _, none⟩) (Nat.le_refl _) _).setCell (p := ⟨w.heap.size, _, none⟩) (Nat.le_refl _) _).setCell (p := ⟨w.heap.size, _, none⟩) (Nat.le_refl _) _⟩
        rw [hst.out, ← flat_setI _ k x (by omega)]
        exact (((((((H2.out.stored _ _).1).stored _ _).1).stored _ _).1.stored _ _).1.stored _ _).1
      case measure => simp [intOf]; omega
    · have HF : Hid (copiedI xs n k = xs) := by
        obtain rfl : k = n := by omega
        exact copiedI_end xs k HR.out.1.1
      go_wp2
      go_ret
      refine ⟨_, rfl, ?_, hB⟩
      unfold OwnS
      rw [HR.out.1.1]
      rw [HF.out] at ho
      exact ho

set_option maxRecDepth 100000 in
set_option maxHeartbeats 800000 in
/-- laws.eqEntryS: two slices that read alike. -/
theorem eqEntryS_same (a b : Option Addr) (n c1 c2 : Nat) (xs : List It) (w : World) (h : RdS itLay w a n c1 xs) (h' : RdS itLay w b n c2 xs) (hn : n ≤ 4398046511104) :
    Calls Try.prog 84 #[.slice a n c1, .slice b n c2] w fun e w' => e = .returned (.bool true) ∧ Below w.heap.size w w' := by
  have HR := Lib.hid h; clear h
  have HR' := Lib.hid h'; clear h'
  have hnc := HR.out.1.2.1
  have hnc' := HR'.out.1.2.1
  go_enter Try.func84, Try.ntmps84
  go_wp2
  go_loopw [5] (fun i wr => ∃ k : Nat, k ≤ n ∧ i = .int .i64 k ∧ Below w.heap.size w wr) (fun i _ => n - (intOf i).toNat)
  case atStart => exact ⟨0, Nat.zero_le _, rfl, Below.refl _ _⟩
  case round =>
    obtain ⟨k, hk, rfl, hB⟩ := hrel
    by_cases hlt : k < n
    · obtain ⟨g, off, x, rfl, hgl, hx, d0, d1, d2, d3, d4⟩ := rdIt_at (HR.out.below hB) hlt
      obtain ⟨g', off', x', rfl, hgl', hx', p0, p1, p2, p3, p4⟩ := rdIt_at (HR'.out.below hB) hlt
      obtain rfl : x = x' := by rw [hx] at hx'; simpa using hx'
      have he := itEq_self x
      have z0 : (0 : Int) ≤ k := by omega
      have z1 : (k : Int) < n := by omega
      clear hx hx'
      go_wp2
      go_region_with ((with_reducible refine (eqEntry_any _ _ _).mono ?_); rintro e w1 ⟨rfl, hj⟩)
      all_goals
        go_wp2
        go_roundw
        case rel => exact ⟨k + 1, by omega, by go_num, hB.drew.trans (hj.mono hB.size)⟩
        case measure => simp [intOf]; omega
    · go_wp2
      go_ret
      exact ⟨rfl, hB⟩
end Go.Proofs.Ytnebhbnogmhbgaa
