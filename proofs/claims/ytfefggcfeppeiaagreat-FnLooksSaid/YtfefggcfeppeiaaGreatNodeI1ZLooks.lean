/- The program's EntryAt and SameNode: the library's IndexFunc with a closure, and Equal. -/
import Derived.Test.YtfefggcfeppeiaaGreatNodeCZLooks
import Derived.Test.YtfefggcfeppeiaaGreatItemIZLooks
namespace Go.Proofs.YtfefggcfeppeiaaGreat
open Go.RowKit

set_option maxRecDepth 100000 in
set_option maxHeartbeats 400000 in
/-- The closure: whether an entry has the number that it captured. -/
theorem iAtFn_any (x : It) (g : Nat) (id : Int) (w : World) (h : w.cell? ⟨g, 0, none⟩ = some (.int .i64 id)) :
    Calls Tryz.prog 100 #[.agg #[.int .i64 x.id, .int .i64 x.x0, .int .i64 x.y0, .int .i64 x.x1, .int .i64 x.y1], .pointer (some ⟨g, 0, none⟩)] w fun e w' => e = .returned (.bool (x.id == id)) ∧ Below w.heap.size w w' := by
  have hg : g < w.heap.size := World.block_lt_of_cell? w ⟨g, 0, none⟩ h
  have h2 := (World.cell?_alloc_lt w (.cells #[.int .i64 x.id, .int .i64 x.x0, .int .i64 x.y0, .int .i64 x.x1, .int .i64 x.y1] 77) ⟨g, 0, none⟩ hg).trans h
  go_enter Tryz.func100, Tryz.ntmps100
  go_wp2
  go_ret
  exact ⟨rfl, new_below _ _⟩

set_option maxRecDepth 100000 in
set_option maxHeartbeats 1600000 in
theorem iIndex_any (a : Option Addr) (n cap : Nat) (xs : List It) (id : Int) (g : Nat) (w : World) (h : RdS itLay w a n cap xs) (hg : w.cell? ⟨g, 0, none⟩ = some (.int .i64 id)) :
    Calls Tryz.prog 99 #[.slice a n cap, .func (.func 100) #[] #[.pointer (some ⟨g, 0, none⟩)]] w fun e w' => e = .returned (.int .i64 (atV id xs 0)) ∧ Below w.heap.size w w' := by
  have hm := h.1.2.2.1
  have hnc := h.1.2.1
  unfold maxLen at hm
  have HR := Lib.hid h
  have HL := Lib.hid h.1.1
  have HG := Lib.hid hg
  clear h hg
  go_enter Tryz.func99, Tryz.ntmps99
  go_wp2
  go_loopw [8] (fun i wr => ∃ k : Nat, k ≤ n ∧ i = .int .i64 k ∧ Hid (atV id xs 0 = atV id (xs.drop k) k) ∧ Below w.heap.size w wr) (fun i _ => n - (intOf i).toNat)
  case atStart => exact ⟨0, Nat.zero_le _, rfl, Lib.hid rfl, Below.refl _ _⟩
  case round =>
    obtain ⟨k, hk, rfl, HA, hB⟩ := hrel
    by_cases hlt : k < n
    · obtain ⟨b, off, x, rfl, hbl, hx, d0, d1, d2, d3, d4⟩ := rdIt_at (HR.out.below hB) hlt
      have HX := Lib.hid hx
      have z0 : (0 : Int) ≤ k := by omega
      have z1 : (k : Int) < n := by omega
      have hgl : g < w.heap.size := World.block_lt_of_cell? w ⟨g, 0, none⟩ HG.out
      have C := iAtFn_any x g id wr ((hB.cell (p := ⟨g, 0, none⟩) hgl).trans HG.out)
      clear hx
      cases he : x.id == id with
      | true =>
        have hr := Lib.hid (HA.out.trans (atV_yes id HX.out (by simpa using he)))
        rw [he] at C
        replace C := Lib.hid C
        clear he
        go_wp2_with fail
        refine C.out.mono ?_
        rintro e w1 ⟨rfl, hb⟩
        replace hb := hB.trans (hb.mono hB.size)
        go_wp2
        go_ret
        exact ⟨ret_i64' hr.out.symm, hb⟩
      | false =>
        have hr := Lib.hid (HA.out.trans (atV_no id HX.out (by simpa using he)))
        rw [he] at C
        replace C := Lib.hid C
        clear he
        go_wp2_with fail
        refine C.out.mono ?_
        rintro e w1 ⟨rfl, hb⟩
        replace hb := hB.trans (hb.mono hB.size)
        go_wp2
        go_roundw
        case rel => exact ⟨k + 1, by omega, by go_num, hr, hb⟩
        case measure => simp [intOf]; omega
    · have hr : Hid (atV id xs 0 = -1) := by
        obtain rfl : k = n := by omega
        exact Lib.hid (HA.out.trans (atV_end xs k id (by rw [HL.out]; exact Nat.le_refl _)))
      go_wp2
      go_ret
      exact ⟨ret_i64' hr.out.symm, hB⟩

set_option maxRecDepth 100000 in
set_option maxHeartbeats 400000 in
theorem iEntryAt_any : CEntryAt 94 := by
  intro a n cap xs id w h
  have hmf : ∀ (fn : Fn) (first cap : Array Value) (w : World), (Instr.makeFunc fn first cap).run Tryz.prog w = .ok (.func fn first cap) w := fun _ _ _ _ => rfl
  have C := Lib.hid (iIndex_any a n cap xs id w.heap.size (w.alloc (.cells #[.int .i64 id] 3)) (h.below (new_below w _)) ((blk_new w _ _).1 0))
  have B := Lib.hid (new_below w (.cells #[.int .i64 id] 3))
  clear h
  go_enter Tryz.func94, Tryz.ntmps94
  go_wp2_with fail
  refine C.out.mono ?_
  rintro e w1 ⟨rfl, hb⟩
  replace hb := B.out.trans (hb.mono B.out.size)
  go_wp2
  go_ret
  exact ⟨rfl, hb⟩

set_option maxRecDepth 100000 in
set_option maxHeartbeats 800000 in
theorem iEqualE_any (a a' : Option Addr) (n n' cap cap' : Nat) (xs ys : List It) (w : World) (h : RdS itLay w a n cap xs) (h' : RdS itLay w a' n' cap' ys) :
    Calls Tryz.prog 86 #[.slice a n cap, .slice a' n' cap'] w fun e w' => e = .returned (.bool (sameV xs ys)) ∧ Below w.heap.size w w' := by
  have hm := h.1.2.2.1
  have hnc := h.1.2.1
  have hm' := h'.1.2.2.1
  have hnc' := h'.1.2.1
  unfold maxLen at hm hm'
  have HR := Lib.hid h
  have HL := Lib.hid h.1.1
  have HR' := Lib.hid h'
  have HL' := Lib.hid h'.1.1
  clear h h'
  by_cases hlen : n = n'
  · subst hlen
    go_enter Tryz.func86, Tryz.ntmps86
    go_wp2
    go_loopw [13] (fun i wr => ∃ k : Nat, k ≤ n ∧ i = .int .i64 k ∧ Hid (∀ (j : Nat) (x y : It), j < k → xs[j]? = some x → ys[j]? = some y → itEq x y = true) ∧ Below w.heap.size w wr) (fun i _ => n - (intOf i).toNat)
    case atStart => exact ⟨0, Nat.zero_le _, rfl, Lib.hid (fun j x y hj => by omega), Below.refl _ _⟩
    case round =>
      obtain ⟨k, hk, rfl, HA, hB⟩ := hrel
      by_cases hlt : k < n
      · obtain ⟨b, off, x, rfl, hbl, hx, d0, d1, d2, d3, d4⟩ := rdIt_at (HR.out.below hB) hlt
        obtain ⟨b', off', y, rfl, hbl', hy, p0, p1, p2, p3, p4⟩ := rdIt_at (HR'.out.below hB) hlt
        have HX := Lib.hid hx
        have HY := Lib.hid hy
        have z0 : (0 : Int) ≤ k := by omega
        have z1 : (k : Int) < n := by omega
        clear hx hy
        cases he : itEq x y with
        | true =>
          have hr : ∀ V, _ = _ := fun V => neEntry_run x y V
          rw [he] at hr
          simp only [Bool.not_true] at hr
          have HS : Hid (∀ (j : Nat) (x y : It), j < k + 1 → xs[j]? = some x → ys[j]? = some y → itEq x y = true) := Lib.hid (fun j x' y' hj h1 h2 => by
            by_cases hjk : j < k
            · exact HA.out j x' y' hjk h1 h2
            · obtain rfl : j = k := by omega
              rw [HX.out] at h1
              rw [HY.out] at h2
              obtain rfl : x = x' := by simpa using h1
              obtain rfl : y = y' := by simpa using h2
              exact he)
          clear he
          go_wp2
          go_region_with (fail)
          all_goals
            go_wp2
            go_roundw
            case rel => exact ⟨k + 1, by omega, by go_num, HS, by first | exact hB | exact hB.drew⟩
            case measure => simp [intOf]; omega
        | false =>
          have hr : ∀ V, _ = _ := fun V => neEntry_run x y V
          rw [he] at hr
          simp only [Bool.not_false] at hr
          have HF := Lib.hid (sameV_no HX.out HY.out he)
          clear he
          go_wp2
          go_region_with (fail)
          all_goals
            go_wp2
            go_ret
            exact ⟨ret_bool HF.out.symm, by first | exact hB | exact hB.drew⟩
      · have HF : Hid (sameV xs ys = true) := by
          obtain rfl : k = n := by omega
          exact Lib.hid (sameV_end (by rw [HL.out, HL'.out]) (fun j x y hj h1 h2 => HA.out j x y (by rw [← HL.out]; exact hj) h1 h2))
        go_wp2
        go_ret
        exact ⟨ret_bool HF.out.symm, hB⟩
  · have HF : Hid (sameV xs ys = false) := Lib.hid (sameV_len (by rw [HL.out, HL'.out]; exact hlen))
    have hne : ((n : Int) != (n' : Int)) = true := by rw [bne_iff_ne]; omega
    clear hlen
    go_enter Tryz.func86, Tryz.ntmps86
    go_wp2
    go_ret
    exact ⟨ret_bool HF.out.symm, Below.refl _ _⟩

set_option maxRecDepth 100000 in
set_option maxHeartbeats 800000 in
theorem iSameNode_any : CSameNode 71 := by
  intro c d a a' n n' cap cap' xs ys w h h'
  have B0 : Below w.heap.size w ((w.alloc (.cells #[.bool c, .slice a n cap] 59)).alloc (.cells #[.bool d, .slice a' n' cap'] 59)) := ((Below.refl _ _).alloc (Nat.le_refl _) _).alloc (by simp) _
  have C := Lib.hid (iEqualE_any a a' n n' cap cap' xs ys _ (h.below B0) (h'.below B0))
  clear h h'
  cases hcd : (c == d) with
  | true =>
    rw [Bool.true_and]
    replace B0 := Lib.hid B0
    go_enter Tryz.func71, Tryz.ntmps71
    go_wp2_with fail
    refine C.out.mono ?_
    rintro e w1 ⟨rfl, hb⟩
    replace hb := B0.out.trans (hb.mono B0.out.size)
    go_wp2
    go_ret
    exact ⟨rfl, hb⟩
  | false =>
    rw [Bool.false_and]
    go_enter Tryz.func71, Tryz.ntmps71
    go_wp2
    go_ret
    exact ⟨rfl, B0⟩
end Go.Proofs.YtfefggcfeppeiaaGreat
