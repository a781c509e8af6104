/- The model's PutNode. -/
import Derived.Test.YtfgmjegemlkkkaaForm
import Derived.Test.YtfgmjegemlkkkaaNodeOk
namespace Go.Proofs.Ytfgmjegemlkkkaa
open Go.RowKit

/-- The first byte of a node. -/
def headN (b : Bool) (n : Nat) : Int := if b then (n : Int) + 16 else n
/-- A node's bytes ahead of the zeros. -/
def bodyN (b : Bool) (xs : List It) : List Int := headN b xs.length :: xs.flatMap putE
def putN (b : Bool) (xs : List It) : List Int := if nodeOkV b xs then pad (bodyN b xs) 25 else []
theorem putE_le (x : It) : (putE x).length ≤ 6 := by unfold putE; split <;> simp
theorem flatE_le (xs : List It) : (xs.flatMap putE).length ≤ 6 * xs.length := by
  induction xs with
  | nil => simp
  | cons x l ih => have := putE_le x; simp only [List.flatMap_cons, List.length_append, List.length_cons]; omega
theorem nodeOkV_len {b : Bool} {xs : List It} (h : nodeOkV b xs = true) : xs.length ≤ 4 := by
  unfold nodeOkV at h
  simp only [Bool.and_eq_true, decide_eq_true_eq] at h
  exact h.2.1
/-- What stands after k rounds. -/
def partN (b : Bool) (xs : List It) (k : Nat) : List Int := headN b xs.length :: (xs.take k).flatMap putE
theorem partN_more {b : Bool} {xs : List It} {k : Nat} {x : It} (h : xs[k]? = some x) : partN b xs (k + 1) = partN b xs k ++ putE x := by
  unfold partN
  rw [List.take_add_one, h, List.flatMap_append]
  simp
theorem partN_all {b : Bool} {xs : List It} {k : Nat} (h : xs.length ≤ k) : partN b xs k = bodyN b xs := by unfold partN bodyN; rw [List.take_of_length_le h]
theorem partN_le (b : Bool) (xs : List It) (k : Nat) : (partN b xs k).length ≤ 1 + 6 * xs.length := by
  have h1 := flatE_le (xs.take k)
  have h2 : (xs.take k).length ≤ xs.length := by rw [List.length_take]; omega
  simp only [partN, List.length_cons]
  omega
theorem partN_nil (b : Bool) (xs : List It) : partN b xs 0 = [headN b xs.length] := by simp [partN]

theorem fresh_cells {wr w2 : World} {v : Value} {B q : Nat} {fo : Nat → Option Value} (hg : wr.grownBy w2 v.ownBlock) (hrow : ∀ j, v.ownBlock = some j → B ≤ j) (h : ∀ o, wr.cell? ⟨q, o, none⟩ = fo o) (hs : q < wr.heap.size) (hb : q < B) : ∀ o, w2.cell? ⟨q, o, none⟩ = fo o := by
  intro o
  have hblk : w2.heap[q]? = wr.heap[q]? := hg.block q hs (fun e => by have := hrow q e.symm; omega)
  rw [← h o]
  unfold World.cell?
  simp only [hblk]

set_option maxHeartbeats 3200000 in
set_option maxRecDepth 100000 in
theorem sPutNode_yes (b : Bool) (a : Option Addr) (n cap : Nat) (xs : List It) (w : World) (h : RdS itLay w a n cap xs) (hok : nodeOkV b xs = true) :
    Calls Try.prog 19 #[.agg #[.bool b, .slice a n cap]] w (Fresh8 w (pad (bodyN b xs) 25)) := by
  obtain ⟨i0, hi, hz0, hz1, hz2⟩ := info_parts Try.infoU8
  replace hi := Lib.hid hi
  replace hz0 := Lib.hid hz0
  replace hz1 := Lib.hid hz1
  replace hz2 := Lib.hid hz2
  have h4 := nodeOkV_len hok
  have hnc := h.1.2.1
  have hm := h.1.2.2.1
  unfold maxLen at hm
  have HR := Lib.hid h
  have HL := Lib.hid h.1.1
  rw [h.1.1] at h4
  have B0 := Lib.hid (new_below w (.cells #[.bool b, .slice a n cap] 26))
  have K0 := Lib.hid (blk_new w #[.bool b, .slice a n cap] 26)
  have CN := sNodeOk_any b a n cap xs _ (h.below B0.out)
  rw [hok] at CN
  replace CN := Lib.hid CN
  have k00 := K0.out.1 0
  have k01 := K0.out.1 1
  simp at k00 k01
  clear h hok
  go_enter Try.func19, Try.ntmps19
  go_wp2_with fail
  refine CN.out.mono ?_
  rintro e w1 ⟨rfl, hb⟩
  obtain ⟨k0, -⟩ := below_keep hb (by simp) _ _ K0.out
  have B1 := Lib.hid (B0.out.trans (hb.mono B0.out.size))
  have s1 := hb.size
  simp at s1
  clear hb k00 k01 K0
  have c0 := k0 0
  have c1 := k0 1
  simp at c0 c1
  cases b with
  | true =>
    have hh : headN true n = (n : Int) + 16 := if_pos rfl
    have hqw : IntKind.u8.wrap ((n : Int) + 16) = (n : Int) + 16 := u8_wrap (by omega) (by omega)
    have O1 : Hid (Own .u8 5 (w1.alloc (.cells #[.int .u8 ((n : Int) + 16)] 5)) (w.heap.size + 1) (.slice (some ⟨w1.heap.size, 0, none⟩) 1 1) (partN true xs 0)) := by
      rw [partN_nil, HL.out, hh]
      exact Lib.hid (World.ownsRow_lit w1 #[.int .u8 ((n : Int) + 16)] 1 (by omega) (by simp [maxLen]) rfl)
    have hS1 := Lib.hid (show w.heap.size + 1 ≤ (w1.alloc (.cells #[.int .u8 ((n : Int) + 16)] 5)).heap.size by simp; omega)
    have k1 := Lib.hid (show ∀ o, (w1.alloc (.cells #[.int .u8 ((n : Int) + 16)] 5)).cell? ⟨w.heap.size, o, none⟩ = #[Value.bool true, .slice a n cap][o]? from fun o => (World.cell?_alloc_lt w1 _ ⟨w.heap.size, o, none⟩ (by show w.heap.size < _; omega)).trans (k0 o))
    replace B1 := Lib.hid (B1.out.alloc B1.out.size (.cells #[.int .u8 ((n : Int) + 16)] 5))
    have hl1 := Lib.hid (show (partN true xs 0).length = 1 by rw [partN_nil]; rfl)
    clear hh
    go_wp2
    clear c0 c1 k0 hqw
    go_loopw [4, 5] (fun v i wr => ∃ (k m : Nat) (va : Option Addr) (vc : Nat), k ≤ n ∧ v = .slice va m vc ∧ i = .int .i64 (k : Int) ∧ Hid ((partN true xs k).length = m) ∧ (∀ o, wr.cell? ⟨w.heap.size, o, none⟩ = #[Value.bool true, .slice a n cap][o]?) ∧ Hid (Own .u8 5 wr (w.heap.size + 1) (.slice va m vc) (partN true xs k)) ∧ Below w.heap.size w wr ∧ w.heap.size + 1 ≤ wr.heap.size) (fun _ i _ => n - (intOf i).toNat)
    case atStart => exact ⟨0, 1, _, _, Nat.zero_le _, rfl, rfl, hl1, k1.out, O1, B1.out, hS1.out⟩
    case round =>
      clear hl1 k1 O1 B1 hS1
      obtain ⟨k, m, va, vc, hk, rfl, rfl, hl, k0, HO, hB, hS⟩ := hrel
      have c1 := k0 1
      simp at c1
      by_cases hlt : k < n
      · obtain ⟨bb, off, x, rfl, hbl, hx, d0, d1, d2, d3, d4⟩ := rdIt_at (HR.out.below hB) hlt
        have HX := Lib.hid hx
        have z0 : (0 : Int) ≤ k := by omega
        have z1 : (k : Int) < n := by omega
        clear hx
        go_wp2_with fail
        refine (sPutEntry_any x wr).mono ?_
        rintro e w2 ⟨v2, rfl, o2, b2⟩
        obtain ⟨a2, c2, rfl, r2⟩ := Own.rd o2
        have k2 := keepc b2 (by show w.heap.size < _; omega) k0
        have HO2 := HO.out.below b2
        have B2 := hB.trans (b2.mono hB.size)
        have s2 := b2.size
        have HO2' : w2.ownsRow (w.heap.size + 1) 5 1 (.slice va m vc) m ((partN true xs k).map (Value.int .u8)) := by
          have := HO2
          unfold Own at this
          rw [hl.out] at this
          exact this
        have HH := Lib.hid HO2'
        have R2 := Lib.hid r2
        have hE := putE_le x
        have hL1 := partN_le true xs k
        rw [HL.out, hl.out] at hL1
        clear o2 b2 HO HO2 HO2' r2 d0 d1 d2 d3 d4
        go_wp2_with (at_builtin; refine append_src rfl (.tmp 27) (.tmp 33) 22 rfl (w.heap.size + 1) 5 i0 (.int .u8 0) 1 1 Try.underlying22 hi.out hz0.out hz1.out hz2.out rfl (by decide) (.slice va m vc) m ((partN true xs k).map (Value.int .u8)) rfl HH.out a2 (putE x).length c2 ((putE x).map (Value.int .u8)) rfl ?_ R2.out.1.2.2.2 R2.out.news (ints_oneCell _ _) ?_ ?_ ?_ ?_)
        case refine_1 => rw [List.length_map, Nat.mul_one]
        case refine_2 => unfold maxLen; omega
        case refine_3 => omega
        case refine_4 => omega
        intro v3 w3 o3 g3
        obtain ⟨a3, c3, rfl⟩ := owns_shape o3
        have hrow : ∀ j, (Value.slice va m vc).ownBlock = some j → w.heap.size + 1 ≤ j := fun j hj => (HH.out.lt j hj).1
        have O3 : Hid (Own .u8 5 w3 (w.heap.size + 1) (.slice a3 (m + (putE x).length) c3) (partN true xs (k + 1))) := by
          unfold Own
          rw [partN_more HX.out, List.length_append, hl.out, List.map_append]
          exact Lib.hid o3
        have hl3 : Hid ((partN true xs (k + 1)).length = m + (putE x).length) := by
          show _ = _
          rw [partN_more HX.out, List.length_append, hl.out]
        have k3 := Lib.hid (fresh_cells g3 hrow k2 (by omega) (by omega))
        have B3 := Lib.hid (B2.grown g3 B2.size (fun j hj => by have := hrow j hj; omega))
        have s3 := g3.size
        clear o3 g3 B2 k2 hB k0 hrow
        go_wp2
        go_roundw
        case rel => exact ⟨k + 1, m + (putE x).length, a3, c3, by omega, by go_num, by go_num, hl3, k3.out, O3, B3.out, by omega⟩
        case measure => simp [intOf]; omega
      · obtain rfl : k = n := by omega
        have hall : Hid (partN true xs k = bodyN true xs) := Lib.hid (partN_all (by rw [HL.out]; exact Nat.le_refl _))
        obtain ⟨a4, c4, hv4, r4⟩ := Own.rd HO.out
        rw [hl.out] at hv4 r4
        simp only [Value.slice.injEq, true_and] at hv4
        obtain ⟨rfl, rfl⟩ := hv4
        have hL1 := partN_le true xs k
        rw [HL.out, hl.out] at hL1
        have CP := Lib.hid (sPad_any va m vc (partN true xs k) 25 wr r4 (by omega) (wf_small 25 (by omega) (by omega)))
        clear r4 HO hL1
        go_wp2_with fail
        refine CP.out.mono ?_
        rintro e w5 ⟨v5, rfl, o5, b5⟩
        rw [hall.out] at o5
        replace o5 := Lib.hid o5
        replace b5 := Lib.hid (hB.trans (b5.mono hB.size))
        go_wp2
        go_ret
        exact ⟨_, rfl, Own.mono o5.out hB.size, b5.out⟩
  | false =>
    have hh : headN false n = (n : Int) := if_neg (by simp)
    have hqw : IntKind.u8.wrap ((n : Int)) = (n : Int) := u8_wrap (by omega) (by omega)
    have O1 : Hid (Own .u8 5 (w1.alloc (.cells #[.int .u8 ((n : Int))] 5)) (w.heap.size + 1) (.slice (some ⟨w1.heap.size, 0, none⟩) 1 1) (partN false xs 0)) := by
      rw [partN_nil, HL.out, hh]
      exact Lib.hid (World.ownsRow_lit w1 #[.int .u8 ((n : Int))] 1 (by omega) (by simp [maxLen]) rfl)
    have hS1 := Lib.hid (show w.heap.size + 1 ≤ (w1.alloc (.cells #[.int .u8 ((n : Int))] 5)).heap.size by simp; omega)
    have k1 := Lib.hid (show ∀ o, (w1.alloc (.cells #[.int .u8 ((n : Int))] 5)).cell? ⟨w.heap.size, o, none⟩ = #[Value.bool false, .slice a n cap][o]? from fun o => (World.cell?_alloc_lt w1 _ ⟨w.heap.size, o, none⟩ (by show w.heap.size < _; omega)).trans (k0 o))
    replace B1 := Lib.hid (B1.out.alloc B1.out.size (.cells #[.int .u8 ((n : Int))] 5))
    have hl1 := Lib.hid (show (partN false xs 0).length = 1 by rw [partN_nil]; rfl)
    clear hh
    go_wp2
    clear c0 c1 k0 hqw
    go_loopw [4, 5] (fun v i wr => ∃ (k m : Nat) (va : Option Addr) (vc : Nat), k ≤ n ∧ v = .slice va m vc ∧ i = .int .i64 (k : Int) ∧ Hid ((partN false xs k).length = m) ∧ (∀ o, wr.cell? ⟨w.heap.size, o, none⟩ = #[Value.bool false, .slice a n cap][o]?) ∧ Hid (Own .u8 5 wr (w.heap.size + 1) (.slice va m vc) (partN false xs k)) ∧ Below w.heap.size w wr ∧ w.heap.size + 1 ≤ wr.heap.size) (fun _ i _ => n - (intOf i).toNat)
    case atStart => exact ⟨0, 1, _, _, Nat.zero_le _, rfl, rfl, hl1, k1.out, O1, B1.out, hS1.out⟩
    case round =>
      clear hl1 k1 O1 B1 hS1
      obtain ⟨k, m, va, vc, hk, rfl, rfl, hl, k0, HO, hB, hS⟩ := hrel
      have c1 := k0 1
      simp at c1
      by_cases hlt : k < n
      · obtain ⟨bb, off, x, rfl, hbl, hx, d0, d1, d2, d3, d4⟩ := rdIt_at (HR.out.below hB) hlt
        have HX := Lib.hid hx
        have z0 : (0 : Int) ≤ k := by omega
        have z1 : (k : Int) < n := by omega
        clear hx
        go_wp2_with fail
        refine (sPutEntry_any x wr).mono ?_
        rintro e w2 ⟨v2, rfl, o2, b2⟩
        obtain ⟨a2, c2, rfl, r2⟩ := Own.rd o2
        have k2 := keepc b2 (by show w.heap.size < _; omega) k0
        have HO2 := HO.out.below b2
        have B2 := hB.trans (b2.mono hB.size)
        have s2 := b2.size
        have HO2' : w2.ownsRow (w.heap.size + 1) 5 1 (.slice va m vc) m ((partN false xs k).map (Value.int .u8)) := by
          have := HO2
          unfold Own at this
          rw [hl.out] at this
          exact this
        have HH := Lib.hid HO2'
        have R2 := Lib.hid r2
        have hE := putE_le x
        have hL1 := partN_le false xs k
        rw [HL.out, hl.out] at hL1
        clear o2 b2 HO HO2 HO2' r2 d0 d1 d2 d3 d4
        go_wp2_with (at_builtin; refine append_src rfl (.tmp 27) (.tmp 33) 22 rfl (w.heap.size + 1) 5 i0 (.int .u8 0) 1 1 Try.underlying22 hi.out hz0.out hz1.out hz2.out rfl (by decide) (.slice va m vc) m ((partN false xs k).map (Value.int .u8)) rfl HH.out a2 (putE x).length c2 ((putE x).map (Value.int .u8)) rfl ?_ R2.out.1.2.2.2 R2.out.news (ints_oneCell _ _) ?_ ?_ ?_ ?_)
        case refine_1 => rw [List.length_map, Nat.mul_one]
        case refine_2 => unfold maxLen; omega
        case refine_3 => omega
        case refine_4 => omega
        intro v3 w3 o3 g3
        obtain ⟨a3, c3, rfl⟩ := owns_shape o3
        have hrow : ∀ j, (Value.slice va m vc).ownBlock = some j → w.heap.size + 1 ≤ j := fun j hj => (HH.out.lt j hj).1
        have O3 : Hid (Own .u8 5 w3 (w.heap.size + 1) (.slice a3 (m + (putE x).length) c3) (partN false xs (k + 1))) := by
          unfold Own
          rw [partN_more HX.out, List.length_append, hl.out, List.map_append]
          exact Lib.hid o3
        have hl3 : Hid ((partN false xs (k + 1)).length = m + (putE x).length) := by
          show _ = _
          rw [partN_more HX.out, List.length_append, hl.out]
        have k3 := Lib.hid (fresh_cells g3 hrow k2 (by omega) (by omega))
        have B3 := Lib.hid (B2.grown g3 B2.size (fun j hj => by have := hrow j hj; omega))
        have s3 := g3.size
        clear o3 g3 B2 k2 hB k0 hrow
        go_wp2
        go_roundw
        case rel => exact ⟨k + 1, m + (putE x).length, a3, c3, by omega, by go_num, by go_num, hl3, k3.out, O3, B3.out, by omega⟩
        case measure => simp [intOf]; omega
      · obtain rfl : k = n := by omega
        have hall : Hid (partN false xs k = bodyN false xs) := Lib.hid (partN_all (by rw [HL.out]; exact Nat.le_refl _))
        obtain ⟨a4, c4, hv4, r4⟩ := Own.rd HO.out
        rw [hl.out] at hv4 r4
        simp only [Value.slice.injEq, true_and] at hv4
        obtain ⟨rfl, rfl⟩ := hv4
        have hL1 := partN_le false xs k
        rw [HL.out, hl.out] at hL1
        have CP := Lib.hid (sPad_any va m vc (partN false xs k) 25 wr r4 (by omega) (wf_small 25 (by omega) (by omega)))
        clear r4 HO hL1
        go_wp2_with fail
        refine CP.out.mono ?_
        rintro e w5 ⟨v5, rfl, o5, b5⟩
        rw [hall.out] at o5
        replace o5 := Lib.hid o5
        replace b5 := Lib.hid (hB.trans (b5.mono hB.size))
        go_wp2
        go_ret
        exact ⟨_, rfl, Own.mono o5.out hB.size, b5.out⟩

set_option maxHeartbeats 400000 in
set_option maxRecDepth 100000 in
theorem sPutNode_any (b : Bool) (a : Option Addr) (n cap : Nat) (xs : List It) (w : World) (h : RdS itLay w a n cap xs) :
    Calls Try.prog 19 #[.agg #[.bool b, .slice a n cap]] w (Fresh8 w (putN b xs)) := by
  cases hok : nodeOkV b xs with
  | true =>
    have hr : putN b xs = pad (bodyN b xs) 25 := if_pos hok
    rw [hr]
    exact sPutNode_yes b a n cap xs w h hok
  | false =>
    have hr : Hid (putN b xs = []) := if_neg (by rw [hok]; exact Bool.false_ne_true)
    have B0 := Lib.hid (new_below w (.cells #[.bool b, .slice a n cap] 26))
    have CN := sNodeOk_any b a n cap xs _ (h.below B0.out)
    rw [hok] at CN
    replace CN := Lib.hid CN
    have K0 := (blk_new w #[.bool b, .slice a n cap] 26).1
    have k00 := K0 0
    have k01 := K0 1
    simp at k00 k01
    clear h hok
    go_enter Try.func19, Try.ntmps19
    go_wp2_with fail
    refine CN.out.mono ?_
    rintro e w1 ⟨rfl, hb⟩
    have B1 := Lib.hid (B0.out.trans (hb.mono B0.out.size))
    clear hb
    go_wp2
    go_ret
    refine ⟨_, rfl, ?_, B1.out.alloc B1.out.size _⟩
    rw [hr.out]
    exact own8_nil w1 w.heap.size w1.heap.size rfl B1.out.size
end Go.Proofs.Ytfgmjegemlkkkaa
