/- The laws' own helpers on books: how large, a copy, equality. -/
import Derived.Test.YtnebhbnogmhbgaaPageZReach
namespace Go.Proofs.Ytnebhbnogmhbgaa
open Go.RowKit

def totP (ps : List PgV) : Nat := (ps.map (fun p => p.n)).sum
theorem totP_more {ps : List PgV} {k : Nat} {p : PgV} (h : ps[k]? = some p) : totP (ps.take (k + 1)) = totP (ps.take k) + p.n := by
  unfold totP
  rw [List.take_add_one, h, List.map_append, List.sum_append]
  simp

set_option maxRecDepth 100000 in
set_option maxHeartbeats 400000 in
theorem szPage_any (u b : Bool) (a : Option Addr) (n cap : Nat) (left : Int) (w : World) (hn : n ≤ maxLen) (hl : 0 ≤ left ∧ left ≤ 1048576) :
    Calls Try.prog 100 #[.agg #[.bool u, .bool b, .slice a n cap], .int .i64 left] w fun e w' => e = .returned (.int .i64 (if left - n < 0 then -1 else left - n)) ∧ Below w.heap.size w w' := by
  have B0 := new_below w (.cells #[.bool u, .bool b, .slice a n cap] 118)
  have C := Lib.hid (fun W : World => szNode_any b a n cap left W hn hl)
  by_cases h : left - n < 0
  · rw [if_pos h] at C ⊢
    go_enter Try.func100, Try.ntmps100
    go_wp2_with fail
    refine (C.out _).mono ?_
    rintro e w1 ⟨rfl, b1⟩
    replace B0 := B0.trans (b1.mono B0.size)
    clear b1
    go_wp2
    go_ret
    exact ⟨rfl, B0⟩
  · rw [if_neg h] at C ⊢
    have h2 : ¬ left - (n : Int) < 0 := h
    go_enter Try.func100, Try.ntmps100
    go_wp2_with fail
    refine (C.out _).mono ?_
    rintro e w1 ⟨rfl, b1⟩
    replace B0 := B0.trans (b1.mono B0.size)
    clear b1
    go_wp2
    go_ret
    exact ⟨rfl, B0⟩

/-- What is left, or less than nothing. -/
def LeftP (n t : Nat) (left : Int) (w : World) (e : Ending) (w' : World) : Prop := ∃ r : Int, e = .returned (.int .i64 r) ∧ (r < 0 ∨ (0 ≤ r ∧ r + n + t = left)) ∧ Below w.heap.size w w'

set_option maxRecDepth 100000 in
set_option maxHeartbeats 800000 in
theorem szPageS_any (a : Option Addr) (n cap : Nat) (ps : List PgV) (left : Int) (w : World) (h : RdP w a n cap ps) (hl : 0 ≤ left ∧ left ≤ 1048576) :
    Calls Try.prog 82 #[.slice a n cap, .int .i64 left] w (LeftP n (totP ps) left w) := by
  have hnc := h.1.1.2.1
  have hm := h.1.1.2.2.1
  unfold maxLen at hm
  have HR := Lib.hid h
  have HL := Lib.hid h.1.1.1
  clear h
  by_cases h0 : left - n < 0
  · go_enter Try.func82, Try.ntmps82
    go_wp2
    go_ret
    exact ⟨-1, rfl, .inl (by decide), Below.refl _ _⟩
  · go_enter Try.func82, Try.ntmps82
    go_wp2
    go_loopw [1, 5] (fun l i wr => ∃ (k : Nat) (r : Int), k ≤ n ∧ i = .int .i64 (k : Int) ∧ l = .int .i64 r ∧ 0 ≤ r ∧ Hid (r + n + totP (ps.take k) = left) ∧ Below w.heap.size w wr) (fun _ i _ => n - (intOf i).toNat)
    case atStart => exact ⟨0, left - n, Nat.zero_le _, rfl, rfl, by omega, Lib.hid (by simp [totP]), Below.refl _ _⟩
    case round =>
      obtain ⟨k, r, hk, rfl, rfl, hr0, HT, hB⟩ := hrel
      by_cases hlt : k < n
      · obtain ⟨b, off, p, rfl, hbl, hp, hrd, d0, d1, d2⟩ := rdP_at (HR.out.below hB) hlt
        have HP := Lib.hid hp
        have z0 : (0 : Int) ≤ k := by omega
        have z1 : (k : Int) < n := by omega
        have hpm : p.n ≤ maxLen := Nat.le_trans hrd.1.2.1 hrd.1.2.2.1
        have hrl : r ≤ 1048576 := by have := HT.out; omega
        have C := szPage_any p.used p.leaf p.a p.n p.cap r wr hpm ⟨hr0, hrl⟩
        clear hp hrd hpm
        by_cases h1 : r - p.n < 0
        · rw [if_pos h1] at C
          replace C := Lib.hid C
          clear h1
          go_wp2_with fail
          refine C.out.mono ?_
          rintro e w1 ⟨rfl, b1⟩
          replace hB := hB.trans (b1.mono hB.size)
          clear b1
          go_wp2
          go_ret
          exact ⟨-1, rfl, .inl (by decide), hB⟩
        · rw [if_neg h1] at C
          replace C := Lib.hid C
          have h2 : ¬ r - (p.n : Int) < 0 := h1
          have HT2 : Hid ((r - p.n) + n + totP (ps.take (k + 1)) = left) := by
            show _ = _
            have := HT.out
            rw [totP_more HP.out]
            omega
          go_wp2_with fail
          refine C.out.mono ?_
          rintro e w1 ⟨rfl, b1⟩
          replace hB := hB.trans (b1.mono hB.size)
          clear b1
          go_wp2
          go_roundw
          case rel => exact ⟨k + 1, r - p.n, by omega, by go_num, rfl, by omega, HT2, hB⟩
          case measure => simp [intOf]; omega
      · have HE : Hid (r + n + totP ps = left) := by
          have := HT.out
          rw [List.take_of_length_le (by rw [HL.out]; omega)] at this
          exact Lib.hid this
        go_wp2
        go_ret
        exact ⟨r, rfl, .inr ⟨hr0, HE.out⟩, hB⟩

set_option maxRecDepth 100000 in
set_option maxHeartbeats 400000 in
theorem szBook_any (root : Int) (a : Option Addr) (n cap : Nat) (ps : List PgV) (left : Int) (w : World) (h : RdP w a n cap ps) (hl : 0 ≤ left ∧ left ≤ 1048576) :
    Calls Try.prog 42 #[.agg #[.int .i64 root, .slice a n cap], .int .i64 left] w (LeftP n (totP ps) left w) := by
  have B0 := new_below w (.cells #[.int .i64 root, .slice a n cap] 56)
  have C := Lib.hid (szPageS_any a n cap ps left _ (h.below B0) hl)
  clear h
  go_enter Try.func42, Try.ntmps42
  go_wp2_with fail
  refine C.out.mono ?_
  rintro e w1 ⟨r, rfl, hr, b1⟩
  replace B0 := B0.trans (b1.mono B0.size)
  clear b1
  by_cases h0 : r < 0
  · go_wp2
    go_ret
    exact ⟨-1, rfl, .inl (by decide), B0⟩
  · go_wp2
    go_ret
    exact ⟨r, rfl, .inr (by omega), B0⟩

set_option maxRecDepth 100000 in
set_option maxHeartbeats 800000 in
theorem toPage_any (u b : Bool) (a : Option Addr) (n cap : Nat) (xs : List It) (w : World) (h : RdS itLay w a n cap xs) (hn : n ≤ 4398046511104) :
    Calls Try.prog 101 #[.agg #[.bool u, .bool b, .slice a n cap]] w fun e w' => ∃ v, e = .returned (.agg #[.bool u, .bool b, v]) ∧ OwnS itLay 91 w' w.heap.size v xs ∧ Below w.heap.size w w' := by
  have K := blk_alloc (.cells #[.bool u, .bool false, .slice none 0 0] 48) (by simp) _ _ (blk_new1 w (.cells #[.bool u, .bool b, .slice a n cap] 118) #[.bool false, .bool false, .slice none 0 0] 48)
  have J := blk_new2 w (.cells #[.bool u, .bool b, .slice a n cap] 118) (.cells #[.bool false, .bool false, .slice none 0 0] 48) #[.bool u, .bool false, .slice none 0 0] 48
  have B0 : Below w.heap.size w (((w.alloc (.cells #[.bool u, .bool b, .slice a n cap] 118)).alloc (.cells #[.bool false, .bool false, .slice none 0 0] 48)).alloc (.cells #[.bool u, .bool false, .slice none 0 0] 48)) := (((Below.refl _ _).alloc (Nat.le_refl _) _).alloc (by simp) _).alloc (by simp; omega) _
  replace K := Lib.hid K
  replace J := Lib.hid J
  have C := Lib.hid (toNode_any b a n cap xs _ (h.below B0) hn)
  go_enter Try.func101, Try.ntmps101
  go_wp2_with fail
  refine C.out.mono ?_
  rintro e w1 ⟨v, rfl, ho, hb⟩
  obtain ⟨av, cv, rfl, -⟩ := ho.rd
  have s1 := hb.size
  simp at s1
  obtain ⟨k0, f0⟩ := below_keep hb (by simp) _ _ K.out
  obtain ⟨j0, g0⟩ := below_keep hb (by simp) _ _ J.out
  have HO := Lib.hid ho
  have B := Lib.hid (B0.trans (hb.mono (by simp; omega)))
  clear ho hb B0 h C
  have hne : w.heap.size + 1 ≠ w.heap.size + 1 + 1 := by omega
  go_wp2
  refine bodyPost_ret (v := .agg #[.bool u, .bool b, .slice av xs.length cv]) (by simp [results, Try.results101, go_sem, k0]) rfl ⟨_, rfl, ?_, ?_⟩
  · have hap : ∀ j, (Value.slice av xs.length cv).ownBlock = some j → w.heap.size + 1 + 1 + 1 ≤ j := fun j hj => by have := (HO.out.lt j hj).1; simpa using this
    have O := HO.out
    simp only [size_alloc3] at O
    refine OwnS.mono (L := itLay) (base' := w.heap.size + 1 + 1 + 1) ?_ (by omega)
    refine ownS_set (ownS_set (ownS_set (ownS_set (ownS_set O ?_ _ _) ?_ _ _) ?_ _ _) ?_ _ _) ?_ _ _ <;> (intro hj; have := hap _ hj; omega)
  · exact ((((B.out.setCell (p := ⟨w.heap.size + 1 + 1, 1, none⟩) (show w.heap.size ≤ w.heap.size + 1 + 1 by omega) _).setCell (p := ⟨w.heap.size + 1 + 1, 2, none⟩) (show w.heap.size ≤ w.heap.size + 1 + 1 by omega) _).setCell (p := ⟨w.heap.size + 1, 0, none⟩) (show w.heap.size ≤ w.heap.size + 1 by omega) _).setCell (p := ⟨w.heap.size + 1, 1, none⟩) (show w.heap.size ≤ w.heap.size + 1 by omega) _).setCell (p := ⟨w.heap.size + 1, 2, none⟩) (show w.heap.size ≤ w.heap.size + 1 by omega) _
end Go.Proofs.Ytnebhbnogmhbgaa
