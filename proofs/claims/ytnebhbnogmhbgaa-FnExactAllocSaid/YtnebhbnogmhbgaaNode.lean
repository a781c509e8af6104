/- The laws' own helpers on nodes: a copy, how large, equality, marks. -/
import Derived.Test.YtnebhbnogmhbgaaEntryM
import Derived.Test.YtnebhbnogmhbgaaApart
import Derived.Test.YtnebhbnogmhbgaaDraw
namespace Go.Proofs.Ytnebhbnogmhbgaa
open Go.RowKit

theorem size_alloc3 (w : World) (a b c : Obj) : (((w.alloc a).alloc b).alloc c).heap.size = w.heap.size + 1 + 1 + 1 := by simp
theorem ownS_set {w : World} {e : TypeId} {base g : Nat} {v : Value} {xs : List It} (h : OwnS itLay e w base v xs) (hg : v.ownBlock = some g → False) (j : Nat) (u : Value) : OwnS itLay e (w.setCell ⟨g, j, none⟩ u) base v xs := by
  refine OwnS.kept h (grown_setCell (World.grownBy.refl _ _) g j u rfl) ?_
  cases hv : v.ownBlock with
  | none => exact .inl rfl
  | some i => exact .inr fun e => hg (hv.trans e)
/-- A node in new memory: its entries are owned. -/
def NewNode (b : Bool) (xs : List It) (w : World) (e : Ending) (w' : World) : Prop := ∃ v, e = .returned (.agg #[.bool b, v]) ∧ OwnS itLay 91 w' w.heap.size v xs ∧ Below w.heap.size w w'

set_option maxRecDepth 100000 in
set_option maxHeartbeats 800000 in
/-- laws.toNode: a copy in new memory. -/
theorem toNode_any (b : Bool) (a : Option Addr) (n cap : Nat) (xs : List It) (w : World) (h : RdS itLay w a n cap xs) (hn : n ≤ 4398046511104) :
    Calls Try.prog 48 #[.agg #[.bool b, .slice a n cap]] w (NewNode b xs w) := by
  have K := blk_alloc (.cells #[.bool b, .slice none 0 0] 32) (by simp) _ _ (blk_new1 w (.cells #[.bool b, .slice a n cap] 63) #[.bool false, .slice none 0 0] 32)
  have J := blk_new2 w (.cells #[.bool b, .slice a n cap] 63) (.cells #[.bool false, .slice none 0 0] 32) #[.bool b, .slice none 0 0] 32
  have B0 : Below w.heap.size w (((w.alloc (.cells #[.bool b, .slice a n cap] 63)).alloc (.cells #[.bool false, .slice none 0 0] 32)).alloc (.cells #[.bool b, .slice none 0 0] 32)) := (((Below.refl _ _).alloc (Nat.le_refl _) _).alloc (by simp) _).alloc (by simp; omega) _
  replace K := Lib.hid K
  replace J := Lib.hid J
  go_enter Try.func48, Try.ntmps48
  go_wp2_with fail
  refine (toEntryS_any a n cap xs _ (h.below B0) hn).mono ?_
  rintro e w1 ⟨v, rfl, ho, hb⟩
  obtain ⟨av, cv, rfl, hr⟩ := ho.rd
  have s1 := hb.size
  simp at s1
  obtain ⟨k0, f0⟩ := below_keep hb (by simp) _ _ K.out
  obtain ⟨j0, g0⟩ := below_keep hb (by simp) _ _ J.out
  have HO := Lib.hid ho
  have B := Lib.hid (B0.trans (hb.mono (by simp; omega)))
  clear ho hr hb B0 h
  have hne : w.heap.size + 1 ≠ w.heap.size + 1 + 1 := by omega
  go_wp2
  refine bodyPost_ret (v := .agg #[.bool b, .slice av xs.length cv]) (by simp [results, Try.results48, go_sem, k0]) rfl ⟨_, rfl, ?_, ?_⟩
  · refine OwnS.mono (L := itLay) (base' := w.heap.size + 1 + 1 + 1) ?_ (by omega)
    have hap : ∀ j, (Value.slice av xs.length cv).ownBlock = some j → w.heap.size + 1 + 1 + 1 ≤ j := fun j hj => by have := (HO.out.lt j hj).1; simpa using this
    have O := HO.out
    simp only [size_alloc3] at O
    refine ownS_set (ownS_set (ownS_set O ?_ _ _) ?_ _ _) ?_ _ _ <;> (intro hj; have := hap _ hj; omega)
  · exact ((B.out.setCell (p := ⟨w.heap.size + 1 + 1, 1, none⟩) (show w.heap.size ≤ w.heap.size + 1 + 1 by omega) _).setCell (p := ⟨w.heap.size + 1, 0, none⟩) (show w.heap.size ≤ w.heap.size + 1 by omega) _).setCell (p := ⟨w.heap.size + 1, 1, none⟩) (show w.heap.size ≤ w.heap.size + 1 by omega) _

set_option maxRecDepth 100000 in
set_option maxHeartbeats 400000 in
/-- laws.szNode. -/
theorem szNode_any (b : Bool) (a : Option Addr) (n cap : Nat) (left : Int) (w : World) (hn : n ≤ maxLen) (hl : 0 ≤ left ∧ left ≤ 1048576) :
    Calls Try.prog 47 #[.agg #[.bool b, .slice a n cap], .int .i64 left] w fun e w' => e = .returned (.int .i64 (if left - n < 0 then -1 else left - n)) ∧ Below w.heap.size w w' := by
  have C := Lib.hid (fun W : World => szEntryS_any a n cap left W hn hl)
  by_cases h : left - n < 0
  · rw [if_pos h] at C ⊢
    go_enter Try.func47, Try.ntmps47
    go_wp2_with fail
    refine (C.out _).mono ?_
    rintro e w1 ⟨rfl, rfl⟩
    go_wp2
    go_ret
    exact ⟨rfl, new_below _ _⟩
  · rw [if_neg h] at C ⊢
    have h2 : ¬ left - (n : Int) < 0 := h
    go_enter Try.func47, Try.ntmps47
    go_wp2_with fail
    refine (C.out _).mono ?_
    rintro e w1 ⟨rfl, rfl⟩
    go_wp2
    go_ret
    exact ⟨rfl, new_below _ _⟩

set_option maxRecDepth 100000 in
set_option maxHeartbeats 800000 in
/-- laws.eqNode: two nodes that read alike. -/
theorem eqNode_same (c : Bool) (a b : Option Addr) (n c1 c2 : Nat) (xs : List It) (w : World) (h : RdS itLay w a n c1 xs) (h' : RdS itLay w b n c2 xs) (hn : n ≤ 4398046511104) :
    Calls Try.prog 44 #[.agg #[.bool c, .slice a n c1], .agg #[.bool c, .slice b n c2]] w fun e w' => e = .returned (.bool true) ∧ Below w.heap.size w w' := by
  have B0 : Below w.heap.size w ((w.alloc (.cells #[.bool c, .slice a n c1] 32)).alloc (.cells #[.bool c, .slice b n c2] 32)) := ((Below.refl _ _).alloc (Nat.le_refl _) _).alloc (by simp) _
  go_enter Try.func44, Try.ntmps44
  go_wp2_with fail
  refine (eqEntryS_same a b n c1 c2 xs _ (h.below B0) (h'.below B0) hn).mono ?_
  rintro e w1 ⟨rfl, hb⟩
  go_wp2
  go_ret
  exact ⟨rfl, B0.trans (hb.mono (by simp; omega))⟩

set_option maxRecDepth 100000 in
set_option maxHeartbeats 800000 in
/-- laws.markNode: writes k, k + 1, .. into the entries that are owned. -/
theorem markNode_any (c : Bool) (a : Option Addr) (n cap : Nat) (xs : List It) (k : Int) (base : Nat) (w : World) (h : w.ownsRow base 91 5 (.slice a n cap) n (xs.flatMap itLay.cells)) (hz : xs.length = n) (hk0 : 0 ≤ k) (hk : k ≤ 1000000000) (hn : n ≤ 1000000000) :
    Calls Try.prog 45 #[.agg #[.bool c, .slice a n cap], .int .i64 k] w fun e w' =>
      e = .returned (.int .i64 (k + 5 * n)) ∧ w'.ownsRow base 91 5 (.slice a n cap) n ((markedI n k).flatMap itLay.cells) ∧ w.grownBy w' (Value.slice a n cap).ownBlock := by
  have H := Lib.hid (World.ownsRow.alloc h (.cells #[.bool c, .slice a n cap] 32))
  clear h
  go_enter Try.func45, Try.ntmps45
  go_wp2_with fail
  refine (markEntryS_any a n cap xs k base _ H.out hz hk0 hk hn).mono ?_
  rintro e w1 ⟨rfl, ho, hg⟩
  have HO := Lib.hid ho
  have HG := Lib.hid (grown_trans (World.grownBy_alloc w (.cells #[.bool c, .slice a n cap] 32) _) hg)
  clear ho hg
  go_wp2
  go_ret
  exact ⟨rfl, HO.out, HG.out⟩

set_option maxRecDepth 100000 in
set_option maxHeartbeats 800000 in
/-- laws.heldNode: a node that reads as it was marked. -/
theorem heldNode_any (c : Bool) (a : Option Addr) (n cap : Nat) (k : Int) (w : World) (h : RdS itLay w a n cap (markedI n k)) (hk0 : 0 ≤ k) (hk : k ≤ 1000000000) (hn : n ≤ 1000000000) :
    Calls Try.prog 46 #[.agg #[.bool c, .slice a n cap], .int .i64 k] w fun e w' => e = .returned (.int .i64 (k + 5 * n)) ∧ Below w.heap.size w w' := by
  have h0 : ¬ k + 5 * (n : Int) < 0 := by omega
  go_enter Try.func46, Try.ntmps46
  go_wp2_with fail
  refine (heldEntryS_any a n cap k _ (h.below (new_below w _)) hk0 hk hn).mono ?_
  rintro e w1 ⟨rfl, rfl⟩
  go_wp2
  go_ret
  exact ⟨rfl, new_below _ _⟩
end Go.Proofs.Ytnebhbnogmhbgaa
