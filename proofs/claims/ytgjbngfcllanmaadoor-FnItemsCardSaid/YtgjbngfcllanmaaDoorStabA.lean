/- The library's stable sort: what an exchange of two items does to a row that the call owns. -/
import Derived.Test.YtgjbngfcllanmaaDoorSlice
import Derived.Test.YtgjbngfcllanmaaDoorItemS
import Derived.BigQuiet
import Derived.BigRegion
namespace Go.Proofs.YtgjbngfcllanmaaDoor
open Go.RowKit

/-- A row of items that the call owns: n of them from block g on. -/
def RowI (g n cap base : Nat) (xs : List It) (w : World) : Prop := OwnS itLay 30 w base (.slice (some ⟨g, 0, none⟩) n cap) xs ∧ xs.length = n

theorem RowI.below {g n cap base : Nat} {xs : List It} {w w' : World} (h : RowI g n cap base xs w) (hB : Below w.heap.size w w') : RowI g n cap base xs w' := ⟨h.1.below hB, h.2⟩
theorem RowI.drew {g n cap base : Nat} {xs : List It} {w : World} (h : RowI g n cap base xs w) : RowI g n cap base xs w.drew := h.below ((Below.refl _ _).drew)
theorem RowI.lt {g n cap base : Nat} {xs : List It} {w : World} (h : RowI g n cap base xs w) : base ≤ g ∧ g < w.heap.size := World.ownsRow.lt h.1 g rfl
theorem RowI.get {g n cap base i : Nat} {xs : List It} {w : World} (h : RowI g n cap base xs w) (hi : i < n) {x : It} (hx : xs.getD i zeroIt = x) :
    w.cell? ⟨g, i * 5, none⟩ = some (.int .i64 x.id) ∧ w.cell? ⟨g, i * 5 + 1, none⟩ = some (.int .i64 x.x0) ∧ w.cell? ⟨g, i * 5 + 2, none⟩ = some (.int .i64 x.y0) ∧ w.cell? ⟨g, i * 5 + 3, none⟩ = some (.int .i64 x.x1) ∧ w.cell? ⟨g, i * 5 + 4, none⟩ = some (.int .i64 x.y1) := by
  obtain ⟨ho, rfl⟩ := h
  obtain ⟨a, c, hv, hr⟩ := ho.rd
  obtain ⟨b, off, y, e1, _, hy, d0, d1, d2, d3, d4⟩ := rdIt_at hr hi
  simp only [Value.slice.injEq] at hv
  obtain ⟨rfl, -, rfl⟩ := hv
  obtain ⟨rfl, rfl⟩ : g = b ∧ 0 = off := by simpa using e1
  simp only [Nat.zero_add] at d0 d1 d2 d3 d4
  obtain rfl : y = x := by rw [← hx, List.getD_eq_getElem?_getD, hy]; rfl
  exact ⟨d0, d1, d2, d3, d4⟩
theorem RowI.some {g n cap base i : Nat} {xs : List It} {w : World} (h : RowI g n cap base xs w) (hi : i < n) :
    ∃ x : It, w.cell? ⟨g, i * 5, none⟩ = some (.int .i64 x.id) ∧ w.cell? ⟨g, i * 5 + 1, none⟩ = some (.int .i64 x.x0) ∧ w.cell? ⟨g, i * 5 + 2, none⟩ = some (.int .i64 x.y0) ∧ w.cell? ⟨g, i * 5 + 3, none⟩ = some (.int .i64 x.x1) ∧ w.cell? ⟨g, i * 5 + 4, none⟩ = some (.int .i64 x.y1) := ⟨_, h.get hi rfl⟩
theorem RowI.froz {g n cap base : Nat} {xs : List It} {w : World} (h : RowI g n cap base xs w) (j : Nat) : w.frozen? ⟨g, j, none⟩ = false := by
  obtain ⟨ho, rfl⟩ := h
  exact World.ownsRow.frozenAt ho j
/-- An item is written over another. -/
theorem RowI.set {g n cap base : Nat} {xs : List It} {w : World} (h : RowI g n cap base xs w) (i : Nat) (hi : i < n) (x : It) :
    RowI g n cap base (xs.set i x) (((((w.setCell ⟨g, i * 5, none⟩ (.int .i64 x.id)).setCell ⟨g, i * 5 + 1, none⟩ (.int .i64 x.x0)).setCell ⟨g, i * 5 + 2, none⟩ (.int .i64 x.y0)).setCell ⟨g, i * 5 + 3, none⟩ (.int .i64 x.x1)).setCell ⟨g, i * 5 + 4, none⟩ (.int .i64 x.y1)) := by
  obtain ⟨ho, rfl⟩ := h
  refine ⟨?_, by simp⟩
  unfold OwnS at ho ⊢
  rw [List.length_set, ← flat_setI xs i x hi]
  exact (((((ho.stored (i * 5) _).1.stored (i * 5 + 1) _).1.stored (i * 5 + 2) _).1.stored (i * 5 + 3) _).1.stored (i * 5 + 4) _).1

/-- Two items change places. -/
def swpI (xs : List It) (i j : Nat) : List It := (xs.set i (xs.getD j zeroIt)).set j (xs.getD i zeroIt)
theorem swpI_len (xs : List It) (i j : Nat) : (swpI xs i j).length = xs.length := by simp [swpI]

/-- k items from a on change places with k items from b on. -/
def swpR (xs : List It) (a b : Nat) : Nat → List It
  | 0 => xs
  | k + 1 => swpI (swpR xs a b k) (a + k) (b + k)
theorem swpR_len (xs : List It) (a b : Nat) : ∀ k, (swpR xs a b k).length = xs.length
  | 0 => rfl
  | k + 1 => by unfold swpR; rw [swpI_len, swpR_len xs a b k]

theorem RowI.swap {g n cap base : Nat} {xs : List It} {w : World} (h : RowI g n cap base xs w) (i j : Nat) (hi : i < n) (hj : j < n) {x y : It} (hx : xs.getD i zeroIt = x) (hy : xs.getD j zeroIt = y) :
    RowI g n cap base (swpI xs i j) (((((((((((w.setCell ⟨g, i * 5, none⟩ (.int .i64 y.id)).setCell ⟨g, i * 5 + 1, none⟩ (.int .i64 y.x0)).setCell ⟨g, i * 5 + 2, none⟩ (.int .i64 y.y0)).setCell ⟨g, i * 5 + 3, none⟩ (.int .i64 y.x1)).setCell ⟨g, i * 5 + 4, none⟩ (.int .i64 y.y1)).setCell ⟨g, j * 5, none⟩ (.int .i64 x.id)).setCell ⟨g, j * 5 + 1, none⟩ (.int .i64 x.x0)).setCell ⟨g, j * 5 + 2, none⟩ (.int .i64 x.y0)).setCell ⟨g, j * 5 + 3, none⟩ (.int .i64 x.x1)).setCell ⟨g, j * 5 + 4, none⟩ (.int .i64 x.y1)).drew) := by
  subst hx hy
  exact ((h.set i hi _).set j hj _).drew
theorem below_set5 {w W : World} {N g : Nat} (h : Below N w W) (hg : N ≤ g) (i0 i1 i2 i3 i4 : Nat) (u0 u1 u2 u3 u4 : Value) :
    Below N w (((((W.setCell ⟨g, i0, none⟩ u0).setCell ⟨g, i1, none⟩ u1).setCell ⟨g, i2, none⟩ u2).setCell ⟨g, i3, none⟩ u3).setCell ⟨g, i4, none⟩ u4) :=
  ((((h.setCell (p := ⟨g, i0, none⟩) hg _).setCell (p := ⟨g, i1, none⟩) hg _).setCell (p := ⟨g, i2, none⟩) hg _).setCell (p := ⟨g, i3, none⟩) hg _).setCell (p := ⟨g, i4, none⟩) hg _

set_option maxHeartbeats 1600000 in
set_option maxRecDepth 100000 in
theorem swapRange_any (g n cap base f a b k : Nat) (xs : List It) (w : World) (h : RowI g n cap base xs w) (hn : n ≤ 1099511627776) (ha : a + k ≤ n) (hb : b + k ≤ n) :
    Calls Tryd.prog 80 #[.slice (some ⟨g, 0, none⟩) n cap, .int .i64 a, .int .i64 b, .int .i64 k, .func (.func f) #[] #[]] w fun e w' =>
      e = .returned (.tuple #[]) ∧ RowI g n cap base (swpR xs a b k) w' ∧ Below base w w' := by
  have H := Lib.hid h
  have G := Lib.hid h.lt
  clear h
  go_enter Tryd.func80, Tryd.ntmps80
  go_wp2
  go_loopw [10] (fun i wr => ∃ j : Nat, j ≤ k ∧ i = .int .i64 j ∧ RowI g n cap base (swpR xs a b j) wr ∧ Below base w wr) (fun i _ => k - (intOf i).toNat)
  case atStart => exact ⟨0, Nat.zero_le _, rfl, H.out, Below.refl _ _⟩
  case round =>
    obtain ⟨j, hj, rfl, hr, hB⟩ := hrel
    by_cases hlt : j < k
    · have hz : (j : Int) < (k : Int) := by omega
      obtain ⟨p, hp⟩ : ∃ p, p = a + j := ⟨_, rfl⟩
      obtain ⟨q, hq⟩ : ∃ q, q = b + j := ⟨_, rfl⟩
      obtain ⟨x, hx⟩ : ∃ x, (swpR xs a b j).getD p zeroIt = x := ⟨_, rfl⟩
      obtain ⟨y, hy⟩ : ∃ y, (swpR xs a b j).getD q zeroIt = y := ⟨_, rfl⟩
      obtain ⟨c0, c1, c2, c3, c4⟩ := hr.get (by omega) hx
      obtain ⟨d0, d1, d2, d3, d4⟩ := hr.get (by omega) hy
      have fz := hr.froz
      obtain ⟨e0, e1, e2, e3, e4⟩ := (hr.set p (by omega) y).get (i := q) (by omega) rfl
      have fz2 := (hr.set p (by omega) y).froz
      have ep : IntKind.i64.wrap ((a : Int) + (j : Int)) = (p : Int) := by rw [IntKind.wrap_i64]; omega
      have eq : IntKind.i64.wrap ((b : Int) + (j : Int)) = (q : Int) := by rw [IntKind.wrap_i64]; omega
      have z1 : (p : Int) < (n : Int) := by omega
      have z2 : (q : Int) < (n : Int) := by omega
      have R := Lib.hid hr
      have BB := Lib.hid hB
      have PQ := Lib.hid (And.intro hp hq)
      replace hx := Lib.hid hx
      replace hy := Lib.hid hy
      clear hr hB hp hq
      go_wp2_with fail
      go_big_region
      all_goals go_wp2
      all_goals
        go_roundw
        case rel =>
          refine ⟨j + 1, by omega, by go_num, ?_, (below_set5 (below_set5 BB.out G.out.1 _ _ _ _ _ _ _ _ _ _) G.out.1 _ _ _ _ _ _ _ _ _ _).drew⟩
          have S := R.out.swap p q (by omega) (by omega) hx.out hy.out
          obtain ⟨rfl, rfl⟩ := PQ.out
          exact S
        case measure => simp [intOf]; omega
    · have hz : ¬ (j : Int) < (k : Int) := by omega
      obtain rfl : j = k := by omega
      go_wp2
      go_end0
      exact ⟨rfl, hr, hB⟩
end Go.Proofs.YtgjbngfcllanmaaDoor
