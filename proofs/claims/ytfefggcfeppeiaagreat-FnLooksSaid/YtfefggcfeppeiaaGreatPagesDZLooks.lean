/- FnPages' draws. -/
import Derived.Test.YtfefggcfeppeiaaGreatReachesZLooks
namespace Go.Proofs.YtfefggcfeppeiaaGreat
open Go.RowKit

/-- A drawn book in new memory, and a number. -/
def NewBkI (N B : Nat) (lo hi : Int) (w : World) (e : Ending) (w' : World) : Prop := ∃ (root i : Int) (v : Value) (ps : List PgV), e = .returned (.tuple #[.agg #[.int .i64 root, v], .int .i64 i]) ∧ lo ≤ i ∧ i ≤ hi ∧ Fits N B (ps.map PgV.pg) ∧ OwnP w' w.heap.size v ps ∧ Below w.heap.size w w'

theorem OwnP.storeN {w : World} {base q : Nat} {v : Value} {ps : List PgV} (h : OwnP w base v ps) (t : TagT 59 w q) (j : Nat) (u : Value) : OwnP (w.setCell ⟨q, j, none⟩ u) base v ps := by
  have hG := grown_setCell (World.grownBy.refl w (some q)) q j u rfl
  exact ⟨OwnS.kept h.row hG (own_ne (t.ne h.row (by decide))), fun p hp => OwnS.kept (h.ent p hp) hG (own_ne (t.ne (h.ent p hp) (by decide))), h.out, h.pair⟩
/-- A drawn book, a number and a node, in new memory. -/
def NewBkP (N B : Nat) (lo hi : Int) (w : World) (e : Ending) (w' : World) : Prop := ∃ (root i : Int) (v : Value) (ps : List PgV) (b : Bool) (u : Value) (ys : List It), e = .returned (.tuple #[.agg #[.int .i64 root, v], .int .i64 i, .agg #[.bool b, u]]) ∧ lo ≤ i ∧ i ≤ hi ∧ ys.length ≤ 4 ∧ Fits N B (ps.map PgV.pg) ∧ OwnP w' w.heap.size v ps ∧ OwnS itLay 77 w' w.heap.size u ys ∧ Below w.heap.size w w'

theorem free_a {w w6 : World} {R b1 : Nat} {x y : Int} {u1 u2 v : Value} {ps : List PgV} (P : OwnP w6 b1 v ps) (T : TagT 26 w6 R) (hR : R < w6.heap.size) (hb : R ≤ b1) (Q : Below R w w6) : OwnP (((w6.alloc (.cells #[.int .i64 x, .int .i64 y] 3)).setCell ⟨R, 0, none⟩ u1).setCell ⟨R, 1, none⟩ u2) R v ps ∧ RdI .i64 (((w6.alloc (.cells #[.int .i64 x, .int .i64 y] 3)).setCell ⟨R, 0, none⟩ u1).setCell ⟨R, 1, none⟩ u2) (some ⟨w6.heap.size, 0, none⟩) 2 2 [x, y] ∧ Below R w (((w6.alloc (.cells #[.int .i64 x, .int .i64 y] 3)).setCell ⟨R, 0, none⟩ u1).setCell ⟨R, 1, none⟩ u2) := by
  have bA := new_below w6 (.cells #[.int .i64 x, .int .i64 y] 3)
  have TA := T.of (bA.block _ hR)
  have r0 : (w6.alloc (.cells #[.int .i64 x, .int .i64 y] 3)).ownsRow R 3 1 (.slice (some ⟨w6.heap.size, 0, none⟩) 2 2) 2 [.int .i64 x, .int .i64 y] := World.ownsRow_lit (base := R) (size := 1) (e := 3) w6 #[.int .i64 x, .int .i64 y] 2 (by omega) (by simp [maxLen]) rfl
  have ne : (Value.slice (some ⟨w6.heap.size, 0, none⟩) 2 2).ownBlock = none ∨ (Value.slice (some ⟨w6.heap.size, 0, none⟩) 2 2).ownBlock ≠ some R := .inr (fun e => by have h1 : w6.heap.size = R := Option.some.inj e; omega)
  have r1 := World.ownsRow.kept r0 (grown_setCell (World.grownBy.refl _ (some R)) R 0 u1 rfl) ne
  have r2 := World.ownsRow.kept r1 (grown_setCell (World.grownBy.refl _ (some R)) R 1 u2 rfl) ne
  refine ⟨(((P.below bA).store TA 0 _).store (TA.set _ _ _) 1 _).mono hb, ?_, ((Q.trans (bA.mono (by have := Q.size; omega))).setCell (p := ⟨R, 0, none⟩) (Nat.le_refl _) _).setCell (p := ⟨R, 1, none⟩) (Nat.le_refl _) _⟩
  exact rdI_owns (k := .i64) (zs := [x, y]) r2 rfl
theorem free_b {w w6 : World} {R b1 : Nat} {x y : Int} {u1 u2 v : Value} {ps : List PgV} (P : OwnP w6 b1 v ps) (T : TagT 26 w6 R) (hR : R < w6.heap.size) (hb : R ≤ b1) (Q : Below R w w6) : OwnP (((w6.setCell ⟨R, 0, none⟩ u1).setCell ⟨R, 1, none⟩ u2).alloc (.cells #[.int .i64 x, .int .i64 y] 3)) R v ps ∧ RdI .i64 (((w6.setCell ⟨R, 0, none⟩ u1).setCell ⟨R, 1, none⟩ u2).alloc (.cells #[.int .i64 x, .int .i64 y] 3)) (some ⟨w6.heap.size, 0, none⟩) 2 2 [x, y] ∧ Below R w (((w6.setCell ⟨R, 0, none⟩ u1).setCell ⟨R, 1, none⟩ u2).alloc (.cells #[.int .i64 x, .int .i64 y] 3)) := by
  have QB := (Q.setCell (p := ⟨R, 0, none⟩) (Nat.le_refl _) u1).setCell (p := ⟨R, 1, none⟩) (Nat.le_refl _) u2
  refine ⟨((((P.store T 0 _).store (T.set _ _ _) 1 _).below (new_below _ _))).mono hb, ?_, QB.alloc (by have := Q.size; simp; omega) _⟩
  have h1 : ((w6.setCell ⟨R, 0, none⟩ u1).setCell ⟨R, 1, none⟩ u2).heap.size = w6.heap.size := by simp
  rw [← h1]
  exact rdI_new _ .i64 [x, y] _ _ 2 rfl rfl (by simp [maxLen])

/-- A drawn book and two numbers, in new memory. -/
def NewBkL (N B : Nat) (lo hi : Int) (w : World) (e : Ending) (w' : World) : Prop := ∃ (root x y : Int) (v : Value) (ps : List PgV) (ad : Option Addr), e = .returned (.tuple #[.agg #[.int .i64 root, v], .slice ad 2 2]) ∧ (lo ≤ x ∧ x ≤ hi) ∧ (0 ≤ y ∧ y ≤ 5) ∧ Fits N B (ps.map PgV.pg) ∧ OwnP w' w.heap.size v ps ∧ RdI .i64 w' ad 2 2 [x, y] ∧ Below w.heap.size w w'

/-- Two drawn books in new memory. -/
def NewBk2 (N B : Nat) (w : World) (e : Ending) (w' : World) : Prop := ∃ (r1 r2 : Int) (v1 v2 : Value) (p1 p2 : List PgV), e = .returned (.tuple #[.agg #[.int .i64 r1, v1], .agg #[.int .i64 r2, v2]]) ∧ Fits N B (p1.map PgV.pg) ∧ Fits N B (p2.map PgV.pg) ∧ OwnP w' w.heap.size v1 p1 ∧ OwnP w' w.heap.size v2 p2 ∧ Below w.heap.size w w'

end Go.Proofs.YtfefggcfeppeiaaGreat
