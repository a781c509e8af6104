/- The model's draws of two rectangles. -/
import Derived.Test.YtfefggcfeppeiaaDrawBoxZPages
namespace Go.Proofs.Ytfefggcfeppeiaa
open Go.RowKit

/-- Two rectangles, drawn. -/
def DrawnTwo (g : Nat) (zs : List Int) (w : World) (e : Ending) (w' : World) : Prop :=
  ∃ a b c d p q r s, e = .returned (.tuple #[.agg #[.int .i64 a, .int .i64 b, .int .i64 c, .int .i64 d], .agg #[.int .i64 p, .int .i64 q, .int .i64 r, .int .i64 s]]) ∧ Any4 a b c d ∧ Any4 p q r s ∧ Cur g zs w' ∧ w.grownBy w' (some g)

theorem cur_drew {g : Nat} {zs : List Int} {W : World} (h : Cur g zs W) : Cur g zs W.drew := cur_kept (row := none) h ⟨rfl, rfl, rfl, Nat.le_refl _, fun _ _ _ => rfl⟩ (fun _ hk => by cases hk)
theorem grown_drew {w W : World} {row : Option Nat} (h : w.grownBy W row) : w.grownBy W.drew row := ⟨h.os, h.tape, h.output, h.size, h.block⟩

theorem i64_mst {a b : Int} (h : I64 a) (h' : I64 b) : I64 (mst a b) := by unfold mst; split <;> assumption

end Go.Proofs.Ytfefggcfeppeiaa
