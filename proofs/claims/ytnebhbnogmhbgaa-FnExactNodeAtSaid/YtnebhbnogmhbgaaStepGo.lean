/- A call of a Go function at a step of a region that draws, met by its contract. -/
import Derived.Test.YtnebhbnogmhbgaaBase
import Derived.Deep.RegionLaw
import Derived.Calls
import Derived.Shelf.Abstract
namespace Go.Proofs.Ytnebhbnogmhbgaa
open Go.RowKit

theorem step_go {P : Program} {w : World} {ops : Array Oper} {o : Oper} {a : Act} {K : Act → World → Prop} {Q : Exit → Act → World → Prop} {E : Prop} (hgd : o.guard = none) (f : FuncId) (xs : Array Operand) (ts : Array TypeId)
    (ho : o.op = .call { callee := .value (.func f), args := xs, argTypes := ts }) (vs : Array Value) (hv : xs.map a.eval = vs) (eg : ∀ args w, (callFunc f args).run P w = .ok (.enter f args) w)
    {R : Value → World → Prop} (hc : Calls P f vs w fun e w' => ∃ v, e = .returned v ∧ R v w') (h : ∀ v w', R v w' → K (a.put o.dst v) w') :
    if Region.wanted o (yielded ops a.tmps) = true then Oper.wp P o a w K Q else E := by
  have hw : Region.wanted o (yielded ops a.tmps) = true := by simp [Region.wanted, hgd]
  rw [if_pos hw]
  subst hv
  have hrun : (execOp a.eval o).run P w = .ok (.enter f (xs.map a.eval)) w := by
    have e := eg (xs.map a.eval) w
    simp [execOp, ho, resolve, invoke, Act.eval, Deferred.ofValue]
    simpa using e
  unfold Oper.wp
  rw [hrun]
  show Calls P f _ w _
  refine hc.mono ?_
  rintro e w' ⟨v, rfl, hr⟩
  exact h v w' hr
end Go.Proofs.Ytnebhbnogmhbgaa
