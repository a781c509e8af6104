/- What the program's functions on node encodings are to answer (to be proved of the landed code). -/
import Derived.Test.YtfgmjegemlkkkaaFormG
import Derived.Test.YtfgmjegemlkkkaaApart
namespace Go.Proofs.Ytfgmjegemlkkkaa
open Go.RowKit

def RetN3 (ok lf : Bool) (l : List It) (w : World) (e : Ending) (w' : World) : Prop := ∃ v, e = .returned (.tuple #[.agg #[.bool lf, v], .bool ok]) ∧ OwnS itLay 35 w' w.heap.size v l ∧ Below w.heap.size w w'
def CPutEntry (f : FuncId) : Prop := ∀ (x : It) (w : World),
  Calls Try.prog f #[.agg #[.int .i64 x.id, .int .i64 x.x0, .int .i64 x.y0, .int .i64 x.x1, .int .i64 x.y1]] w (Fresh8 w (putE x))
def CGetEntry (f : FuncId) : Prop := ∀ (a : Option Addr) (n c : Nat) (bs : List Int) (x : Int) (w : World), RdI .u8 w a n c bs → (∀ j, 0 ≤ bs.getD j 0 ∧ bs.getD j 0 ≤ 255) → n ≤ 100000000 → (Lit.int .i64 x).wf = true →
  Calls Try.prog f #[.slice a n c, .int .i64 x] w (RetE (getE bs x) (hasE bs x) w)
def CPutNode (f : FuncId) : Prop := ∀ (b : Bool) (a : Option Addr) (n cap : Nat) (xs : List It) (w : World), RdS itLay w a n cap xs → n ≤ 1099511627776 →
  Calls Try.prog f #[.agg #[.bool b, .slice a n cap]] w (Fresh8 w (putN b xs))
def CGetNode (f : FuncId) : Prop := ∀ (a : Option Addr) (n c : Nat) (bs : List Int) (w : World), RdI .u8 w a n c bs → (∀ j, 0 ≤ bs.getD j 0 ∧ bs.getD j 0 ≤ 255) → n ≤ 100000000 →
  Calls Try.prog f #[.slice a n c] w (RetN bs w)
theorem listN_len (bs : List Int) : (if okN bs then listN bs else []).length ≤ 4 := by
  split
  · unfold listN
    split
    · rw [rawAll_len]; assumption
    · exact Nat.zero_le _
  · exact Nat.zero_le _
theorem rows_apart {w w' : World} {base base' : Nat} {e e' : TypeId} {size size' : Nat} {v v' : Value} {n n' : Nat} {xs xs' : List Value} (h : w.ownsRow base e size v n xs) (h' : w'.ownsRow base' e' size' v' n' xs') (hb : w.heap.size ≤ base') : Apart v v' := by
  intro g hv hv'
  have h1 := World.ownsRow.lt h g hv
  have h2 := World.ownsRow.lt h' g hv'
  omega
theorem rdB {k : IntKind} {e : TypeId} {w : World} {base : Nat} {a : Option Addr} {n cap : Nat} {zs : List Int} (h : Own k e w base (.slice a n cap) zs) : RdI k w a zs.length cap zs := by
  obtain ⟨a', c', hv, hr⟩ := h.rd
  simp only [Value.slice.injEq] at hv
  obtain ⟨rfl, -, rfl⟩ := hv
  exact hr
end Go.Proofs.Ytfgmjegemlkkkaa
