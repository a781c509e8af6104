/- A region in the order of the text whose operations only read and whose callees make memory alone: walked once, the world left open. -/
import Derived.Test.YtnebhbnogmhbgaaQReacha
import Derived.Lib.QuietBelow
namespace Go.Proofs.Ytnebhbnogmhbgaa
open Go.RowKit

theorem wpList_of_quiet {P : Program} {ops : Array Oper} {C : World → Prop} {Q : Exit → Act → World → Prop} : ∀ (l : List Oper) (a : Act) (w : World), C w →
    wpQuiet P ops C (fun a' => ∀ w', C w' → Q .normal a' w') l a → wpList P ops Q l a w
  | [], _, w, hw, h => wpList_nil (h w hw)
  | o :: l, a, w, hw, h => by
    refine wpList_step fun K hK => ?_
    unfold wpQuiet at h
    by_cases hwant : Region.wanted o (yielded ops a.tmps) = true
    · simp only [hwant, if_true] at h ⊢
      exact Oper.wp_of_quiet hw (fun a' w' hw' h' => hK _ _ (wpList_of_quiet l a' w' hw' h')) h
    · simp only [hwant] at h ⊢
      exact hK _ _ (wpList_of_quiet l _ w hw h)

theorem wp_plain_quiet_below {P : Program} {id : Nat} {Q : Exit → Act → World → Prop} {a : Act} {w : World} {l : List Oper}
    (h : wpQuiet P l.toArray (fun w' => ∃ p : Regrown, w' = Go.Sort.grow (redrawn w p.d) p.os) (fun a' => ∀ w', (∃ p : Regrown, w' = Go.Sort.grow (redrawn w p.d) p.os) → Q .normal a' w') l a) : (Code.region id l.toArray false).wp P Q a w :=
  wp_region_lit (wpList_of_quiet l a w ⟨⟨w.drawn, #[]⟩, by rw [Go.Sort.grow_empty]; rfl⟩ h)

/-- What stands behind the walk: a world of which only 'Below' is known. -/
theorem quiet_end {w : World} {R : World → Prop} (h : ∀ w', Below w.heap.size w w' → R w') : ∀ w', (∃ p : Regrown, w' = Go.Sort.grow (redrawn w p.d) p.os) → R w' := by
  rintro _ ⟨p, rfl⟩
  exact h _ (below_regrown w p.d p.os)
/-- A cell in every world of the class. -/
theorem cellq {w : World} {b j : Nat} {v : Value} (h : w.cell? ⟨b, j, none⟩ = some v) : ∀ d os, (Go.Sort.grow (redrawn w d) os).cell? ⟨b, j, none⟩ = some v := cell_regrown h
/-- A contract in every world of the class, its value said otherwise. -/
theorem callq {P : Program} {f : FuncId} {args : Array Value} {w : World} {v v' : Value} (h : ∀ W, Below w.heap.size w W → Calls P f args W fun e w' => e = .returned v ∧ Below W.heap.size W w') (e : v = v') :
    ∀ d os, Calls P f args (Go.Sort.grow (redrawn w d) os) fun e w'' => e = .returned v' ∧ ∃ p : Regrown, w'' = Go.Sort.grow (redrawn w p.d) p.os :=
  fun d os => Calls.regrown_of (e ▸ h _ (below_regrown w d os))
/-- A contract in every world, its value said otherwise. -/
theorem callv {P : Program} {f : FuncId} {args : Array Value} {v v' : Value} (h : ∀ W, Calls P f args W fun e w' => e = .returned v ∧ Below W.heap.size W w') (e : v = v') : ∀ W, Calls P f args W fun e w' => e = .returned v' ∧ Below W.heap.size W w' := e ▸ h
theorem callr {P : Program} {f : FuncId} {args : Array Value} {w : World} {v : Value} {d : Nat} {os : Array Obj} (h : Calls P f args (Go.Sort.grow (redrawn w d) os) fun e w' => e = .returned v ∧ Below (Go.Sort.grow (redrawn w d) os).heap.size (Go.Sort.grow (redrawn w d) os) w') :
    Calls P f args (Go.Sort.grow (redrawn w d) os) fun e w'' => e = .returned v ∧ ∃ p : Regrown, w'' = Go.Sort.grow (redrawn w p.d) p.os := Calls.regrown_of h
end Go.Proofs.Ytnebhbnogmhbgaa
