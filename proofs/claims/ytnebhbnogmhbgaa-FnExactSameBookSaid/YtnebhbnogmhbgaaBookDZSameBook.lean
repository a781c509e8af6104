/- The model's copy of a book, page by page. -/
import Derived.Test.YtnebhbnogmhbgaaBookCZSameBook
import Derived.Test.YtnebhbnogmhbgaaCopy5ZSameBook
import Derived.Test.YtnebhbnogmhbgaaStepGoZSameBook
import Derived.Deep.RegionLaw
import Derived.Deep.DeepCutAuto
namespace Go.Proofs.Ytnebhbnogmhbgaa
open Go.RowKit
attribute [local go_sem ↓] Go.wp_at_zero Go.wp_at_succ

/-- Rows of elements of different types lie in different blocks. -/
theorem apart_types {w : World} {base base' : Nat} {e e' : TypeId} {s s' : Nat} {v v' : Value} {n n' : Nat} {xs xs' : List Value} (h : w.ownsRow base e s v n xs) (h' : w.ownsRow base' e' s' v' n' xs') (hne : e ≠ e') : Apart v v' := by
  intro g hv hv'
  rcases h.2 with ⟨rfl, _⟩ | ⟨g1, c1, cu1, rfl, _, hh, _⟩
  · cases hv
  · rcases h'.2 with ⟨rfl, _⟩ | ⟨g2, c2, cu2, rfl, _, hh', _⟩
    · cases hv'
    · obtain rfl : g1 = g := by simpa [Value.ownBlock] using hv
      obtain rfl : g2 = g1 := by simpa [Value.ownBlock] using hv'
      rw [hh] at hh'
      simp only [Option.some.injEq, Obj.cells.injEq] at hh'
      exact hne hh'.2.1
/-- A local's block bears its own type. -/
def TagT (T : TypeId) (V : World) (q : Nat) : Prop := ∃ cs fr, V.heap[q]? = some (.cells cs T fr)
theorem TagT.new (T : TypeId) (V : World) (cs : Array Value) : TagT T (V.alloc (.cells cs T)) V.heap.size := ⟨cs, _, heap_alloc_new V _⟩
theorem TagT.of {T : TypeId} {V V' : World} {q : Nat} (h : TagT T V q) (hb : V'.heap[q]? = V.heap[q]?) : TagT T V' q := by obtain ⟨cs, fr, e⟩ := h; exact ⟨cs, fr, hb.trans e⟩
theorem TagT.ne {T : TypeId} {V : World} {q base : Nat} {e : TypeId} {s : Nat} {v : Value} {n : Nat} {xs : List Value} (h : TagT T V q) (ho : V.ownsRow base e s v n xs) (hne : e ≠ T) : ∀ k, v.ownBlock = some k → k ≠ q := by
  rintro k hk rfl
  obtain ⟨cs, fr, hh⟩ := h
  rcases ho.2 with ⟨rfl, _⟩ | ⟨g1, c1, cu1, rfl, _, hh', _⟩
  · cases hk
  · obtain rfl : g1 = k := by simpa [Value.ownBlock] using hk
    rw [hh] at hh'
    simp only [Option.some.injEq, Obj.cells.injEq] at hh'
    exact hne hh'.2.1.symm

theorem TagT.set {T : TypeId} {V : World} {q : Nat} (h : TagT T V q) (p j : Nat) (u : Value) : TagT T (V.setCell ⟨p, j, none⟩ u) q := by
  obtain ⟨cs, fr, e⟩ := h
  by_cases hq : q = p
  · subst hq
    refine ⟨cs.setIfInBounds j u, fr, ?_⟩
    simp only [World.setCell, Array.getElem?_modify, e]
    simp
  · exact ⟨cs, fr, (Below.heap_setCell V ⟨p, j, none⟩ u q hq).trans e⟩
theorem wp_last {P : Program} {s : Code} {Q : Exit → Act → World → Prop} {a : Act} {w : World} (h : ∀ K : Act → World → Prop, (∀ a w, Q .normal a w → K a w) → s.wp P (Exit.then K Q) a w) : s.wp P Q a w := by
  refine wp_mono (h (Q .normal) (fun _ _ h => h)) ?_
  intro e a' w' hq
  cases e <;> exact hq

/-- One page more: the row may have moved, the entries lie where they lay. -/
theorem OwnP.snoc {w w1 w3 : World} {base : Nat} {v v' : Value} {ps : List PgV} {p : PgV} (h : OwnP w base v ps) (hB : Below w.heap.size w w1) (hp : OwnS itLay 91 w1 base p.sl p.xs) (hpn : ∀ g, p.sl.ownBlock = some g → w.heap.size ≤ g)
    (ho : w3.ownsRow base 48 3 v' (ps.length + 1) (ps.flatMap pgLay.cells ++ pgLay.cells p)) (hg : w1.grownBy w3 v.ownBlock) : OwnP w3 base v' (ps ++ [p]) := by
  have h1 := h.below hB
  have hrow : OwnS pgLay 48 w3 base v' (ps ++ [p]) := by
    unfold OwnS
    rw [List.length_append, List.flatMap_append, List.flatMap_cons, List.flatMap_nil, List.append_nil]
    exact ho
  have hvp : Apart v p.sl := apart_types h1.row hp (by decide)
  have hent : ∀ q ∈ ps ++ [p], OwnS itLay 91 w3 base q.sl q.xs := by
    intro q hq
    rcases List.mem_append.1 hq with h2 | h2
    · exact (h1.ent q h2).keptApart hg (h1.out q h2).symm
    · rw [List.mem_singleton.1 h2]
      exact hp.keptApart hg hvp.symm
  refine ⟨hrow, hent, fun q hq => apart_types hrow (hent q hq) (by decide), fun i j q r hij hq hr => ?_⟩
  have hlt : ∀ i q, (ps ++ [p])[i]? = some q → (i < ps.length ∧ ps[i]? = some q) ∨ (i = ps.length ∧ q = p) := by
    intro i q hq
    by_cases hi : i < ps.length
    · rw [List.getElem?_append_left hi] at hq
      exact .inl ⟨hi, hq⟩
    · have hl := (List.getElem?_eq_some_iff.1 hq).1
      simp at hl
      obtain rfl : i = ps.length := by omega
      rw [List.getElem?_concat_length] at hq
      exact .inr ⟨rfl, (Option.some.inj hq).symm⟩
  have hnew : ∀ q ∈ ps, Apart q.sl p.sl := fun q hq g h2 h3 => by
    have h4 := (World.ownsRow.lt (h.ent q hq) g h2).2
    have h5 := hpn g h3
    omega
  rcases hlt i q hq with ⟨h2, h3⟩ | ⟨h2, rfl⟩
  · rcases hlt j r hr with ⟨h4, h5⟩ | ⟨h4, rfl⟩
    · exact h.pair i j q r hij h3 h5
    · exact hnew q (List.mem_of_getElem? h3)
  · rcases hlt j r hr with ⟨h4, h5⟩ | ⟨h4, rfl⟩
    · exact (hnew r (List.mem_of_getElem? h5)).symm
    · exact absurd (h2.trans h4.symm) hij
end Go.Proofs.Ytnebhbnogmhbgaa
