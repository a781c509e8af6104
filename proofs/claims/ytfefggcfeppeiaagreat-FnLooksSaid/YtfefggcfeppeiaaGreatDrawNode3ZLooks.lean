/- The model's draw of a node, good or bad. -/
import Derived.Test.YtfefggcfeppeiaaGreatDrawNode2ZLooks
import Derived.Test.YtfefggcfeppeiaaGreatQLooksf
namespace Go.Proofs.YtfefggcfeppeiaaGreat
open Go.RowKit

/-- A block that holds a node is no row of entries. -/
def TagN (V : World) (q : Nat) : Prop := ∃ cs fr, V.heap[q]? = some (.cells cs 59 fr)
theorem TagN.new (V : World) (cs : Array Value) : TagN (V.alloc (.cells cs 59)) V.heap.size := ⟨cs, _, heap_alloc_new V _⟩
theorem TagN.of {V V' : World} {q : Nat} (h : TagN V q) (hb : V'.heap[q]? = V.heap[q]?) : TagN V' q := by obtain ⟨cs, fr, e⟩ := h; exact ⟨cs, fr, hb.trans e⟩
theorem TagN.set {V : World} {q : Nat} (h : TagN V q) (p j : Nat) (u : Value) : TagN (V.setCell ⟨p, j, none⟩ u) q := by
  obtain ⟨cs, fr, e⟩ := h
  by_cases hq : q = p
  · subst hq
    refine ⟨cs.setIfInBounds j u, fr, ?_⟩
    simp only [World.setCell, Array.getElem?_modify, e]
    simp
  · exact ⟨cs, fr, (Below.heap_setCell V ⟨p, j, none⟩ u q hq).trans e⟩
theorem TagN.ne {V : World} {q base : Nat} {v : Value} {ys : List It} (h : TagN V q) (ho : OwnS itLay 77 V base v ys) : ∀ k, v.ownBlock = some k → k ≠ q := by
  intro k hk e
  subst e
  obtain ⟨cs, fr, h⟩ := h
  rcases ho.2 with ⟨rfl, -⟩ | ⟨g, cap, cur, rfl, -, hh, -⟩
  · cases hk
  · simp [Value.ownBlock] at hk
    subst hk
    rw [hh] at h
    cases h

/-- How the draw of a node stands: its cursor, its result's block, its local's block, the entries that it owns. -/
structure StN (w V : World) (g : Nat) (zs : List Int) (q : Nat) (b : Bool) (v : Value) (ys : List It) : Prop where
  cur : Cur g zs V
  gr : w.grownBy V (some g)
  res : Loc V w.heap.size #[.bool false, .slice none 0 0]
  loc : Loc V q #[.bool b, v]
  own : OwnS itLay 77 V (w.heap.size + 1) v ys
  tag : TagN V q
  lt : w.heap.size < q
theorem StN.ne {w V : World} {g : Nat} {zs : List Int} {q : Nat} {b : Bool} {v : Value} {ys : List It} (h : StN w V g zs q b v ys) : ∀ k, v.ownBlock = some k → k ≠ q := h.tag.ne h.own
theorem StN.far {w V V' : World} {g : Nat} {zs : List Int} {q : Nat} {b : Bool} {v : Value} {ys : List It} (h : StN w V g zs q b v ys) (hlt : g < w.heap.size) (hg : V.grownBy V' (some g)) (hc : Cur g zs V') : StN w V' g zs q b v ys :=
  ⟨hc, grown_trans h.gr hg, h.res.far hg hlt, h.loc.far hg (Nat.lt_trans hlt h.lt), ownS_far h.own hg (by omega), h.tag.of (hg.block q h.loc.1 (by have := h.lt; simp; omega)), h.lt⟩
theorem StN.alloc {w V : World} {g : Nat} {zs : List Int} {q : Nat} {b : Bool} {v : Value} {ys : List It} (h : StN w V g zs q b v ys) (O : Obj) : StN w (V.alloc O) g zs q b v ys :=
  ⟨cur_alloc h.cur O, grown_alloc h.gr O, h.res.alloc O, h.loc.alloc O, h.own.below (new_below V O), h.tag.of (Below.heap_alloc V O q h.loc.1), h.lt⟩
theorem StN.drew {w V : World} {g : Nat} {zs : List Int} {q : Nat} {b : Bool} {v : Value} {ys : List It} (h : StN w V g zs q b v ys) : StN w V.drew g zs q b v ys :=
  ⟨cur_drew h.cur, grown_drew h.gr, h.res.drew, h.loc.drew, h.own.below (drew_below V), h.tag.of rfl, h.lt⟩
/-- The local's Leaf is written. -/
theorem StN.leaf {w V : World} {g : Nat} {zs : List Int} {q : Nat} {b : Bool} {v : Value} {ys : List It} (h : StN w V g zs q b v ys) (hlt : g < w.heap.size) (c : Bool) : StN w (V.setCell ⟨q, 0, none⟩ (.bool c)) g zs q c v ys :=
  ⟨cur_set' h.cur (Nat.lt_trans hlt h.lt) _ _, grown_new h.gr (Nat.le_of_lt h.lt) _ _, h.res.other _ _ (Nat.ne_of_gt h.lt), h.loc.set 0 _ (by simp), ownS_set h.own (fun hj => h.ne _ hj rfl) _ _, h.tag.set _ _ _, h.lt⟩
/-- Behind an append: how it stands, but for the local's list. -/
theorem StN.app {w V V' : World} {g : Nat} {zs : List Int} {q : Nat} {b : Bool} {v v' : Value} {ys zz : List It} (h : StN w V g zs q b v ys) (hlt : g < w.heap.size) (hg : V.grownBy V' v.ownBlock) (ho : OwnS itLay 77 V' (w.heap.size + 1) v' zz) :
    Cur g zs V' ∧ w.grownBy V' (some g) ∧ Loc V' w.heap.size #[.bool false, .slice none 0 0] ∧ Loc V' q #[.bool b, v] ∧ TagN V' q ∧ OwnS itLay 77 V' (w.heap.size + 1) v' zz := by
  have hr : ∀ j, v.ownBlock = some j → w.heap.size + 1 ≤ j := fun j hj => (World.ownsRow.lt h.own j hj).1
  exact ⟨cur_kept h.cur hg (fun k hk => by have := hr k hk; omega), grown_own h.gr (World.grownBy.refl _ _) hg (fun j hj => by have := hr j hj; omega) (fun j hj => by have := hr j hj; omega),
    h.res.grown hg (fun k hk => by have := hr k hk; omega), h.loc.grown hg h.ne, h.tag.of (hg.block q h.loc.1 (fun e => h.ne q e.symm rfl)), ho⟩
/-- .. and the local's list is written. -/
theorem StN.put {w V' : World} {g : Nat} {zs : List Int} {q : Nat} {b : Bool} {v v' : Value} {zz : List It} (hlt : g < w.heap.size) (hl : w.heap.size < q)
    (h : Cur g zs V' ∧ w.grownBy V' (some g) ∧ Loc V' w.heap.size #[.bool false, .slice none 0 0] ∧ Loc V' q #[.bool b, v] ∧ TagN V' q ∧ OwnS itLay 77 V' (w.heap.size + 1) v' zz) : StN w (V'.setCell ⟨q, 1, none⟩ v') g zs q b v' zz :=
  ⟨cur_set' h.1 (Nat.lt_trans hlt hl) _ _, grown_new h.2.1 (Nat.le_of_lt hl) _ _, h.2.2.1.other _ _ (Nat.ne_of_gt hl), h.2.2.2.1.set 1 _ (by simp), ownS_set h.2.2.2.2.2 (fun hj => h.2.2.2.2.1.ne h.2.2.2.2.2 _ hj rfl) _ _, h.2.2.2.2.1.set _ _ _, hl⟩
theorem StN.fin {w V : World} {g : Nat} {zs : List Int} {q m : Nat} {b : Bool} {v : Value} {ys : List It} (h : StN w V g zs q b v ys) (hlt : g < w.heap.size) (hl : ys.length ≤ m) :
    DrawnNode g zs m w (.returned (.agg #[.bool b, v])) ((V.setCell ⟨w.heap.size, 0, none⟩ (.bool b)).setCell ⟨w.heap.size, 1, none⟩ v) := node_end hlt hl h.own h.cur h.gr
end Go.Proofs.YtfefggcfeppeiaaGreat
