/- What a round of a range over a function keeps: all blocks of cells but the caller's box and the row that it holds. -/
import Derived.Test.YtfefggcfeppeiaaGreatSeqOZLooks
namespace Go.Proofs.YtfefggcfeppeiaaGreat
open Go.RowKit

def Mine (B : Nat) (W : World) (k : Nat) : Prop := k = B ∨ ∃ v, W.cell? ⟨B, 0, none⟩ = some v ∧ v.ownBlock = some k
/-- The caller's blocks are there. -/
def Bd (B : Nat) (W : World) : Prop := ∀ k, Mine B W k → k < W.heap.size
structure KpB (n₀ B : Nat) (W W' : World) : Prop where
  below : Below n₀ W W'
  cells : ∀ (k : Nat) (cs : Array Value) (T : TypeId) (fr : Nat × Nat), W.heap[k]? = some (.cells cs T fr) → ¬ Mine B W k → W'.heap[k]? = some (.cells cs T fr)
  more : ∀ k, Mine B W' k → Mine B W k ∨ W.heap.size ≤ k
  lt : Bd B W → Bd B W'

theorem mine_same {B : Nat} {W W' : World} (h : W'.heap[B]? = W.heap[B]?) {k : Nat} : Mine B W' k ↔ Mine B W k := by
  unfold Mine
  rw [World.cell?_of_block (a := ⟨B, 0, none⟩) h]
theorem KpB.of {n₀ B : Nat} {W W' : World} (hb : Below n₀ W W') (hc : ∀ (k : Nat) (cs : Array Value) (T : TypeId) (fr : Nat × Nat), W.heap[k]? = some (.cells cs T fr) → W'.heap[k]? = some (.cells cs T fr)) (hB : W'.heap[B]? = W.heap[B]?) : KpB n₀ B W W' :=
  ⟨hb, fun k cs T fr h _ => hc k cs T fr h, fun _ h => .inl ((mine_same hB).1 h), fun h k hk => Nat.lt_of_lt_of_le (h k ((mine_same hB).1 hk)) hb.size⟩
theorem KpB.refl (n₀ B : Nat) (W : World) : KpB n₀ B W W := KpB.of (Below.refl _ _) (fun _ _ _ _ h => h) rfl
theorem KpB.trans {n₀ B : Nat} {X Y Z : World} (h : KpB n₀ B X Y) (k : KpB n₀ B Y Z) : KpB n₀ B X Z where
  below := h.below.trans k.below
  cells i cs T fr hi hm := k.cells i cs T fr (h.cells i cs T fr hi hm) (fun hm' => by
    rcases h.more i hm' with e | e
    · exact hm e
    · have := heap_lt hi
      omega)
  more i hi := by
    rcases k.more i hi with e | e
    · exact h.more i e
    · exact .inr (Nat.le_trans h.below.size e)
  lt hX := k.lt (h.lt hX)
theorem KpB.all {n₀ B : Nat} {W W' : World} (h : Below W.heap.size W W') (hn : n₀ ≤ W.heap.size) (hB : B < W.heap.size) : KpB n₀ B W W' :=
  KpB.of (h.mono hn) (fun k _ _ _ hk => (h.block k (heap_lt hk)).trans hk) (h.block B hB)
theorem KpB.putObj {n₀ B l : Nat} {W : World} {o : Obj} (o' : Obj) (hl : W.heap[l]? = some o) (hc : o.isCells = false) (hn : n₀ ≤ l) (hB : B ≠ l) : KpB n₀ B W (W.putObj l o') :=
  KpB.of ((Below.refl n₀ W).grown (grownBy_putObj' W l o') (by have := heap_lt hl; omega) (fun k e => by cases e; exact hn)) (fun k cs T fr hk => (World.putObj_heap_other (fun e => by
    first | (subst e; rw [hl] at hk; cases hk; cases hc) | (rw [e] at hl; rw [hl] at hk; cases hk; cases hc))).trans hk) (World.putObj_heap_other (fun e => by first | exact hB e | exact hB e.symm))
theorem Bd.below {B : Nat} {W W' : World} (h : Bd B W) (hb : Below W.heap.size W W') (hB : B < W.heap.size) : Bd B W' := (KpB.all (n₀ := 0) hb (Nat.zero_le _) hB).lt h
theorem Bd.turn {B : Nat} {W W' : World} {row : Option Nat} (h : Bd B W) (hg : W.grownBy W' row) (hr : row ≠ some B) (hB : B < W.heap.size) : Bd B W' := fun k hk =>
  Nat.lt_of_lt_of_le (h k ((mine_same (hg.block B hB (Ne.symm hr))).1 hk)) hg.size

/-- A block of the iterator's own. -/
structure HeldB (B : Nat) (W : World) (q : Nat) (cs : Array Value) (T : TypeId) : Prop where
  heap : W.heap[q]? = some (.cells cs T (0, 0))
  free : ¬ Mine B W q
theorem HeldB.kp {n₀ B : Nat} {W W' : World} {q : Nat} {cs : Array Value} {T : TypeId} (h : HeldB B W q cs T) (hk : KpB n₀ B W W') : HeldB B W' q cs T :=
  ⟨hk.cells q cs T _ h.heap h.free, fun hm => by
    rcases hk.more q hm with e | e
    · exact h.free e
    · have := heap_lt h.heap
      omega⟩
theorem HeldB.new {B : Nat} {W : World} (hb : Bd B W) (hB : B < W.heap.size) (cs : Array Value) (T : TypeId) : HeldB B (W.alloc (.cells cs T)) W.heap.size cs T :=
  ⟨heap_alloc_new W _, fun hm => by
    have := hb _ ((mine_same (Below.heap_alloc W _ B hB)).1 hm)
    omega⟩
theorem HeldB.turn {B : Nat} {W W' : World} {q : Nat} {cs : Array Value} {T : TypeId} {row : Option Nat} (h : HeldB B W q cs T) (hg : W.grownBy W' row) (hr : ∀ r, row = some r → r ≠ B ∧ ∃ o : Obj, W.heap[r]? = some o ∧ o.isCells = false) (hB : B < W.heap.size) : HeldB B W' q cs T :=
  ⟨(hg.block q (heap_lt h.heap) (fun e => by obtain ⟨o, ho, hc⟩ := (hr q e.symm).2; rw [h.heap] at ho; cases ho; cases hc)).trans h.heap, fun hm => h.free ((mine_same (hg.block B hB (fun e => (hr B e.symm).1 rfl))).1 hm)⟩
theorem HeldB.loc {B : Nat} {W : World} {q : Nat} {cs : Array Value} {T : TypeId} (h : HeldB B W q cs T) : Loc W q cs :=
  ⟨heap_lt h.heap, fun o => by simp [World.cell?, h.heap], fun o => by simp [World.frozen?, h.heap]⟩
theorem HeldB.below {B : Nat} {W W' : World} {q : Nat} {cs : Array Value} {T : TypeId} (h : HeldB B W q cs T) (hb : Below W.heap.size W W') (hB : B < W.heap.size) : HeldB B W' q cs T := h.kp (KpB.all (n₀ := 0) hb (Nat.zero_le _) hB)

/-- A row of the iterator's own. -/
structure HeldRow (B : Nat) (W : World) (base : Nat) (e : TypeId) (s : Nat) (v : Value) (n : Nat) (xs : List Value) : Prop where
  own : W.ownsRow base e s v n xs
  free : ∀ g, v.ownBlock = some g → ¬ Mine B W g
theorem HeldRow.kp {n₀ B : Nat} {W W' : World} {base : Nat} {e : TypeId} {s n : Nat} {v : Value} {xs : List Value} (h : HeldRow B W base e s v n xs) (hk : KpB n₀ B W W') : HeldRow B W' base e s v n xs :=
  ⟨ownsRow_at h.own (fun g hg => by
    rcases h.own.2 with ⟨e2, _⟩ | ⟨g', c', cur, e2, _, hh, _⟩
    · rw [e2] at hg; cases hg
    · have e3 : g' = g := by rw [e2] at hg; simpa [Value.ownBlock] using hg
      subst e3
      exact (hk.cells _ _ _ _ hh (h.free _ hg)).trans hh.symm), fun g hg hm => by
    rcases hk.more g hm with e | e
    · exact h.free g hg e
    · have := (World.ownsRow.lt h.own g hg).2
      omega⟩
theorem HeldRow.new {B : Nat} {W W' : World} {e : TypeId} {s n : Nat} {v : Value} {xs : List Value} (hb : Bd B W) (hB : B < W.heap.size) (hW : Below W.heap.size W W') (h : W'.ownsRow W.heap.size e s v n xs) : HeldRow B W' W.heap.size e s v n xs :=
  ⟨h, fun g hg hm => by
    have h1 := hb _ ((mine_same (hW.block B hB)).1 hm)
    have h2 := (World.ownsRow.lt h g hg).1
    omega⟩
theorem HeldRow.below {B : Nat} {W W' : World} {base : Nat} {e : TypeId} {s n : Nat} {v : Value} {xs : List Value} (h : HeldRow B W base e s v n xs) (hb : Below W.heap.size W W') (hB : B < W.heap.size) : HeldRow B W' base e s v n xs := h.kp (KpB.all (n₀ := 0) hb (Nat.zero_le _) hB)
theorem OwnFrom.below {β : Type} {B : Nat} {I : β → World → Prop} (h : OwnFrom B I) {s : β} {W W' : World} (hs : I s W) (hb : Below W.heap.size W W') : I s W' := h s W W' none hs (Below.toGrown hb none) (fun r e => by cases e)
theorem OwnFrom.mono {β : Type} {B B' : Nat} {I : β → World → Prop} (h : OwnFrom B I) (hB : B ≤ B') : OwnFrom B' I := fun s W W' row hs hg hr => h s W W' row hs hg (fun r e => ⟨Nat.le_trans hB (hr r e).1, (hr r e).2⟩)
end Go.Proofs.YtfefggcfeppeiaaGreat
