/- What a law's arguments are: nodes by value: a bool and a slice of entries. -/
import Derived.Test.YtfefggcfeppeiaaArgIZExSix
namespace Go.Proofs.Ytfefggcfeppeiaa
open Go.RowKit Go.Joins Go.ChangeShapes Go.WideShapes Go.Deep

/-- A node that came in: its bool, where its entries lie, what they read. -/
structure Nd where
  leaf : Bool
  a : Option Addr
  n : Nat
  cap : Nat
  xs : List It

section
variable {H : Type} {enc : TypeId × Value → H} {w : World} {base b0 : Nat} {r : Reach} {v : Value} {d : DataW H} {p : List MemPlace} {sp : Nat → Bool} {hd : Bool} {n : Nat} {cs : List Value} {y : DataW H × List MemPlace}

set_option maxRecDepth 100000 in
/-- A slice's cell. -/
theorem decS {α : Type} (L : Lay α) (Wf : α → Prop) {t e : TypeId} (ht : Try.prog.underlying t = some (.slice e)) (hc : Try.prog.cellsOf e = L.sz)
    (dec : ∀ (n : Nat) (cs : List Value) (y : DataW H × List MemPlace), DataW.trod enc Try.prog w base (fun _ => true) hd n e cs = some y → ∃ x : α, cs = L.cells x ∧ Wf x)
    (h : DataW.trod enc Try.prog w base (fun _ => true) hd n t cs = some y) :
    ∃ a m c, ∃ xs : List α, cs = [.slice a m c] ∧ RdS L w a m c xs ∧ ∀ x ∈ xs, Wf x := by
  rcases open_slice ht h with ⟨hcs, _⟩ | ⟨a', len, cap, q, n', D, Pl, hcs, _, hl, hm, hq, _, hel⟩
  · exact ⟨none, 0, 0, [], hcs, rdS_nil w, fun x hx => by cases hx⟩
  · simp only [if_true] at hq
    obtain ⟨xs, hlen, hxs⟩ := list_of len (fun i x => w.cells? base (a'.add (i * L.sz)) L.sz = some (L.cells x) ∧ Wf x) (fun i hi => by
      obtain ⟨cs', h1, h2⟩ := hel i (by omega)
      obtain ⟨x, rfl, hw⟩ := dec n' cs' _ h2
      rw [hc] at h1
      exact ⟨x, h1, hw⟩)
    refine ⟨some a', len, cap, xs, hcs, ⟨⟨hlen, hl, hm, fun h => by cases h⟩, fun hpos => ?_⟩, fun x hx => ?_⟩
    · obtain ⟨x0, hx0⟩ := some_at hlen (j := 0) hpos
      obtain ⟨b, off, spot⟩ := a'
      have hat : ∀ i x, xs[i]? = some x → ∀ j u, (L.cells x)[j]? = some u → w.cell? ((⟨b, off, spot⟩ : Addr).add (i * L.sz + j)) = some u := by
        intro i x hx j u hj
        obtain ⟨_, _, h2⟩ := World.cells?_some (hxs i x hx).1
        have hj' : j < L.sz := by have := (List.getElem?_eq_some_iff.1 hj).1; rw [L.len] at this; exact this
        rw [← Go.Deep.add_add, h2 j hj', hj]
      have hu : (L.cells x0)[0]? = some ((L.cells x0)[0]'(by rw [L.len]; exact L.pos)) := List.getElem?_eq_getElem _
      have hspot : spot = none := by
        have h0 := hat 0 x0 hx0 0 _ hu
        rw [Nat.zero_mul, Nat.add_zero] at h0
        simpa [Addr.add] using World.cell?_spot h0
      subst hspot
      exact ⟨b, off, rfl, fun i x hx j u hj => by rw [← Go.WideShapes.add_plain]; exact hat i x hx j u hj⟩
    · obtain ⟨i, hi⟩ := List.mem_iff_getElem?.1 hx
      exact (hxs i x hi).2

set_option maxRecDepth 100000 in
/-- An entry's cells. -/
theorem decEntry (h : DataW.trod enc Try.prog w base sp hd n 161 cs = some y) : ∃ x : It, cs = itLay.cells x ∧ WfI x := by
  obtain ⟨ys, m, _, _, hc, hy, hf⟩ := DataW.trod_struct Try.underlying161 h
  obtain ⟨z0, e0⟩ := some_at hy (j := 0) (by decide)
  obtain ⟨z1, e1⟩ := some_at hy (j := 1) (by decide)
  obtain ⟨k0, f0, w0⟩ := cell_int ((hf 0 _ rfl).trans e0)
  obtain ⟨b, f1, w1⟩ := decBox ((hf 1 _ rfl).trans e1)
  have c1 : Try.prog.cellsOf 3 = 1 := by kernel_rfl
  have c4 : Try.prog.cellsOf 66 = 4 := by kernel_rfl
  have c5 : Try.prog.cellsOf 161 = 5 := by kernel_rfl
  rw [c5] at hc
  match cs, hc with
  | [a, b0, b1, b2, b3], _ =>
    change List.take (Try.prog.cellsOf 3) (List.drop 0 [a, b0, b1, b2, b3]) = _ at f0
    change List.take (Try.prog.cellsOf 66) (List.drop 1 [a, b0, b1, b2, b3]) = _ at f1
    rw [c1] at f0
    rw [c4] at f1
    simp [bxLay] at f0 f1
    obtain ⟨g0, g1, g2, g3⟩ := f1
    subst f0 g0 g1 g2 g3
    exact ⟨⟨k0, b.x0, b.y0, b.x1, b.y1⟩, rfl, w0, w1.1, w1.2.1, w1.2.2.1, w1.2.2.2⟩
set_option maxRecDepth 100000 in
theorem argEntry (hv : Value.okWide Try.prog w r b0 161 v) (h : DataW.Trod enc Try.prog w base sp hd 161 v d p) :
    ∃ x : It, v = .agg #[.int .i64 x.id, .int .i64 x.x0, .int .i64 x.y0, .int .i64 x.x1, .int .i64 x.y1] ∧ WfI x := by
  obtain ⟨cs, rfl, _⟩ := okWide_struct Try.underlying161 hv
  obtain ⟨n, h⟩ := h
  obtain ⟨x, hx, hw⟩ := decEntry h
  obtain ⟨l⟩ := cs
  have : l = itLay.cells x := by simpa [Value.cells] using hx
  subst this
  exact ⟨x, rfl, hw⟩
set_option maxRecDepth 100000 in
theorem argEntryS (hv : Value.okWide Try.prog w r b0 121 v) (h : DataW.Trod enc Try.prog w base (fun _ => true) hd 121 v d p) :
    ∃ a m c, ∃ xs : List It, v = .slice a m c ∧ RdS itLay w a m c xs ∧ ∀ x ∈ xs, WfI x :=
  argS itLay WfI Try.underlying121 (by kernel_rfl) (fun _ _ _ h => decEntry h) hv h
set_option maxRecDepth 100000 in
/-- A node's cells. -/
theorem decNode (h : DataW.trod enc Try.prog w base (fun _ => true) hd n 123 cs = some y) :
    ∃ x : Nd, cs = [.bool x.leaf, .slice x.a x.n x.cap] ∧ RdS itLay w x.a x.n x.cap x.xs ∧ ∀ z ∈ x.xs, WfI z := by
  obtain ⟨ys, m, _, _, hc, hy, hf⟩ := DataW.trod_struct Try.underlying123 h
  obtain ⟨z0, e0⟩ := some_at hy (j := 0) (by decide)
  obtain ⟨z1, e1⟩ := some_at hy (j := 1) (by decide)
  obtain ⟨k0, f0, -⟩ := DataW.trod_bool Try.underlying4 ((hf 0 _ rfl).trans e0)
  obtain ⟨a, l, c, xs, f1, hr, hw⟩ := decS itLay WfI Try.underlying121 (by kernel_rfl) (fun _ _ _ h => decEntry h) ((hf 1 _ rfl).trans e1)
  have c1 : Try.prog.cellsOf 4 = 1 := by kernel_rfl
  have c4 : Try.prog.cellsOf 121 = 1 := by kernel_rfl
  have c5 : Try.prog.cellsOf 123 = 2 := by kernel_rfl
  rw [c5] at hc
  match cs, hc with
  | [u0, u1], _ =>
    change List.take (Try.prog.cellsOf 4) (List.drop 0 [u0, u1]) = _ at f0
    change List.take (Try.prog.cellsOf 121) (List.drop 1 [u0, u1]) = _ at f1
    rw [c1] at f0
    rw [c4] at f1
    simp at f0 f1
    subst f0 f1
    exact ⟨⟨k0, a, l, c, xs⟩, rfl, hr, hw⟩
set_option maxRecDepth 100000 in
theorem argNode (hv : Value.okWide Try.prog w r b0 123 v) (h : DataW.Trod enc Try.prog w base (fun _ => true) hd 123 v d p) :
    ∃ x : Nd, v = .agg #[.bool x.leaf, .slice x.a x.n x.cap] ∧ RdS itLay w x.a x.n x.cap x.xs ∧ ∀ z ∈ x.xs, WfI z := by
  obtain ⟨cs, rfl, _⟩ := okWide_struct Try.underlying123 hv
  obtain ⟨n, h⟩ := h
  obtain ⟨x, hx, hr, hw⟩ := decNode h
  obtain ⟨l⟩ := cs
  have : l = [.bool x.leaf, .slice x.a x.n x.cap] := by simpa [Value.cells] using hx
  subst this
  exact ⟨x, rfl, hr, hw⟩
end
end Go.Proofs.Ytfefggcfeppeiaa
