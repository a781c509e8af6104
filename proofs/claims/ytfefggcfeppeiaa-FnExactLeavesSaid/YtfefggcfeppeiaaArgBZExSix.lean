/- What a law's arguments are: books by value, and slices of ints. -/
import Derived.Test.YtfefggcfeppeiaaArgNZExSix
import Derived.Test.YtfefggcfeppeiaaQExSixd
namespace Go.Proofs.Ytfefggcfeppeiaa
open Go.RowKit Go.Joins Go.ChangeShapes Go.WideShapes Go.Deep

/-- A book that came in. -/
structure Bk where
  root : Int
  a : Option Addr
  n : Nat
  cap : Nat
  ps : List PgV

section
variable {H : Type} {enc : TypeId × Value → H} {w : World} {base b0 : Nat} {r : Reach} {v : Value} {d : DataW H} {p : List MemPlace} {sp : Nat → Bool} {hd : Bool} {n : Nat} {cs : List Value} {y : DataW H × List MemPlace}

def WfP (w : World) (p : PgV) : Prop := RdS itLay w p.a p.n p.cap p.xs ∧ ∀ x ∈ p.xs, WfI x
set_option maxRecDepth 100000 in
/-- A page's cells. -/
theorem decPage (h : DataW.trod enc Try.prog w base (fun _ => true) hd n 125 cs = some y) : ∃ x : PgV, cs = pgLay.cells x ∧ WfP w x := by
  obtain ⟨ys, m, _, _, hc, hy, hf⟩ := DataW.trod_struct Try.underlying125 h
  obtain ⟨z0, e0⟩ := some_at hy (j := 0) (by decide)
  obtain ⟨z1, e1⟩ := some_at hy (j := 1) (by decide)
  obtain ⟨k0, f0, -⟩ := DataW.trod_bool Try.underlying4 ((hf 0 _ rfl).trans e0)
  obtain ⟨x, f1, hr, hw⟩ := decNode ((hf 1 _ rfl).trans e1)
  have c1 : Try.prog.cellsOf 4 = 1 := by kernel_rfl
  have c4 : Try.prog.cellsOf 123 = 2 := by kernel_rfl
  have c5 : Try.prog.cellsOf 125 = 3 := by kernel_rfl
  rw [c5] at hc
  match cs, hc with
  | [u0, u1, u2], _ =>
    change List.take (Try.prog.cellsOf 4) (List.drop 0 [u0, u1, u2]) = _ at f0
    change List.take (Try.prog.cellsOf 123) (List.drop 1 [u0, u1, u2]) = _ at f1
    rw [c1] at f0
    rw [c4] at f1
    simp at f0 f1
    obtain ⟨f1, f2⟩ := f1
    subst f0 f1 f2
    exact ⟨⟨k0, x.leaf, x.a, x.n, x.cap, x.xs⟩, rfl, hr, hw⟩
set_option maxRecDepth 100000 in
/-- A book's cells. -/
theorem decBook (h : DataW.trod enc Try.prog w base (fun _ => true) hd n 51 cs = some y) :
    ∃ x : Bk, cs = [.int .i64 x.root, .slice x.a x.n x.cap] ∧ RdP w x.a x.n x.cap x.ps ∧ (Lit.int .i64 x.root).wf = true ∧ ∀ p ∈ x.ps, ∀ z ∈ p.xs, WfI z := by
  obtain ⟨ys, m, _, _, hc, hy, hf⟩ := DataW.trod_struct Try.underlying51 h
  obtain ⟨z0, e0⟩ := some_at hy (j := 0) (by decide)
  obtain ⟨z1, e1⟩ := some_at hy (j := 1) (by decide)
  obtain ⟨k0, f0, w0⟩ := cell_int ((hf 0 _ rfl).trans e0)
  obtain ⟨a, l, c, ps, f1, hr, hw⟩ := decS pgLay (WfP w) Try.underlying49 (by kernel_rfl) (fun _ _ _ h => decPage h) ((hf 1 _ rfl).trans e1)
  have c1 : Try.prog.cellsOf 3 = 1 := by kernel_rfl
  have c4 : Try.prog.cellsOf 49 = 1 := by kernel_rfl
  have c5 : Try.prog.cellsOf 51 = 2 := by kernel_rfl
  rw [c5] at hc
  match cs, hc with
  | [u0, u1], _ =>
    change List.take (Try.prog.cellsOf 3) (List.drop 0 [u0, u1]) = _ at f0
    change List.take (Try.prog.cellsOf 49) (List.drop 1 [u0, u1]) = _ at f1
    rw [c1] at f0
    rw [c4] at f1
    simp at f0 f1
    subst f0 f1
    exact ⟨⟨k0, a, l, c, ps⟩, rfl, ⟨hr, fun p hp => (hw p hp).1⟩, w0, fun p hp => (hw p hp).2⟩
set_option maxRecDepth 100000 in
theorem argBook (hv : Value.okWide Try.prog w r b0 51 v) (h : DataW.Trod enc Try.prog w base (fun _ => true) hd 51 v d p) :
    ∃ x : Bk, v = .agg #[.int .i64 x.root, .slice x.a x.n x.cap] ∧ RdP w x.a x.n x.cap x.ps ∧ (Lit.int .i64 x.root).wf = true ∧ ∀ p ∈ x.ps, ∀ z ∈ p.xs, WfI z := by
  obtain ⟨cs, rfl, _⟩ := okWide_struct Try.underlying51 hv
  obtain ⟨n, h⟩ := h
  obtain ⟨x, hx, hr, hw⟩ := decBook h
  obtain ⟨l⟩ := cs
  have : l = [.int .i64 x.root, .slice x.a x.n x.cap] := by simpa [Value.cells] using hx
  subst this
  exact ⟨x, rfl, hr, hw⟩
set_option maxRecDepth 100000 in
/-- A slice of ints. -/
theorem argInts (hv : Value.okWide Try.prog w r b0 36 v) (h : DataW.Trod enc Try.prog w base (fun _ => true) hd 36 v d p) :
    ∃ a m c, ∃ zs : List Int, v = .slice a m c ∧ RdI .i64 w a m c zs ∧ ∀ z ∈ zs, (Lit.int .i64 z).wf = true := by
  obtain ⟨a, m, c, rfl⟩ := okWide_slice Try.underlying36 hv
  obtain ⟨fuel, hf⟩ := h
  rcases open_ints Try.underlying36 Try.underlying3 (by kernel_rfl) hf with ⟨hcs, _⟩ | ⟨x, l, cc, zs, hcs, _, hl, hm, hz, _, hcell, hwz⟩
  · simp [Value.cells] at hcs
    obtain ⟨rfl, rfl, rfl⟩ := hcs
    exact ⟨none, 0, 0, [], rfl, rdI_nil _ _, fun x hx => by cases hx⟩
  · simp [Value.cells] at hcs
    obtain ⟨rfl, rfl, rfl⟩ := hcs
    have := rdI_row (.inr ⟨_, rfl, hl, hm, by simpa using hz, hcell, hwz⟩)
    exact ⟨_, m, c, _, rfl, this.1, this.2⟩
end
theorem wfL_of {ps : List PgV} (h : ∀ p ∈ ps, ∀ z ∈ p.xs, WfI z) : ∀ p ∈ ps.map PgV.pg, ∀ x ∈ p.xs, (Lit.int .i64 x.id).wf = true := by
  intro p hp x hx
  obtain ⟨q, hq, rfl⟩ := List.mem_map.1 hp
  exact (h q hq x hx).1
end Go.Proofs.Ytfefggcfeppeiaa
