/- What a law's arguments are: items by value and slices of them, as the rows hand them in. -/
import Derived.Test.YtckdkijhkgicnaaArg
import Derived.Test.YtckdkijhkgicnaaItem
namespace Go.Proofs.Ytckdkijhkgicnaa
open Go.RowKit Go.Joins Go.ChangeShapes Go.WideShapes Go.Deep

section
variable {H : Type} {enc : TypeId × Value → H} {w : World} {base b0 : Nat} {r : Reach} {v : Value} {d : DataW H} {p : List MemPlace} {sp : Nat → Bool} {hd : Bool} {n : Nat} {cs : List Value} {y : DataW H × List MemPlace}

def WfI (x : It) : Prop := (Lit.int .i64 x.id).wf = true ∧ (Lit.int .i64 x.x0).wf = true ∧ (Lit.int .i64 x.y0).wf = true ∧ (Lit.int .i64 x.x1).wf = true ∧ (Lit.int .i64 x.y1).wf = true

set_option maxRecDepth 100000 in
/-- An item's cells. -/
theorem decItem (h : DataW.trod enc Try.prog w base sp hd n 93 cs = some y) : ∃ x : It, cs = itLay.cells x ∧ WfI x := by
  obtain ⟨ys, m, _, _, hc, hy, hf⟩ := DataW.trod_struct Try.underlying93 h
  obtain ⟨z0, e0⟩ := some_at hy (j := 0) (by decide)
  obtain ⟨z1, e1⟩ := some_at hy (j := 1) (by decide)
  obtain ⟨k0, f0, w0⟩ := cell_int ((hf 0 _ rfl).trans e0)
  obtain ⟨b, f1, w1⟩ := decBox ((hf 1 _ rfl).trans e1)
  have c1 : Try.prog.cellsOf 3 = 1 := by kernel_rfl
  have c4 : Try.prog.cellsOf 86 = 4 := by kernel_rfl
  have c5 : Try.prog.cellsOf 93 = 5 := by kernel_rfl
  rw [c5] at hc
  match cs, hc with
  | [a, b0, b1, b2, b3], _ =>
    change List.take (Try.prog.cellsOf 3) (List.drop 0 [a, b0, b1, b2, b3]) = _ at f0
    change List.take (Try.prog.cellsOf 86) (List.drop 1 [a, b0, b1, b2, b3]) = _ at f1
    rw [c1] at f0
    rw [c4] at f1
    simp [bxLay] at f0 f1
    obtain ⟨g0, g1, g2, g3⟩ := f1
    subst f0 g0 g1 g2 g3
    exact ⟨⟨k0, b.x0, b.y0, b.x1, b.y1⟩, rfl, w0, w1.1, w1.2.1, w1.2.2.1, w1.2.2.2⟩
set_option maxRecDepth 100000 in
theorem argItem (hv : Value.okWide Try.prog w r b0 93 v) (h : DataW.Trod enc Try.prog w base sp hd 93 v d p) :
    ∃ x : It, v = .agg #[.int .i64 x.id, .int .i64 x.x0, .int .i64 x.y0, .int .i64 x.x1, .int .i64 x.y1] ∧ WfI x := by
  obtain ⟨cs, rfl, _⟩ := okWide_struct Try.underlying93 hv
  obtain ⟨n, h⟩ := h
  obtain ⟨x, hx, hw⟩ := decItem h
  obtain ⟨l⟩ := cs
  have : l = itLay.cells x := by simpa [Value.cells] using hx
  subst this
  exact ⟨x, rfl, hw⟩
set_option maxRecDepth 100000 in
theorem argItemS (hv : Value.okWide Try.prog w r b0 59 v) (h : DataW.Trod enc Try.prog w base (fun _ => true) hd 59 v d p) :
    ∃ a m c, ∃ xs : List It, v = .slice a m c ∧ RdS itLay w a m c xs ∧ ∀ x ∈ xs, WfI x :=
  argS itLay WfI Try.underlying59 (by kernel_rfl) (fun _ _ _ h => decItem h) hv h
end
end Go.Proofs.Ytckdkijhkgicnaa
