/- What a law's arguments are: rectangles by value, slices of them, slices of bytes, as the rows hand them in. -/
import Derived.Test.YtfefggcfeppeiaaGreatQLooksf
import Derived.Lib.SmallJoins
import Derived.Deep.Slices
import Derived.Deep.Fields
import Derived.ChangeSame
import Derived.OpenShut
import Derived.ProofKit
namespace Go.Proofs.YtfefggcfeppeiaaGreat
open Go.RowKit Go.Joins Go.ChangeShapes Go.WideShapes Go.Deep

section
variable {H : Type} {enc : TypeId × Value → H} {w : World} {base b0 : Nat} {r : Reach} {v : Value} {d : DataW H} {p : List MemPlace} {sp : Nat → Bool} {hd : Bool} {n : Nat} {cs : List Value} {y : DataW H × List MemPlace}

def WfB (x : Bx) : Prop := (Lit.int .i64 x.x0).wf = true ∧ (Lit.int .i64 x.y0).wf = true ∧ (Lit.int .i64 x.x1).wf = true ∧ (Lit.int .i64 x.y1).wf = true

set_option maxRecDepth 100000 in
theorem list_of {α : Type} (m : Nat) (P : Nat → α → Prop) (h : ∀ i, i < m → ∃ x, P i x) : ∃ xs : List α, xs.length = m ∧ ∀ i x, xs[i]? = some x → P i x := by
  induction m with
  | zero => exact ⟨[], rfl, fun i x hx => by simp at hx⟩
  | succ m ih =>
    obtain ⟨xs, hl, hx⟩ := ih (fun i hi => h i (by omega))
    obtain ⟨x, hp⟩ := h m (by omega)
    refine ⟨xs ++ [x], by simp [hl], fun i y hy => ?_⟩
    by_cases hi : i < m
    · rw [List.getElem?_append_left (by omega)] at hy
      exact hx i y hy
    · rw [List.getElem?_append_right (by omega)] at hy
      have hi' : i = m := by
        have := (List.getElem?_eq_some_iff.1 hy).1
        simp at this; omega
      subst hi'
      rw [hl, Nat.sub_self] at hy
      simp at hy
      subst hy
      exact hp
set_option maxRecDepth 100000 in
theorem some_at {α : Type} {ys : List α} {j m : Nat} (h : ys.length = m) (hj : j < m) : ∃ y, ys[j]? = some y := ⟨_, List.getElem?_eq_getElem (by omega)⟩
set_option maxRecDepth 100000 in
theorem cell_int (h : DataW.trod enc Tryz.prog w base sp hd n 3 cs = some y) : ∃ k : Int, cs = [.int .i64 k] ∧ (Lit.int .i64 k).wf = true := by
  obtain ⟨k, hc, _, hw⟩ := DataW.trod_int Tryz.underlying3 h
  exact ⟨k, hc, hw⟩

set_option maxRecDepth 100000 in
/-- A slice whose elements are known by their cells. -/
theorem argS {α : Type} (L : Lay α) (Wf : α → Prop) {t e : TypeId} (ht : Tryz.prog.underlying t = some (.slice e)) (hc : Tryz.prog.cellsOf e = L.sz)
    (dec : ∀ (n : Nat) (cs : List Value) (y : DataW H × List MemPlace), DataW.trod enc Tryz.prog w base (fun _ => true) hd n e cs = some y → ∃ x : α, cs = L.cells x ∧ Wf x)
    (hv : Value.okWide Tryz.prog w r b0 t v) (h : DataW.Trod enc Tryz.prog w base (fun _ => true) hd t v d p) :
    ∃ a m c, ∃ xs : List α, v = .slice a m c ∧ RdS L w a m c xs ∧ ∀ x ∈ xs, Wf x := by
  obtain ⟨a, m, c, rfl⟩ := okWide_slice ht hv
  obtain ⟨n, h⟩ := h
  rcases open_slice ht h with ⟨hcs, _⟩ | ⟨a', len, cap, q, n', D, Pl, hcs, _, hl, hm, hq, _, hel⟩
  · simp [Value.cells] at hcs
    obtain ⟨rfl, rfl, rfl⟩ := hcs
    exact ⟨none, 0, 0, [], rfl, rdS_nil w, fun x hx => by cases hx⟩
  · simp [Value.cells] at hcs
    obtain ⟨rfl, rfl, rfl⟩ := hcs
    simp only [if_true] at hq
    obtain ⟨xs, hlen, hxs⟩ := list_of m (fun i x => w.cells? base (a'.add (i * L.sz)) L.sz = some (L.cells x) ∧ Wf x) (fun i hi => by
      obtain ⟨cs', h1, h2⟩ := hel i (by omega)
      obtain ⟨x, rfl, hw⟩ := dec n' cs' _ h2
      rw [hc] at h1
      exact ⟨x, h1, hw⟩)
    refine ⟨some a', m, c, xs, rfl, ⟨⟨hlen, hl, hm, fun h => by cases h⟩, fun hpos => ?_⟩, fun x hx => ?_⟩
    · obtain ⟨x0, hx0⟩ := some_at hlen (j := 0) hpos
      obtain ⟨b, off, spot⟩ := a'
      have hat : ∀ i x, xs[i]? = some x → ∀ j u, (L.cells x)[j]? = some u → w.cell? ((⟨b, off, spot⟩ : Addr).add (i * L.sz + j)) = some u := by
        intro i x hx j u hj
        obtain ⟨_, _, h2⟩ := World.cells?_some (hxs i x hx).1
        have hj' : j < L.sz := by have := (List.getElem?_eq_some_iff.1 hj).1; rw [L.len] at this; exact this
        rw [← Go.Deep.add_add, h2 j hj', hj]
      have hu : (L.cells x0)[0]? = some ((L.cells x0)[0]'(by rw [L.len]; exact L.pos)) := List.getElem?_eq_getElem _
      have hspot : spot = none := by
        have h0 := hat 0 x0 hx0 0 _ hu
        rw [Nat.zero_mul, Nat.add_zero] at h0
        simpa [Addr.add] using World.cell?_spot h0
      subst hspot
      exact ⟨b, off, rfl, fun i x hx j u hj => by rw [← Go.WideShapes.add_plain]; exact hat i x hx j u hj⟩
    · obtain ⟨i, hi⟩ := List.mem_iff_getElem?.1 hx
      exact (hxs i x hi).2
set_option maxRecDepth 100000 in
/-- A slice of bytes. -/
theorem argBytes (hv : Value.okWide Tryz.prog w r b0 22 v) (h : DataW.Trod enc Tryz.prog w base (fun _ => true) hd 22 v d p) :
    ∃ a m c, ∃ zs : List Int, v = .slice a m c ∧ RdI .u8 w a m c zs ∧ ∀ z ∈ zs, (Lit.int .u8 z).wf = true := by
  obtain ⟨a, m, c, rfl⟩ := okWide_slice Tryz.underlying22 hv
  obtain ⟨fuel, hf⟩ := h
  rcases open_ints Tryz.underlying22 Tryz.underlying5 (by kernel_rfl) hf with ⟨hcs, _⟩ | ⟨x, l, cc, zs, hcs, _, hl, hm, hz, _, hcell, hwz⟩
  · simp [Value.cells] at hcs
    obtain ⟨rfl, rfl, rfl⟩ := hcs
    exact ⟨none, 0, 0, [], rfl, rdI_nil _ _, fun x hx => by cases hx⟩
  · simp [Value.cells] at hcs
    obtain ⟨rfl, rfl, rfl⟩ := hcs
    have := rdI_row (.inr ⟨_, rfl, hl, hm, by simpa using hz, hcell, hwz⟩)
    exact ⟨_, m, c, _, rfl, this.1, this.2⟩
end
end Go.Proofs.YtfefggcfeppeiaaGreat
