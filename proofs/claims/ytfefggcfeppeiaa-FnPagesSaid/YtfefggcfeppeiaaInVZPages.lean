/- What the model's l11In answers, and what it keeps: as many pages, few entries more. -/
import Derived.Test.YtfefggcfeppeiaaPart11ZPages
import Derived.Test.YtfefggcfeppeiaaQPagesd
namespace Go.Proofs.Ytfefggcfeppeiaa
open Go.RowKit

/-- No more pages than N, no page with more entries than B. -/
def Fits (N B : Nat) (l : List Pg) : Prop := l.length ≤ N ∧ ∀ p ∈ l, p.xs.length ≤ B
theorem Fits.mono {N B N' B' : Nat} {l : List Pg} (h : Fits N B l) (hN : N ≤ N') (hB : B ≤ B') : Fits N' B' l := ⟨Nat.le_trans h.1 hN, fun p hp => Nat.le_trans (h.2 p hp) hB⟩
theorem Fits.put {N B : Nat} {l : List Pg} (h : Fits N B l) (i : Int) {p : Pg} (hp : p.xs.length ≤ B) : Fits N B (putV l i p) := by
  unfold putV
  split
  · refine ⟨by rw [List.length_set]; exact h.1, fun q hq => ?_⟩
    rcases List.mem_or_eq_of_mem_set hq with h1 | h1
    · exact h.2 q h1
    · rw [h1]; exact hp
  · exact h
theorem Fits.alloc {N B : Nat} {l : List Pg} (h : Fits N B l) : Fits (N + 1) B (allocV l).1 := by
  refine ⟨Nat.le_trans (allocV_le l).1 (Nat.add_le_add_right h.1 1), ?_⟩
  unfold allocV
  split
  · intro q hq
    rcases List.mem_or_eq_of_mem_set hq with h1 | h1
    · exact h.2 q h1
    · rw [h1]; exact Nat.zero_le _
  · split
    · exact h.2
    · intro q hq
      rcases List.mem_append.1 hq with h1 | h1
      · exact h.2 q h1
      · rw [List.mem_singleton.1 h1]; exact Nat.zero_le _
theorem Fits.at_ {N B : Nat} {l : List Pg} (h : Fits N B l) (i : Int) : (pageAt l i).xs.length ≤ B := by
  unfold pageAt
  split
  · cases hq : l[i.toNat]? with
    | none => exact Nat.zero_le _
    | some q => exact h.2 q (List.mem_of_getElem? hq)
  · exact Nat.zero_le _
theorem allocV_ge (l : List Pg) : l.length ≤ (allocV l).1.length := by
  unfold allocV
  split
  · rw [List.length_set]; exact Nat.le_refl _
  · split
    · exact Nat.le_refl _
    · rw [List.length_append]; exact Nat.le_add_right _ _
theorem Fits.part {N B : Nat} {l : List Pg} (h : Fits N B l) (i : Int) : Fits (N + 1) (B + 2) (partV l i).1 := by
  unfold partV
  split
  · exact h.mono (Nat.le_succ _) (Nat.le_add_right _ _)
  · have h1 := partedV_len (pageAt l i).xs
    have h2 := h.at_ i
    exact ((h.alloc.mono (Nat.le_refl _) (Nat.le_add_right B 2)).put i (by show (partedV (pageAt l i).xs).1.length ≤ _; omega)).put _ (by show (partedV (pageAt l i).xs).2.length ≤ _; omega)
theorem partV_ge (l : List Pg) (i : Int) : l.length ≤ (partV l i).1.length := by
  unfold partV
  split
  · exact Nat.le_refl _
  · show _ ≤ (putV _ _ _).length
    rw [(putV_le _ _ _).1, (putV_le _ _ _).1]
    exact allocV_ge l

/-- The end of an insertion at a page: it is put, and parted if it has too many. -/
def fin11 (l : List Pg) (i : Int) (lf : Bool) (ys : List It) : List Pg × Bool × It × Bool :=
  if ys.length ≤ 4 then (putV l i ⟨true, lf, ys⟩, false, zeroIt, true)
  else ((partV (putV l i ⟨true, lf, ys⟩) i).1, true, (partV (putV l i ⟨true, lf, ys⟩) i).2.1, (partV (putV l i ⟨true, lf, ys⟩) i).2.2)
/-- The page that an item goes to from an inner page. -/
def kidV (xs : List It) (x : It) : Int := (xs.getD (chooseV xs (boxOf x)).toNat zeroIt).id
/-- The inner page's entries behind the insertion below it. -/
def upV (xs : List It) (x : It) (r : List Pg × Bool × It × Bool) : List It :=
  xs.set (chooseV xs (boxOf x)).toNat ⟨kidV xs x, (boxesV (pageAt r.1 (kidV xs x)).xs).x0, (boxesV (pageAt r.1 (kidV xs x)).xs).y0, (boxesV (pageAt r.1 (kidV xs x)).xs).x1, (boxesV (pageAt r.1 (kidV xs x)).xs).y1⟩ ++ if r.2.1 then [r.2.2.1] else []
/-- The book behind an insertion at page i, the fuel is 13 less the depth. -/
def inV (l : List Pg) (x : It) : Nat → Int → List Pg × Bool × It × Bool
  | 0, _ => (l, false, zeroIt, false)
  | f + 1, i =>
    if (pageAt l i).leaf then fin11 l i true ((pageAt l i).xs ++ [x])
    else if (inV l x f (kidV (pageAt l i).xs x)).2.2.2 then
      fin11 (inV l x f (kidV (pageAt l i).xs x)).1 i false (upV (pageAt l i).xs x (inV l x f (kidV (pageAt l i).xs x)))
    else ((inV l x f (kidV (pageAt l i).xs x)).1, false, zeroIt, false)
theorem inV_leaf {l : List Pg} {x : It} {f : Nat} {i : Int} (h : (pageAt l i).leaf = true) : inV l x (f + 1) i = fin11 l i true ((pageAt l i).xs ++ [x]) := by
  rw [inV, if_pos h]
theorem inV_inner {l : List Pg} {x : It} {f : Nat} {i : Int} {r : List Pg × Bool × It × Bool} (h : (pageAt l i).leaf = false) (hr : inV l x f (kidV (pageAt l i).xs x) = r) (hok : r.2.2.2 = true) : inV l x (f + 1) i = fin11 r.1 i false (upV (pageAt l i).xs x r) := by
  rw [inV, if_neg (by rw [h]; exact Bool.false_ne_true), hr, if_pos hok]
theorem inV_not {l : List Pg} {x : It} {f : Nat} {i : Int} {r : List Pg × Bool × It × Bool} (h : (pageAt l i).leaf = false) (hr : inV l x f (kidV (pageAt l i).xs x) = r) (hok : r.2.2.2 = false) : inV l x (f + 1) i = (r.1, false, zeroIt, false) := by
  rw [inV, if_neg (by rw [h]; exact Bool.false_ne_true), hr, if_neg (by rw [hok]; exact Bool.false_ne_true)]
theorem fin11_ge (l : List Pg) (i : Int) (lf : Bool) (ys : List It) : l.length ≤ (fin11 l i lf ys).1.length := by
  unfold fin11
  split
  · show _ ≤ (putV l i _).length
    rw [(putV_le _ _ _).1]
    exact Nat.le_refl _
  · refine Nat.le_trans ?_ (partV_ge _ i)
    rw [(putV_le _ _ _).1]
    exact Nat.le_refl _
theorem Fits.fin {N B : Nat} {l : List Pg} (h : Fits N B l) (i : Int) (lf : Bool) {ys : List It} (hy : ys.length ≤ B) : Fits (N + 1) (B + 2) (fin11 l i lf ys).1 := by
  have h1 : Fits N B (putV l i ⟨true, lf, ys⟩) := h.put i hy
  unfold fin11
  split
  · exact h1.mono (Nat.le_succ _) (Nat.le_add_right _ _)
  · exact h1.part i
theorem upV_len (xs : List It) (x : It) (r : List Pg × Bool × It × Bool) : (upV xs x r).length ≤ xs.length + 1 := by
  unfold upV
  rw [List.length_append, List.length_set]
  split
  · exact Nat.le_refl _
  · exact Nat.le_succ _
theorem inV_ge (l : List Pg) (x : It) : ∀ (f : Nat) (i : Int), l.length ≤ (inV l x f i).1.length
  | 0, _ => Nat.le_refl _
  | f + 1, i => by
    have ih := inV_ge l x f (kidV (pageAt l i).xs x)
    rw [inV]
    split
    · exact fin11_ge _ _ _ _
    · split
      · exact Nat.le_trans ih (fin11_ge _ _ _ _)
      · exact ih
theorem Fits.ins {N B : Nat} {l : List Pg} (h : Fits N B l) (x : It) : ∀ (f : Nat) (i : Int), Fits (N + f) (B + 4 * f) (inV l x f i).1
  | 0, _ => h
  | f + 1, i => by
    have ih := h.ins x f (kidV (pageAt l i).xs x)
    have h2 := h.at_ i
    rw [inV]
    split
    · exact ((h.mono (Nat.le_refl _) (Nat.le_add_right B 1)).fin i true (by rw [List.length_append]; show _ + 1 ≤ _; omega)).mono (by omega) (by omega)
    · split
      · have h3 := upV_len (pageAt l i).xs x (inV l x f (kidV (pageAt l i).xs x))
        exact ((ih.mono (Nat.le_refl _) (Nat.le_add_right _ 1)).fin i false (by omega)).mono (by omega) (by omega)
      · exact ih.mono (by omega) (by omega)

/-- From page i one comes down in the book, f steps deep at most: every page is there, every inner one has entries. -/
def Down (l : List Pg) : Nat → Int → Prop
  | 0, i => 0 ≤ i ∧ i < (l.length : Int)
  | f + 1, i => (0 ≤ i ∧ i < (l.length : Int)) ∧ ((pageAt l i).leaf = false → (pageAt l i).xs ≠ [] ∧ ∀ x ∈ (pageAt l i).xs, Down l f x.id)
theorem Down.in_ {l : List Pg} {f : Nat} {i : Int} (h : Down l f i) : 0 ≤ i ∧ i < (l.length : Int) := by
  cases f with
  | zero => exact h
  | succ f => exact h.1
theorem Down.kid {l : List Pg} {f : Nat} {i : Int} (h : Down l (f + 1) i) (hl : (pageAt l i).leaf = false) (x : It) :
    ∃ (k : Nat) (e : It), chooseV (pageAt l i).xs (boxOf x) = k ∧ k < (pageAt l i).xs.length ∧ (pageAt l i).xs[k]? = some e ∧ kidV (pageAt l i).xs x = e.id ∧ Down l f e.id := by
  obtain ⟨h1, h2⟩ := h.2 hl
  obtain ⟨c1, c2⟩ := chooseV_range _ (boxOf x) h1
  obtain ⟨k, hk⟩ := Int.eq_ofNat_of_zero_le c1
  have hk2 : k < (pageAt l i).xs.length := by omega
  refine ⟨k, (pageAt l i).xs[k], hk, hk2, List.getElem?_eq_getElem hk2, ?_, h2 _ (List.getElem_mem hk2)⟩
  unfold kidV
  rw [hk, Int.toNat_natCast, List.getD_eq_getElem?_getD, List.getElem?_eq_getElem hk2]
  rfl
end Go.Proofs.Ytfefggcfeppeiaa
