/- A node is decoded from its encoding: the mathematics. -/
import Derived.Test.YtfgmjegemlkkkaaFormG
namespace Go.Proofs.Ytfgmjegemlkkkaa
open Go.RowKit

theorem flat6 (f : It → List Int) : ∀ (xs : List It), (∀ x ∈ xs, (f x).length = 6) → ∀ (k : Nat) (x : It), xs[k]? = some x → ∀ j, j < 6 → (xs.flatMap f)[6 * k + j]? = (f x)[j]?
  | [], _, k, x, h, _, _ => by simp at h
  | y :: l, hl, 0, x, h, j, hj => by
    obtain rfl : y = x := by simpa using h
    rw [List.flatMap_cons, List.getElem?_append_left (by rw [hl y (List.mem_cons_self)]; omega), Nat.mul_zero, Nat.zero_add]
  | y :: l, hl, k + 1, x, h, j, hj => by
    have h6 := hl y (List.mem_cons_self)
    rw [List.flatMap_cons, List.getElem?_append_right (by omega), h6, show 6 * (k + 1) + j - 6 = 6 * k + j by omega]
    exact flat6 f l (fun x hx => hl x (List.mem_cons_of_mem _ hx)) k x (by simpa using h) j hj
theorem flat6_len (f : It → List Int) : ∀ (xs : List It), (∀ x ∈ xs, (f x).length = 6) → (xs.flatMap f).length = 6 * xs.length
  | [], _ => rfl
  | y :: l, hl => by
    rw [List.flatMap_cons, List.length_append, hl y (List.mem_cons_self), flat6_len f l (fun x hx => hl x (List.mem_cons_of_mem _ hx)), List.length_cons]
    omega
theorem nodeAll_all (b : Bool) (xs : List It) : ∀ (l : List It) (k : Int), nodeAll b xs l k = true → ∀ x ∈ l, okB x.x0 x.y0 x.x1 x.y1 = true ∧ 0 ≤ x.id ∧ x.id ≤ 65535
  | [], _, _, x, hx => by cases hx
  | y :: l, k, h, x, hx => by
    rw [nodeAll, Bool.and_eq_true] at h
    rcases List.mem_cons.1 hx with rfl | hx
    · have h1 := h.1
      unfold entOk inB at h1
      simp only [Bool.and_eq_true] at h1
      refine ⟨h1.1.1, ?_⟩
      have h2 := h1.2
      split at h2 <;> (simp only [decide_eq_true_eq] at h2; omega)
    · exact nodeAll_all b xs l (k + 1) h.2 x hx
theorem nodeOkV_all {b : Bool} {xs : List It} (h : nodeOkV b xs = true) : ∀ x ∈ xs, okB x.x0 x.y0 x.x1 x.y1 = true ∧ 0 ≤ x.id ∧ x.id ≤ 65535 := by
  unfold nodeOkV at h
  rw [Bool.and_eq_true] at h
  exact nodeAll_all b xs xs 0 h.1
theorem putE_yes {x : It} (h : okB x.x0 x.y0 x.x1 x.y1 = true ∧ 0 ≤ x.id ∧ x.id ≤ 65535) : putE x = [x.id / 256, x.id % 256, x.x0, x.y0, x.x1, x.y1] := if_pos ⟨h.2, h.1⟩

section
variable {b : Bool} {xs : List It}
theorem putN_form (h : nodeOkV b xs = true) : ∃ z, putN b xs = headN b xs.length :: (xs.flatMap putE ++ List.replicate z 0) ∧ (putN b xs).length = 25 := by
  have h4 := nodeOkV_len h
  have hl := flat6_len putE xs (fun x hx => by rw [putE_yes (nodeOkV_all h x hx)]; rfl)
  have hb : (bodyN b xs).length = 1 + 6 * xs.length := by unfold bodyN; rw [List.length_cons, hl]; omega
  unfold putN
  rw [if_pos h]
  unfold pad
  split
  · refine ⟨(25 - ((bodyN b xs).length : Int)).toNat, ?_, ?_⟩
    · unfold bodyN
      simp
    · rw [List.length_append, List.length_replicate, hb]; omega
  · refine ⟨0, ?_, ?_⟩
    · unfold bodyN; simp
    · rw [hb]; omega
theorem putN_at (h : nodeOkV b xs = true) {k : Nat} {x : It} (hx : xs[k]? = some x) (j : Nat) (hj : j < 6) : (putN b xs).getD (1 + 6 * k + j) 0 = (putE x).getD j 0 := by
  obtain ⟨z, e, _⟩ := putN_form h
  have hl := flat6_len putE xs (fun x hx => by rw [putE_yes (nodeOkV_all h x hx)]; rfl)
  have hk : k < xs.length := (List.getElem?_eq_some_iff.1 hx).1
  rw [e, List.getD_eq_getElem?_getD, List.getD_eq_getElem?_getD, show 1 + 6 * k + j = (6 * k + j) + 1 by omega, List.getElem?_cons_succ, List.getElem?_append_left (by rw [hl]; omega)]
  rw [flat6 putE xs (fun x hx => by rw [putE_yes (nodeOkV_all h x hx)]; rfl) k x hx j hj]
theorem rawE_putN (h : nodeOkV b xs = true) {k : Nat} {x : It} (hx : xs[k]? = some x) : rawE (putN b xs) (1 + 6 * k) = x := by
  have hv := nodeOkV_all h x (List.mem_of_getElem? hx)
  have g0 := putN_at h hx 0 (by omega)
  have g1 := putN_at h hx 1 (by omega)
  have g2 := putN_at h hx 2 (by omega)
  have g3 := putN_at h hx 3 (by omega)
  have g4 := putN_at h hx 4 (by omega)
  have g5 := putN_at h hx 5 (by omega)
  rw [putE_yes hv] at g0 g1 g2 g3 g4 g5
  unfold rawE
  rw [← Nat.add_zero (1 + 6 * k), g0, Nat.add_zero, g1, g2, g3, g4, g5]
  obtain ⟨i, x0, y0, x1, y1⟩ := x
  show It.mk _ _ _ _ _ = _
  simp only [It.mk.injEq]
  refine ⟨?_, rfl, rfl, rfl, rfl⟩
  show 256 * (i / 256) + i % 256 = i
  omega
theorem hasE_putN (h : nodeOkV b xs = true) {k : Nat} {x : It} (hx : xs[k]? = some x) : hasE (putN b xs) (1 + 6 * (k : Int)) = true := by
  have hk : k < xs.length := (List.getElem?_eq_some_iff.1 hx).1
  have h4 := nodeOkV_len h
  obtain ⟨_, _, e⟩ := putN_form h
  unfold hasE
  rw [show (1 + 6 * (k : Int)).toNat = 1 + 6 * k by omega, rawE_putN h hx, (nodeOkV_all h x (List.mem_of_getElem? hx)).1, decide_eq_true (by rw [e]; omega)]
  rfl
theorem all_putN (h : nodeOkV b xs = true) : ∀ k, k ≤ xs.length → hasAll (putN b xs) k = true ∧ rawAll (putN b xs) k = xs.take k
  | 0, _ => ⟨rfl, by simp [rawAll]⟩
  | k + 1, hk => by
    obtain ⟨h1, h2⟩ := all_putN h k (by omega)
    have hx : xs[k]? = some (xs[k]'(by omega)) := List.getElem?_eq_getElem _
    refine ⟨by rw [hasAll, h1, hasE_putN h hx]; rfl, ?_⟩
    rw [rawAll, h2, rawE_putN h hx, List.take_add_one, hx]
    rfl
theorem head_putN (h : nodeOkV b xs = true) : (putN b xs).getD 0 0 = headN b xs.length := by
  obtain ⟨z, e, _⟩ := putN_form h
  rw [e]
  rfl
theorem cntN_putN (h : nodeOkV b xs = true) : cntN (putN b xs) = xs.length := by
  have h4 := nodeOkV_len h
  unfold cntN
  rw [head_putN h]
  unfold headN
  split <;> omega
theorem leafN_putN (h : nodeOkV b xs = true) : leafN (putN b xs) = b := by
  have h4 := nodeOkV_len h
  unfold leafN
  rw [head_putN h]
  unfold headN
  cases b with
  | true => rw [if_pos rfl]; exact decide_eq_true (by omega)
  | false => rw [if_neg (by simp)]; exact decide_eq_false (by omega)
theorem listN_putN (h : nodeOkV b xs = true) : listN (putN b xs) = xs := by
  have h4 := nodeOkV_len h
  unfold listN
  rw [cntN_putN h, if_pos h4, (all_putN h xs.length (Nat.le_refl _)).2, List.take_length]
theorem okN_putN (b : Bool) (xs : List It) : okN (putN b xs) = nodeOkV b xs := by
  cases h : nodeOkV b xs with
  | true =>
    obtain ⟨_, _, e⟩ := putN_form h
    rw [okN_end e (fun _ => by rw [cntN_putN h]; exact (all_putN h _ (Nat.le_refl _)).1), leafN_putN h, listN_putN h]
    exact decide_eq_true rfl
  | false =>
    have : putN b xs = [] := if_neg (by rw [h]; exact Bool.false_ne_true)
    rw [this]
    exact okN_len (by decide)
end
theorem okN_put {bs : List Int} (h : okN bs = true) : putN (leafN bs) (listN bs) = bs := by
  unfold okN at h
  simp only [Bool.and_eq_true, decide_eq_true_eq] at h
  exact h.2.2
/-- What GetNode answers is a node's bytes, and no other are. -/
theorem okN_iff (b : Bool) (xs : List It) (bs : List Int) : (okN bs = true ∧ leafN bs = b ∧ listN bs = xs) ↔ (nodeOkV b xs = true ∧ putN b xs = bs) := by
  constructor
  · rintro ⟨h, rfl, rfl⟩
    have e := okN_put h
    refine ⟨?_, e⟩
    rw [← okN_putN, e]
    exact h
  · rintro ⟨h, rfl⟩
    exact ⟨by rw [okN_putN]; exact h, leafN_putN h, listN_putN h⟩
end Go.Proofs.Ytfgmjegemlkkkaa
