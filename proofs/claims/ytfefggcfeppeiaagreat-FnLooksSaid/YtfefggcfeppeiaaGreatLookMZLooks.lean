/- What a search looks at: the pages in their order; the items that it finds; how deep the first entries lead. -/
import Derived.Test.YtfefggcfeppeiaaGreatQLooksf
namespace Go.Proofs.YtfefggcfeppeiaaGreat
open Go.RowKit

def meetsIt (c : Bx) (x : It) : Bool := meetsB x.x0 x.y0 x.x1 x.y1 c.x0 c.y0 c.x1 c.y1
/-- The pages that a search looks at, each before those below it. -/
def visV (l : List Pg) (c : Bx) : Nat → Int → List Pg
  | 0, _ => []
  | f + 1, i => if (pageAt l i).used then pageAt l i :: ((kidsP (pageAt l i)).filter (meetsIt c)).flatMap (fun x => visV l c f x.id) else []
def hitP (c : Bx) (p : Pg) : List It := if p.leaf then p.xs.filter (meetsIt c) else []
def hitsV (l : List Pg) (c : Bx) (f : Nat) (i : Int) : List It := (visV l c f i).flatMap (hitP c)
def searchV (l : List Pg) (root : Int) (c : Bx) : List It := if bookOkV l root then hitsV l c 12 root else []
def visitedV (l : List Pg) (root : Int) (c : Bx) : Nat := if bookOkV l root then (visV l c 12 root).length else 0
/-- How many pages lie on the way along the first entries. -/
def deepV (l : List Pg) : Nat → Int → Nat
  | 0, _ => 0
  | f + 1, i => if (pageAt l i).used then (match kidsP (pageAt l i) with | [] => 1 | x :: _ => deepV l f x.id + 1) else 0

theorem flat_le {α β : Type} {g : α → List β} {B : Nat} (h : ∀ x, (g x).length ≤ B) : ∀ r : List α, (r.flatMap g).length ≤ r.length * B
  | [] => by simp
  | x :: r => by
    have h1 := h x
    have h2 := flat_le h r
    rw [List.flatMap_cons, List.length_append, List.length_cons, Nat.add_mul, Nat.one_mul]
    omega
def visN : Nat → Nat
  | 0 => 0
  | f + 1 => 1 + 4 * visN f
theorem page_len {l : List Pg} {B : Nat} (h : ∀ p ∈ l, p.xs.length ≤ B) (i : Int) : (pageAt l i).xs.length ≤ B := by
  unfold pageAt
  split
  · cases e : l[i.toNat]? with
    | none => exact Nat.zero_le _
    | some p => exact h p (List.mem_of_getElem? e)
  · exact Nat.zero_le _
theorem kidsP_len {p : Pg} : (kidsP p).length ≤ p.xs.length := by
  unfold kidsP
  split
  · exact Nat.zero_le _
  · exact Nat.le_refl _
theorem vis_len {l : List Pg} (c : Bx) (h : ∀ p ∈ l, p.xs.length ≤ 4) : ∀ (f : Nat) (i : Int), (visV l c f i).length ≤ visN f
  | 0, _ => Nat.le_refl _
  | f + 1, i => by
    unfold visV visN
    split
    · have h1 := flat_le (g := fun x : It => visV l c f x.id) (fun x => vis_len c h f x.id) ((kidsP (pageAt l i)).filter (meetsIt c))
      have h2 := List.length_filter_le (meetsIt c) (kidsP (pageAt l i))
      have h3 := kidsP_len (p := pageAt l i)
      have h4 := page_len h i
      have h5 : ((kidsP (pageAt l i)).filter (meetsIt c)).length * visN f ≤ 4 * visN f := Nat.mul_le_mul_right _ (by omega)
      rw [List.length_cons]
      omega
    · exact Nat.zero_le _
theorem vis_mem {l : List Pg} (c : Bx) : ∀ (f : Nat) (i : Int), ∀ p ∈ visV l c f i, ∃ j, p = pageAt l j ∧ p.used = true
  | 0, _, p, hp => by cases hp
  | f + 1, i, p, hp => by
    unfold visV at hp
    split at hp
    · rename_i hu
      rcases List.mem_cons.1 hp with rfl | hp
      · exact ⟨i, rfl, hu⟩
      · obtain ⟨x, _, hx⟩ := List.mem_flatMap.1 hp
        exact vis_mem c f x.id p hx
    · cases hp
theorem hit_le {c : Bx} {p : Pg} : (hitP c p).length ≤ p.xs.length := by
  unfold hitP
  split
  · exact List.length_filter_le _ _
  · exact Nat.zero_le _
theorem hits_len {l : List Pg} (c : Bx) (h : ∀ p ∈ l, p.xs.length ≤ 4) (f : Nat) (i : Int) : (hitsV l c f i).length ≤ visN f * 4 := by
  have h1 : ∀ r : List Pg, (∀ p ∈ r, p.xs.length ≤ 4) → (r.flatMap (hitP c)).length ≤ r.length * 4 := by
    intro r
    induction r with
    | nil => intro _; simp
    | cons p r ih =>
      intro hr
      have h2 := ih (fun q hq => hr q (List.mem_cons_of_mem _ hq))
      have h3 := hit_le (c := c) (p := p)
      have h4 := hr p List.mem_cons_self
      rw [List.flatMap_cons, List.length_append, List.length_cons, Nat.add_mul, Nat.one_mul]
      omega
  refine Nat.le_trans (h1 _ (fun p hp => ?_)) (Nat.mul_le_mul_right _ (vis_len c h f i))
  obtain ⟨j, rfl, _⟩ := vis_mem c f i p hp
  exact page_len h j
theorem visN12 : visN 12 = 5592405 := by decide
theorem visN_le : ∀ f, f ≤ 12 → visN f ≤ 5592405 := by decide
theorem hits_succ {l : List Pg} {c : Bx} {f : Nat} {i : Int} (h : (pageAt l i).used = true) : hitsV l c (f + 1) i = hitP c (pageAt l i) ++ ((kidsP (pageAt l i)).filter (meetsIt c)).flatMap (fun x => hitsV l c f x.id) := by
  unfold hitsV
  rw [visV, if_pos h, List.flatMap_cons, List.flatMap_assoc]
theorem vis_succ {l : List Pg} {c : Bx} {f : Nat} {i : Int} (h : (pageAt l i).used = true) : visV l c (f + 1) i = pageAt l i :: ((kidsP (pageAt l i)).filter (meetsIt c)).flatMap (fun x => visV l c f x.id) := by
  rw [visV, if_pos h]
theorem vis_not {l : List Pg} {c : Bx} {f : Nat} {i : Int} (h : (pageAt l i).used = false) : visV l c (f + 1) i = [] := by
  rw [visV, if_neg (by rw [h]; exact Bool.false_ne_true)]
theorem filter_step {p : It → Bool} {xs : List It} {k : Nat} {x : It} (h : xs[k]? = some x) : (xs.take (k + 1)).filter p = if p x then (xs.take k).filter p ++ [x] else (xs.take k).filter p := filter_more h
theorem ok_len {l : List Pg} {root : Int} (h : bookOkV l root = true) : ∀ p ∈ l, p.xs.length ≤ 4 := by
  unfold bookOkV at h
  simp only [Bool.and_eq_true, List.all_eq_true] at h
  intro p hp
  have h1 := h.2.2.1 p hp
  unfold pgOk at h1
  split at h1
  · unfold nodeOkV at h1
    simp only [Bool.and_eq_true, decide_eq_true_eq] at h1
    exact h1.2.1
  · simp at h1
    simp [h1]
theorem ok_size {l : List Pg} {root : Int} (h : bookOkV l root = true) : l.length ≤ 48 := by
  unfold bookOkV at h
  simp only [Bool.and_eq_true, decide_eq_true_eq] at h
  exact h.1.2
end Go.Proofs.YtfefggcfeppeiaaGreat
