/- A search looks at no more pages than are reached: in a right book it comes to each page once. -/
import Derived.Test.YtfefggcfeppeiaaGreatLookMZLooks
import Derived.Test.YtfefggcfeppeiaaGreatQLooksf
namespace Go.Proofs.YtfefggcfeppeiaaGreat
open Go.RowKit

theorem flat_parts {g : Int → List Int} : ∀ {R : List Int}, (R.flatMap g).Nodup → (∀ i ∈ R, (g i).Nodup) ∧ (R.Nodup → ∀ i ∈ R, ∀ j ∈ R, i ≠ j → ∀ x ∈ g i, x ∉ g j)
  | [], _ => ⟨(fun _ h => by cases h), (fun _ _ h => by cases h)⟩
  | r :: R, h => by
    rw [List.flatMap_cons, List.nodup_append] at h
    obtain ⟨h1, h2, h3⟩ := h
    obtain ⟨ha, hb⟩ := flat_parts h2
    refine ⟨fun i hi => ?_, fun hn i hi j hj hij x hx hxj => ?_⟩
    · rcases List.mem_cons.1 hi with rfl | hi
      · exact h1
      · exact ha i hi
    · rw [List.nodup_cons] at hn
      rcases List.mem_cons.1 hi with e1 | hi' <;> rcases List.mem_cons.1 hj with e2 | hj'
      · exact hij (e1.trans e2.symm)
      · exact h3 x (by rw [← e1]; exact hx) x (List.mem_flatMap.2 ⟨j, hj', hxj⟩) rfl
      · exact h3 x (by rw [← e2]; exact hxj) x (List.mem_flatMap.2 ⟨i, hi', hx⟩) rfl
      · exact hb hn.2 i hi' j hj' hij x hx hxj
theorem flat_nodup {k : Int → List Int} : ∀ {C : List Int}, C.Nodup → (∀ i ∈ C, (k i).Nodup) → (∀ i ∈ C, ∀ j ∈ C, i ≠ j → ∀ x ∈ k i, x ∉ k j) → (C.flatMap k).Nodup
  | [], _, _, _ => List.nodup_nil
  | c :: C, hn, ha, hb => by
    rw [List.nodup_cons] at hn
    rw [List.flatMap_cons, List.nodup_append]
    refine ⟨ha c List.mem_cons_self, flat_nodup hn.2 (fun i hi => ha i (List.mem_cons_of_mem _ hi)) (fun i hi j hj => hb i (List.mem_cons_of_mem _ hi) j (List.mem_cons_of_mem _ hj)), fun x hx y hy e => ?_⟩
    subst e
    obtain ⟨j, hj, hxj⟩ := List.mem_flatMap.1 hy
    exact hb c List.mem_cons_self j (List.mem_cons_of_mem _ hj) (fun e => hn.1 (by rw [e]; exact hj)) x hx hxj
/-- The numbers of the pages below a page that a search goes on to. -/
def goK (l : List Pg) (c : Bx) (i : Int) : List Int := ((kidsP (pageAt l i)).filter (meetsIt c)).map (fun x => x.id)
/-- Level by level. -/
def levV (k : Int → List Int) : Nat → List Int → List Int
  | 0, _ => []
  | f + 1, S => S ++ levV k f (S.flatMap k)
theorem lev_flat (k : Int → List Int) : ∀ (f : Nat) (S : List Int), levV k f (S.flatMap k) = (levV k f S).flatMap k
  | 0, _ => rfl
  | f + 1, S => by
    show S.flatMap k ++ levV k f ((S.flatMap k).flatMap k) = (S ++ levV k f (S.flatMap k)).flatMap k
    rw [List.flatMap_append, lev_flat k f (S.flatMap k)]
theorem lev_len {l : List Pg} {c : Bx} {R : List Int} (hR : ∀ i ∈ R, (pageAt l i).used = true) (hk : ∀ i ∈ R, ∀ j ∈ goK l c i, j ∈ R) : ∀ (f : Nat) (S : List Int), (∀ i ∈ S, i ∈ R) → (S.flatMap (fun i => visV l c f i)).length = (levV (goK l c) f S).length
  | 0, S, _ => by
    have : S.flatMap (fun i => visV l c 0 i) = [] := by
      induction S with
      | nil => rfl
      | cons s S ih => rw [List.flatMap_cons]; simp [visV]
    rw [this]
    rfl
  | f + 1, S, hS => by
    have h2 := lev_len hR hk f (S.flatMap (goK l c)) (fun j hj => by
      obtain ⟨i, hi, hj⟩ := List.mem_flatMap.1 hj
      exact hk i (hS i hi) j hj)
    show _ = (S ++ levV (goK l c) f (S.flatMap (goK l c))).length
    rw [List.length_append, ← h2]
    clear h2
    induction S with
    | nil => rfl
    | cons s S ih =>
      have h3 := ih (fun i hi => hS i (List.mem_cons_of_mem _ hi))
      rw [List.flatMap_cons, List.length_append, h3, vis_succ (hR s (hS s List.mem_cons_self)), List.length_cons, List.length_cons, List.flatMap_cons, List.flatMap_append, List.length_append]
      have e : (goK l c s).flatMap (fun i => visV l c f i) = ((kidsP (pageAt l s)).filter (meetsIt c)).flatMap (fun x => visV l c f x.id) := by
        unfold goK
        rw [List.flatMap_map]
      rw [e]
      omega
theorem vis_le_reach {l : List Pg} {root : Int} (c : Bx) (h : bookOkV l root = true) (f : Nat) : (visV l c f root).length ≤ (reachV l root).length := by
  have h0 := h
  rw [bookOk_refs] at h0
  simp only [Bool.and_eq_true, refsOk, decide_eq_true_eq] at h0
  obtain ⟨-, hu, -, hn, -⟩ := h0
  have hroot := (reach_grew l root).2 hu
  have hnr := (reach_ok l root).1
  rw [List.nodup_cons] at hn
  obtain ⟨hn1, hn2⟩ := hn
  obtain ⟨ha, hb⟩ := flat_parts (show ((reachV l root).flatMap (kidIds l)).Nodup from hn2)
  have hok := h
  unfold bookOkV at hok
  simp only [Bool.and_eq_true] at hok
  obtain ⟨-, -, -, h2, -⟩ := hok
  have hsub : ∀ i, List.Sublist (goK l c i) (kidIds l i) := fun i => by
    unfold goK kidIds
    exact List.Sublist.map _ List.filter_sublist
  have hk : ∀ i ∈ reachV l root, ∀ j ∈ goK l c i, j ∈ reachV l root := fun i hi j hj => (kidsOk_iff.1 h2 j (mem_allKids.2 ⟨i, hi, (hsub i).subset hj⟩)).1
  have key : ∀ f, (levV (goK l c) f [root]).Nodup ∧ ∀ i ∈ levV (goK l c) f [root], i ∈ reachV l root := by
    intro f
    induction f with
    | zero => exact ⟨List.nodup_nil, (fun i hi => by cases hi)⟩
    | succ f ih =>
      have e : levV (goK l c) (f + 1) [root] = root :: (levV (goK l c) f [root]).flatMap (goK l c) := by
        show [root] ++ levV (goK l c) f ([root].flatMap (goK l c)) = _
        rw [lev_flat]
        rfl
      rw [e]
      have hmem : ∀ i ∈ (levV (goK l c) f [root]).flatMap (goK l c), i ∈ reachV l root ∧ i ∈ allKids l (reachV l root) := fun j hj => by
        obtain ⟨i, hi, hj⟩ := List.mem_flatMap.1 hj
        exact ⟨hk i (ih.2 i hi) j hj, mem_allKids.2 ⟨i, ih.2 i hi, (hsub i).subset hj⟩⟩
      refine ⟨List.nodup_cons.2 ⟨fun hm => hn1 (hmem root hm).2, flat_nodup ih.1 (fun i hi => (hsub i).nodup (ha i (ih.2 i hi))) (fun i hi j hj hij x hx hxj => hb hnr i (ih.2 i hi) j (ih.2 j hj) hij x ((hsub i).subset hx) ((hsub j).subset hxj))⟩, fun i hi => ?_⟩
      rcases List.mem_cons.1 hi with rfl | hi
      · exact hroot
      · exact (hmem i hi).1
  have h3 := lev_len (l := l) (c := c) (R := reachV l root) (fun i hi => reach_used hi) hk f [root] (fun i hi => by rw [List.mem_singleton.1 hi]; exact hroot)
  have h4 := len_of_nodup _ _ (key f).1 (key f).2
  rw [← h3] at h4
  simpa using h4
end Go.Proofs.YtfefggcfeppeiaaGreat
