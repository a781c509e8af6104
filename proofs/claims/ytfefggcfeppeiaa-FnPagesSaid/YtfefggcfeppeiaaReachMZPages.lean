/- What a walk from page to page reaches: a walk with a list of what waits answers alike; what is reached is closed, and used. -/
import Derived.Test.YtfefggcfeppeiaaQPagesd
namespace Go.Proofs.Ytfefggcfeppeiaa
open Go.RowKit

/-- The numbers that a page refers to. -/
def kidIds (l : List Pg) (i : Int) : List Int := (kidsP (pageAt l i)).map (fun x => x.id)
theorem fold_cong {α : Type} {P : List Int → Prop} {g h : List Int → α → List Int} : ∀ (xs : List α) (a : List Int), P a → (∀ acc x, P acc → g acc x = h acc x ∧ P (h acc x)) → xs.foldl g a = xs.foldl h a
  | [], _, _, _ => rfl
  | x :: xs, a, ha, hs => by
    rw [List.foldl_cons, List.foldl_cons, (hs a x ha).1]
    exact fold_cong xs _ (hs a x ha).2 hs
theorem walk_len (l : List Pg) (f : Nat) (i : Int) (zs : List Int) (h : OutOk l zs) : zs.length ≤ (walkV l f i zs).length := by
  obtain ⟨_, t, e⟩ := walkV_ok l f i zs h
  rw [e, List.length_append]
  omega
/-- Enough is enough. -/
theorem walk_fuel (l : List Pg) : ∀ (f g : Nat) (i : Int) (zs : List Int), OutOk l zs → l.length < f + zs.length → l.length < g + zs.length → walkV l f i zs = walkV l g i zs
  | 0, _, _, zs, h, hf, _ => by have := h.len; omega
  | _ + 1, 0, _, zs, h, _, hg => by have := h.len; omega
  | f + 1, g + 1, i, zs, h, hf, hg => by
    rw [walkV_succ, walkV_succ]
    split
    · rename_i hc
      rw [Bool.and_eq_true, Bool.not_eq_true'] at hc
      have h1 := h.snoc (used_in hc.1) hc.2
      refine fold_cong (P := fun acc => OutOk l acc ∧ zs.length + 1 ≤ acc.length) _ _ ⟨h1, by simp⟩ (fun acc x hp => ?_)
      have h2 := walk_len l g x.id acc hp.1
      exact ⟨walk_fuel l f g x.id acc hp.1 (by omega) (by omega), (walkV_ok l g x.id acc hp.1).1, by omega⟩
    · rfl
/-- A walk with enough fuel. -/
def walkW (l : List Pg) (zs : List Int) (i : Int) : List Int := walkV l (l.length + 1) i zs
theorem walkW_ok {l : List Pg} {zs : List Int} (h : OutOk l zs) (i : Int) : OutOk l (walkW l zs i) := (walkV_ok l _ i zs h).1
theorem walkW_no {l : List Pg} {zs : List Int} {i : Int} (h : ((pageAt l i).used && !(zs.contains i)) = false) : walkW l zs i = zs := by
  unfold walkW
  rw [walkV_succ, h]
  rfl
theorem walkW_yes {l : List Pg} {zs : List Int} {i : Int} (hz : OutOk l zs) (h : ((pageAt l i).used && !(zs.contains i)) = true) : walkW l zs i = (kidIds l i).foldl (walkW l) (zs ++ [i]) := by
  unfold walkW kidIds
  rw [walkV_succ, if_pos h, List.foldl_map]
  rw [Bool.and_eq_true, Bool.not_eq_true'] at h
  have h1 := hz.snoc (used_in h.1) h.2
  refine fold_cong (P := fun acc => OutOk l acc ∧ 1 ≤ acc.length) _ _ ⟨h1, by simp⟩ (fun acc x hp => ?_)
  have h2 := walk_len l (l.length + 1) x.id acc hp.1
  exact ⟨walk_fuel l _ _ x.id acc hp.1 (by omega) (by omega), (walkV_ok l _ x.id acc hp.1).1, by omega⟩
/-- What waits, the next one first; what was reached. -/
def WaitOk (l : List Pg) (root : Int) (st zs : List Int) : Prop := OutOk l zs ∧ st.foldl (walkW l) zs = reachV l root
theorem WaitOk.start (l : List Pg) (root : Int) : WaitOk l root [root] [] := ⟨⟨List.nodup_nil, fun z hz => by cases hz⟩, rfl⟩
theorem WaitOk.skip {l : List Pg} {root i : Int} {st zs : List Int} (h : WaitOk l root (i :: st) zs) (hn : ((pageAt l i).used && !(zs.contains i)) = false) : WaitOk l root st zs := by
  refine ⟨h.1, ?_⟩
  have := h.2
  rw [List.foldl_cons, walkW_no hn] at this
  exact this
theorem WaitOk.take {l : List Pg} {root i : Int} {st zs : List Int} (h : WaitOk l root (i :: st) zs) (hy : ((pageAt l i).used && !(zs.contains i)) = true) : WaitOk l root (kidIds l i ++ st) (zs ++ [i]) := by
  have h2 := h.2
  rw [List.foldl_cons, walkW_yes h.1 hy] at h2
  rw [Bool.and_eq_true, Bool.not_eq_true'] at hy
  exact ⟨h.1.snoc (used_in hy.1) hy.2, by rw [List.foldl_append]; exact h2⟩
theorem WaitOk.done {l : List Pg} {root : Int} {zs : List Int} (h : WaitOk l root [] zs) : zs = reachV l root := h.2

/-- A sum over numbers, each once, is no greater than the sum over all. -/
theorem sum_nodup : ∀ (n : Nat) (f : Int → Nat) (zs : List Int), zs.Nodup → (∀ z ∈ zs, 0 ≤ z ∧ z < (n : Int)) → (zs.map f).sum ≤ ((List.range n).map (fun k : Nat => f (k : Int))).sum
  | 0, f, [], _, _ => Nat.le_refl _
  | 0, f, z :: zs, _, h => by have := h z List.mem_cons_self; omega
  | n + 1, f, zs, h, hz => by
    have h1 := sum_nodup n f (zs.erase (n : Int)) (h.erase _) (fun z hm => by
      have h2 := hz z (List.mem_of_mem_erase hm)
      have h3 : z ≠ (n : Int) := fun e => by
        subst e
        exact absurd hm (List.Nodup.not_mem_erase h)
      omega)
    rw [List.range_succ, List.map_append, List.sum_append]
    by_cases hm : (n : Int) ∈ zs
    · have h2 := ((List.perm_cons_erase hm).map f).sum_nat
      rw [h2, List.map_cons, List.sum_cons]
      simp only [List.map_cons, List.map_nil, List.sum_cons, List.sum_nil]
      omega
    · rw [List.erase_of_not_mem hm] at h1
      simp only [List.map_cons, List.map_nil, List.sum_cons, List.sum_nil]
      omega
theorem kids_len (p : Pg) : (kidsP p).length ≤ p.xs.length := by
  unfold kidsP
  split
  · exact Nat.zero_le _
  · exact Nat.le_refl _
theorem sum_range : ∀ (l : List Pg) , ((List.range l.length).map (fun k : Nat => (kidsP (pageAt l (k : Int))).length)).sum ≤ totG l := by
  intro l
  have e : (List.range l.length).map (fun k : Nat => (kidsP (pageAt l (k : Int))).length) = l.map (fun p => (kidsP p).length) := by
    apply List.ext_getElem
    · simp
    · intro k h1 h2
      simp only [List.getElem_map, List.getElem_range]
      have h3 : k < l.length := by simpa using h1
      unfold pageAt
      rw [if_pos (by omega), Int.toNat_natCast, List.getElem?_eq_getElem h3]
      rfl
  rw [e]
  unfold totG
  clear e
  induction l with
  | nil => exact Nat.le_refl _
  | cons p l ih =>
    rw [List.map_cons, List.map_cons, List.sum_cons, List.sum_cons]
    have := kids_len p
    omega
theorem edges_le {l : List Pg} {zs : List Int} (h : OutOk l zs) : edges l zs ≤ totG l :=
  Nat.le_trans (sum_nodup l.length (fun i => (kidsP (pageAt l i)).length) zs h.1 h.2) (sum_range l)
theorem edges_snoc (l : List Pg) (zs : List Int) (i : Int) : edges l (zs ++ [i]) = edges l zs + (kidIds l i).length := by
  unfold edges kidIds
  rw [List.map_append, List.sum_append]
  simp

/-- What a walk adds. -/
structure Grew (l : List Pg) (zs r : List Int) (src : Int → Prop) : Prop where
  ok : OutOk l r
  sub : ∀ z ∈ zs, z ∈ r
  new : ∀ j ∈ r, j ∈ zs ∨ ((pageAt l j).used = true ∧ (∀ k ∈ kidIds l j, (pageAt l k).used = true → k ∈ r) ∧ (src j ∨ ∃ m ∈ r, j ∈ kidIds l m))
theorem fold_grew {l : List Pg} {f : Nat} (ih : ∀ (i : Int) (zs : List Int), OutOk l zs → l.length < f + zs.length → Grew l zs (walkV l f i zs) (fun j => j = i) ∧ ((pageAt l i).used = true → i ∈ walkV l f i zs)) :
    ∀ (ks : List Int) (zs : List Int), OutOk l zs → l.length < f + zs.length → Grew l zs (ks.foldl (fun acc k => walkV l f k acc) zs) (fun j => j ∈ ks) ∧ ∀ k ∈ ks, (pageAt l k).used = true → k ∈ ks.foldl (fun acc k => walkV l f k acc) zs
  | [], zs, h, _ => ⟨⟨h, fun _ hz => hz, fun _ hj => .inl hj⟩, fun k hk => by cases hk⟩
  | k :: ks, zs, h, hf => by
    rw [List.foldl_cons]
    obtain ⟨g, hi⟩ := ih k zs h hf
    have hl := walk_len l f k zs h
    obtain ⟨g2, hi2⟩ := fold_grew ih ks _ g.ok (by omega)
    refine ⟨⟨g2.ok, fun z hz => g2.sub z (g.sub z hz), fun j hj => ?_⟩, fun x hx hu => ?_⟩
    · rcases g2.new j hj with h1 | ⟨h1, h2, h3⟩
      · rcases g.new j h1 with h4 | ⟨h4, h5, h6⟩
        · exact .inl h4
        · refine .inr ⟨h4, fun x hx hu => g2.sub x (h5 x hx hu), ?_⟩
          rcases h6 with rfl | ⟨m, hm, h7⟩
          · exact .inl List.mem_cons_self
          · exact .inr ⟨m, g2.sub m hm, h7⟩
      · refine .inr ⟨h1, h2, ?_⟩
        rcases h3 with h3 | h3
        · exact .inl (List.mem_cons_of_mem _ h3)
        · exact .inr h3
    · rcases List.mem_cons.1 hx with rfl | hx
      · exact g2.sub _ (hi hu)
      · exact hi2 x hx hu
theorem walk_grew (l : List Pg) : ∀ (f : Nat) (i : Int) (zs : List Int), OutOk l zs → l.length < f + zs.length → Grew l zs (walkV l f i zs) (fun j => j = i) ∧ ((pageAt l i).used = true → i ∈ walkV l f i zs)
  | 0, _, zs, h, hf => by have := h.len; omega
  | f + 1, i, zs, h, hf => by
    rw [walkV_succ]
    split
    · rename_i hc
      rw [Bool.and_eq_true, Bool.not_eq_true'] at hc
      have h1 := h.snoc (used_in hc.1) hc.2
      obtain ⟨g, hk⟩ := fold_grew (walk_grew l f) (kidIds l i) (zs ++ [i]) h1 (by rw [List.length_append, List.length_singleton]; omega)
      have e : (kidIds l i).foldl (fun acc k => walkV l f k acc) (zs ++ [i]) = (kidsP (pageAt l i)).foldl (fun acc x => walkV l f x.id acc) (zs ++ [i]) := by
        unfold kidIds
        rw [List.foldl_map]
      rw [e] at g hk
      have hi := g.sub i (List.mem_append_right _ (List.mem_singleton.2 rfl))
      refine ⟨⟨g.ok, fun z hz => g.sub z (List.mem_append_left _ hz), fun j hj => ?_⟩, fun _ => hi⟩
      rcases g.new j hj with h2 | ⟨h2, h3, h4⟩
      · rcases List.mem_append.1 h2 with h5 | h5
        · exact .inl h5
        · obtain rfl := List.mem_singleton.1 h5
          exact .inr ⟨hc.1, hk, .inl rfl⟩
      · refine .inr ⟨h2, h3, .inr ?_⟩
        rcases h4 with h4 | h4
        · exact ⟨i, hi, h4⟩
        · exact h4
    · rename_i hc
      refine ⟨⟨h, fun _ hz => hz, fun _ hj => .inl hj⟩, fun hu => ?_⟩
      rw [hu, Bool.true_and, Bool.not_eq_true, Bool.not_eq_false'] at hc
      exact List.contains_iff_mem.1 hc
theorem outOk_nil (l : List Pg) : OutOk l [] := ⟨List.nodup_nil, fun z hz => by cases hz⟩
theorem reach_ok (l : List Pg) (root : Int) : OutOk l (reachV l root) := (walkV_ok l _ root [] (outOk_nil l)).1
theorem reach_grew (l : List Pg) (root : Int) : Grew l [] (reachV l root) (fun j => j = root) ∧ ((pageAt l root).used = true → root ∈ reachV l root) := walk_grew l (l.length + 1) root [] (outOk_nil l) (by simp)
theorem reach_used {l : List Pg} {root j : Int} (h : j ∈ reachV l root) : (pageAt l j).used = true := by
  rcases (reach_grew l root).1.new j h with h1 | h1
  · cases h1
  · exact h1.1
theorem reach_closed {l : List Pg} {root j k : Int} (h : j ∈ reachV l root) (hk : k ∈ kidIds l j) (hu : (pageAt l k).used = true) : k ∈ reachV l root := by
  rcases (reach_grew l root).1.new j h with h1 | h1
  · cases h1
  · exact h1.2.1 k hk hu
theorem reach_from {l : List Pg} {root j : Int} (h : j ∈ reachV l root) : j = root ∨ ∃ m ∈ reachV l root, j ∈ kidIds l m := by
  rcases (reach_grew l root).1.new j h with h1 | h1
  · cases h1
  · exact h1.2.2
theorem reach_none {l : List Pg} {root : Int} (h : (pageAt l root).used = false) : reachV l root = [] := by
  unfold reachV
  rw [walkV_succ, h]
  rfl

theorem nodup_of_len : ∀ (r s : List Int), r.Nodup → (∀ x ∈ r, x ∈ s) → s.length ≤ r.length → s.Nodup ∧ ∀ x ∈ s, x ∈ r
  | [], s, _, _, h => by
    obtain rfl := List.length_eq_zero_iff.1 (Nat.le_zero.1 h)
    exact ⟨List.nodup_nil, fun x hx => hx⟩
  | x :: r, s, h, hs, hl => by
    rw [List.nodup_cons] at h
    have hx := hs x List.mem_cons_self
    have hp := List.perm_cons_erase hx
    have hl2 := hp.length_eq
    rw [List.length_cons] at hl2 hl
    obtain ⟨h1, h2⟩ := nodup_of_len r (s.erase x) h.2 (fun y hy => (List.mem_erase_of_ne (fun e => h.1 (by rw [← e]; exact hy))).2 (hs y (List.mem_cons_of_mem _ hy))) (by omega)
    refine ⟨hp.nodup_iff.2 (List.nodup_cons.2 ⟨fun hm => h.1 (h2 x hm), h1⟩), fun y hy => ?_⟩
    rcases List.mem_cons.1 (hp.mem_iff.1 hy) with rfl | hy
    · exact List.mem_cons_self
    · exact List.mem_cons_of_mem _ (h2 y hy)
theorem len_of_nodup : ∀ (r s : List Int), r.Nodup → (∀ x ∈ r, x ∈ s) → r.length ≤ s.length
  | [], _, _, _ => Nat.zero_le _
  | x :: r, s, h, hs => by
    rw [List.nodup_cons] at h
    have hx := hs x List.mem_cons_self
    have hl2 := (List.perm_cons_erase hx).length_eq
    rw [List.length_cons] at hl2 ⊢
    have := len_of_nodup r (s.erase x) h.2 (fun y hy => (List.mem_erase_of_ne (fun e => h.1 (by rw [← e]; exact hy))).2 (hs y (List.mem_cons_of_mem _ hy)))
    omega

/-- All numbers that the reachable pages refer to, in order. -/
def allKids (l : List Pg) (r : List Int) : List Int := r.flatMap (kidIds l)
theorem allKids_len (l : List Pg) (r : List Int) : (allKids l r).length = edges l r := by
  unfold allKids edges
  rw [List.length_flatMap]
  congr 1
  refine List.map_congr_left fun i _ => ?_
  unfold kidIds
  rw [List.length_map]
/-- No page is referred to twice, nor the root once; all are used. -/
def refsOk (l : List Pg) (root : Int) : Bool := decide ((root :: allKids l (reachV l root)).Nodup) && (allKids l (reachV l root)).all (fun k => (pageAt l k).used)
theorem mem_allKids {l : List Pg} {r : List Int} {k : Int} : k ∈ allKids l r ↔ ∃ i ∈ r, k ∈ kidIds l i := List.mem_flatMap
theorem kidsOk_iff {l : List Pg} {root : Int} : (reachV l root).all (kidsOk l (reachV l root) root) = true ↔ ∀ k ∈ allKids l (reachV l root), k ∈ reachV l root ∧ k ≠ root := by
  rw [List.all_eq_true]
  constructor
  · intro h k hk
    obtain ⟨i, hi, hk⟩ := mem_allKids.1 hk
    have h1 := h i hi
    unfold kidsOk at h1
    rw [List.all_eq_true] at h1
    obtain ⟨x, hx, rfl⟩ := List.mem_map.1 hk
    have h2 := h1 x hx
    unfold kidOk at h2
    rw [Bool.and_eq_true, List.contains_iff_mem, decide_eq_true_eq] at h2
    exact h2
  · intro h i hi
    unfold kidsOk
    rw [List.all_eq_true]
    intro x hx
    unfold kidOk
    rw [Bool.and_eq_true, List.contains_iff_mem, decide_eq_true_eq]
    exact h x.id (mem_allKids.2 ⟨i, hi, List.mem_map_of_mem hx⟩)
/-- Validity, said in the other way. -/
theorem bookOk_refs (l : List Pg) (root : Int) : bookOkV l root = (decide (l.length ≤ 48) && ((pageAt l root).used && (l.all pgOk && refsOk l root))) := by
  unfold bookOkV
  by_cases hu : (pageAt l root).used = true
  · have hr := (reach_grew l root).2 hu
    have hin := used_in hu
    have hne : (reachV l root).isEmpty = false := by
      cases e : reachV l root with
      | nil => rw [e] at hr; cases hr
      | cons => rfl
    rw [hu, hne]
    have hlen : decide (1 ≤ l.length ∧ l.length ≤ 48) = decide (l.length ≤ 48) := by
      congr 1
      apply propext
      constructor
      · exact fun h => h.2
      · intro h
        exact ⟨by omega, h⟩
    rw [hlen]
    simp only [Bool.not_false, Bool.true_and]
    congr 2
    have hsub : ∀ x ∈ reachV l root, x ∈ root :: allKids l (reachV l root) := fun x hx => by
      rcases reach_from hx with rfl | ⟨m, hm, h2⟩
      · exact List.mem_cons_self
      · exact List.mem_cons_of_mem _ (mem_allKids.2 ⟨m, hm, h2⟩)
    have hn := (reach_ok l root).1
    have hl1 := len_of_nodup _ _ hn hsub
    rw [List.length_cons, allKids_len] at hl1
    rw [Bool.eq_iff_iff]
    unfold refsOk
    rw [Bool.and_eq_true, Bool.and_eq_true, kidsOk_iff, decide_eq_true_eq, decide_eq_true_eq, List.all_eq_true]
    constructor
    · rintro ⟨h1, h2⟩
      refine ⟨(nodup_of_len _ _ hn hsub (by rw [List.length_cons, allKids_len]; omega)).1, fun k hk => reach_used (h1 k hk).1⟩
    · rintro ⟨h1, h2⟩
      have h3 : ∀ k ∈ allKids l (reachV l root), k ∈ reachV l root := fun k hk => by
        obtain ⟨i, hi, h4⟩ := mem_allKids.1 hk
        exact reach_closed hi h4 (h2 k hk)
      refine ⟨fun k hk => ⟨h3 k hk, fun e => ?_⟩, ?_⟩
      · subst e
        exact (List.nodup_cons.1 h1).1 hk
      · have h4 := len_of_nodup _ (reachV l root) h1 (fun x hx => by
          rcases List.mem_cons.1 hx with rfl | hx
          · exact hr
          · exact h3 x hx)
        rw [List.length_cons, allKids_len] at h4
        omega
  · rw [Bool.not_eq_true] at hu
    rw [hu, reach_none hu]
    simp
end Go.Proofs.Ytfefggcfeppeiaa
