/- What the model's l11In keeps: numbers; that one can come down in a right book. -/
import Derived.Test.YtfefggcfeppeiaaInVZPages
import Derived.Test.YtfefggcfeppeiaaReachMZPages
namespace Go.Proofs.Ytfefggcfeppeiaa
open Go.RowKit

theorem WfL.put {l : List Pg} (h : WfL l) (i : Int) {p : Pg} (hp : ∀ x ∈ p.xs, (Lit.int .i64 x.id).wf = true) : WfL (putV l i p) := by
  unfold putV
  split
  · intro q hq
    rcases List.mem_or_eq_of_mem_set hq with h1 | h1
    · exact h q h1
    · rw [h1]; exact hp
  · exact h
theorem WfL.alloc {l : List Pg} (h : WfL l) : WfL (allocV l).1 := by
  unfold allocV
  split
  · intro q hq
    rcases List.mem_or_eq_of_mem_set hq with h1 | h1
    · exact h q h1
    · rw [h1]; exact fun x hx => by cases hx
  · split
    · exact h
    · intro q hq
      rcases List.mem_append.1 hq with h1 | h1
      · exact h q h1
      · rw [List.mem_singleton.1 h1]; exact fun x hx => by cases hx
theorem WfL.at_ {l : List Pg} (h : WfL l) (i : Int) : ∀ x ∈ (pageAt l i).xs, (Lit.int .i64 x.id).wf = true := by
  unfold pageAt
  split
  · cases hq : l[i.toNat]? with
    | none => exact fun x hx => by cases hx
    | some q => exact h q (List.mem_of_getElem? hq)
  · exact fun x hx => by cases hx
theorem wf_zeroIt : (Lit.int .i64 zeroIt.id).wf = true := by decide
theorem WfL.part {l : List Pg} (h : WfL l) (hl : l.length ≤ 100000) (i : Int) : WfL (partV l i).1 ∧ (Lit.int .i64 (partV l i).2.1.id).wf = true := by
  unfold partV
  split
  · exact ⟨h, wf_zeroIt⟩
  · rename_i hn
    obtain ⟨h1, h2⟩ := partedV_all (P := fun x => (Lit.int .i64 x.id).wf = true) wf_zeroIt (h.at_ i)
    have h3 := allocV_idx l
    exact ⟨(h.alloc.put i h1).put _ h2, wf_small _ (by show -1000000 ≤ (allocV l).2; omega) (by show (allocV l).2 ≤ 1000000; omega)⟩
theorem WfL.fin {l : List Pg} (h : WfL l) (hl : l.length ≤ 100000) (i : Int) (lf : Bool) {ys : List It} (hy : ∀ x ∈ ys, (Lit.int .i64 x.id).wf = true) : WfL (fin11 l i lf ys).1 ∧ (Lit.int .i64 (fin11 l i lf ys).2.2.1.id).wf = true := by
  have h1 : WfL (putV l i ⟨true, lf, ys⟩) := h.put i hy
  unfold fin11
  split
  · exact ⟨h1, wf_zeroIt⟩
  · exact h1.part (by rw [(putV_le _ _ _).1]; exact hl) i
theorem wf_up {xs : List It} (x : It) {r : List Pg × Bool × It × Bool} (h : ∀ y ∈ xs, (Lit.int .i64 y.id).wf = true) (hr : (Lit.int .i64 r.2.2.1.id).wf = true) : ∀ y ∈ upV xs x r, (Lit.int .i64 y.id).wf = true := by
  unfold upV
  intro y hy
  rcases List.mem_append.1 hy with h1 | h1
  · rcases List.mem_or_eq_of_mem_set h1 with h2 | h2
    · exact h y h2
    · rw [h2]
      show (Lit.int .i64 (kidV xs x)).wf = true
      unfold kidV
      rw [List.getD_eq_getElem?_getD]
      cases e : xs[(chooseV xs (boxOf x)).toNat]? with
      | none => exact wf_zeroIt
      | some z => exact h z (List.mem_of_getElem? e)
  · split at h1
    · rw [List.mem_singleton.1 h1]
      exact hr
    · cases h1
theorem WfL.ins {l : List Pg} (h : WfL l) {x : It} (hx : (Lit.int .i64 x.id).wf = true) {N B : Nat} (hF : Fits N B l) (hN : N ≤ 90000) : ∀ (f : Nat) (i : Int), f ≤ 100 → WfL (inV l x f i).1 ∧ (Lit.int .i64 (inV l x f i).2.2.1.id).wf = true
  | 0, _, _ => ⟨h, wf_zeroIt⟩
  | f + 1, i, hf => by
    have ih := h.ins hx hF hN f (kidV (pageAt l i).xs x) (by omega)
    have h2 := (hF.ins x f (kidV (pageAt l i).xs x)).1
    have h3 := hF.1
    rw [inV]
    split
    · refine h.fin (by omega) i true (fun y hy => ?_)
      rcases List.mem_append.1 hy with h4 | h4
      · exact h.at_ i y h4
      · rw [List.mem_singleton.1 h4]
        exact hx
    · split
      · exact ih.1.fin (by omega) i false (wf_up x (h.at_ i) ih.2)
      · exact ⟨ih.1, wf_zeroIt⟩

theorem pageAt_mem {l : List Pg} {i : Int} (h : 0 ≤ i ∧ i < (l.length : Int)) : pageAt l i ∈ l := by
  unfold pageAt
  rw [if_pos h.1]
  have : i.toNat < l.length := by omega
  rw [List.getElem?_eq_getElem this]
  exact List.getElem_mem this
/-- In a right book one comes down from each page that is reached. -/
theorem down_of_ok {l : List Pg} {root : Int} (h : bookOkV l root = true) : ∀ (f : Nat) (i : Int), i ∈ reachV l root → Down l f i
  | 0, i, hi => used_in (reach_used hi)
  | f + 1, i, hi => by
    have hu := reach_used hi
    have hin := used_in hu
    refine ⟨hin, fun hlf => ?_⟩
    have hk := h
    unfold bookOkV at hk
    simp only [Bool.and_eq_true] at hk
    obtain ⟨-, -, h1, h2, -⟩ := hk
    have hp := (List.all_eq_true.1 h1) _ (pageAt_mem hin)
    unfold pgOk at hp
    rw [if_pos hu, hlf] at hp
    unfold nodeOkV at hp
    simp only [Bool.and_eq_true, Bool.false_or, decide_eq_true_eq] at hp
    refine ⟨fun e => ?_, fun x hx => ?_⟩
    · rw [e] at hp
      exact absurd hp.2.2 (by simp)
    · have h3 := kidsOk_iff.1 h2 x.id (mem_allKids.2 ⟨i, hi, ?_⟩)
      · exact down_of_ok h f x.id h3.1
      · unfold kidIds kidsP
        rw [hlf]
        exact List.mem_map_of_mem hx
end Go.Proofs.Ytfefggcfeppeiaa
