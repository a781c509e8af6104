/- What a walk from page to page reaches: the model's l7Has. -/
import Derived.Test.YtnebhbnogmhbgaaBookNZReach
import Derived.Test.YtnebhbnogmhbgaaBookMZReach
import Derived.Test.YtnebhbnogmhbgaaIntSZReach
namespace Go.Proofs.Ytnebhbnogmhbgaa
open Go.RowKit

/-- The pages that a page refers to. -/
def kidsP (p : Pg) : List It := if p.leaf then [] else p.xs
/-- A walk from page i, behind what was reached; no deeper than f. -/
def walkV (l : List Pg) : Nat → Int → List Int → List Int
  | 0, _, out => out
  | f + 1, i, out => if (pageAt l i).used && !(out.contains i) then (kidsP (pageAt l i)).foldl (fun acc x => walkV l f x.id acc) (out ++ [i]) else out
def reachV (l : List Pg) (root : Int) : List Int := walkV l (l.length + 1) root []

theorem has_yes {zs : List Int} {x : Int} {k : Nat} (hk : k < zs.length) (h : zs.getD k 0 = x) : zs.contains x = true := by
  rw [List.contains_iff_mem, ← h]
  rw [List.getD_eq_getElem?_getD, List.getElem?_eq_getElem hk]
  exact List.getElem_mem hk
theorem has_no {zs : List Int} {x : Int} (h : ∀ j, j < zs.length → zs.getD j 0 ≠ x) : zs.contains x = false := by
  cases e : zs.contains x with
  | false => rfl
  | true =>
    rw [List.contains_iff_mem] at e
    obtain ⟨j, hj, e2⟩ := List.getElem_of_mem e
    exact absurd (by rw [List.getD_eq_getElem?_getD, List.getElem?_eq_getElem hj]; exact e2) (h j hj)

theorem fold_inv {α : Type} {P : List Int → Prop} {g : List Int → α → List Int} : ∀ (l : List α) (a : List Int), P a → (∀ acc x, x ∈ l → P acc → P (g acc x)) → P (l.foldl g a)
  | [], _, h, _ => h
  | x :: l, a, h, hs => fold_inv l (g a x) (hs a x List.mem_cons_self h) (fun acc y hy => hs acc y (List.mem_cons_of_mem _ hy))
/-- Pages, each once. -/
def OutOk (l : List Pg) (zs : List Int) : Prop := zs.Nodup ∧ ∀ z ∈ zs, 0 ≤ z ∧ z < (l.length : Int)
theorem used_in {l : List Pg} {i : Int} (h : (pageAt l i).used = true) : 0 ≤ i ∧ i < (l.length : Int) := by
  by_cases e : 0 ≤ i ∧ i ≤ (l.length : Int) - 1
  · omega
  · rw [pageAt_no e] at h
    cases h
theorem OutOk.snoc {l : List Pg} {zs : List Int} {i : Int} (h : OutOk l zs) (hi : 0 ≤ i ∧ i < (l.length : Int)) (hn : zs.contains i = false) : OutOk l (zs ++ [i]) := by
  refine ⟨?_, fun z hz => ?_⟩
  · rw [List.nodup_append]
    refine ⟨h.1, by simp, fun x hx y hy => ?_⟩
    obtain rfl := List.mem_singleton.1 hy
    rintro rfl
    rw [← List.contains_iff_mem] at hx
    rw [hx] at hn
    cases hn
  · rcases List.mem_append.1 hz with h1 | h1
    · exact h.2 z h1
    · obtain rfl := List.mem_singleton.1 h1
      exact hi
theorem walkV_ok (l : List Pg) : ∀ (f : Nat) (i : Int) (zs : List Int), OutOk l zs → OutOk l (walkV l f i zs) ∧ ∃ t, walkV l f i zs = zs ++ t
  | 0, i, zs, h => ⟨h, [], by simp [walkV]⟩
  | f + 1, i, zs, h => by
    unfold walkV
    split
    · rename_i hc
      rw [Bool.and_eq_true, Bool.not_eq_true'] at hc
      have h1 := h.snoc (used_in hc.1) hc.2
      refine fold_inv (P := fun acc => OutOk l acc ∧ ∃ t, acc = zs ++ t) _ _ ⟨h1, [i], rfl⟩ (fun acc x _ hp => ?_)
      obtain ⟨h2, t, rfl⟩ := hp
      obtain ⟨h3, t', e⟩ := walkV_ok l f x.id (zs ++ t) h2
      exact ⟨h3, t ++ t', by rw [e, List.append_assoc]⟩
    · exact ⟨h, [], by simp⟩
theorem nodup_le : ∀ (n : Nat) (zs : List Int), zs.Nodup → (∀ z ∈ zs, 0 ≤ z ∧ z < (n : Int)) → zs.length ≤ n
  | 0, [], _, _ => Nat.le_refl _
  | 0, z :: zs, _, h => by have := h z List.mem_cons_self; omega
  | n + 1, zs, h, hz => by
    have h1 := nodup_le n (zs.erase (n : Int)) (h.erase _) (fun z hm => by
      have h2 := hz z (List.mem_of_mem_erase hm)
      have h3 : z ≠ (n : Int) := fun e => by
        subst e
        exact absurd hm (List.Nodup.not_mem_erase h)
      omega)
    rw [List.length_erase] at h1
    split at h1 <;> omega
theorem OutOk.len {l : List Pg} {zs : List Int} (h : OutOk l zs) : zs.length ≤ l.length := nodup_le _ _ h.1 h.2

set_option maxRecDepth 100000 in
set_option maxHeartbeats 800000 in
theorem l7Has_any (a : Option Addr) (n c : Nat) (zs : List Int) (x : Int) (w : World) (h : RdI .i64 w a n c zs) :
    Calls Try.prog 78 #[.slice a n c, .int .i64 x] w fun e w' => e = .returned (.bool (zs.contains x)) ∧ Below w.heap.size w w' := by
  have HL := Lib.hid h.1.1
  have HR := Lib.hid h
  have hm := h.1.2.2.1
  have hnc := h.1.2.1
  unfold maxLen at hm
  clear h
  go_enter Try.func78, Try.ntmps78
  go_wp2
  go_loopw [5] (fun i wr => ∃ k : Nat, k ≤ n ∧ i = .int .i64 k ∧ Hid (∀ j, j < k → zs.getD j 0 ≠ x) ∧ Below w.heap.size w wr) (fun i _ => n - (intOf i).toNat)
  case atStart => exact ⟨0, Nat.zero_le _, rfl, Lib.hid (fun j hj => by omega), Below.refl _ _⟩
  case round =>
    obtain ⟨k, hk, rfl, HA, hB⟩ := hrel
    by_cases hlt : k < n
    · obtain ⟨b, off, rfl, hc⟩ := HR.out.2 (by omega)
      have hck := hc k hlt
      have hbw : b < w.heap.size := World.block_lt_of_cell? w ⟨b, off + k, none⟩ hck
      rw [← hB.cell (p := ⟨b, off + k, none⟩) hbw] at hck
      clear hc
      have h0 : (0 : Int) ≤ k := by omega
      have h1 : (k : Int) < n := by omega
      obtain ⟨p, hp⟩ : ∃ p, zs.getD k 0 = p := ⟨_, rfl⟩
      rw [hp] at hck
      by_cases he : p = x
      · subst he
        have HF : Hid (zs.contains p = true) := Lib.hid (has_yes (by rw [HL.out]; exact hlt) hp)
        clear hp
        go_wp2
        go_ret
        exact ⟨ret_bool HF.out.symm, hB⟩
      · have hne : (p == x) = false := by rw [beq_eq_false_iff_ne]; exact he
        have HS : Hid (∀ j, j < k + 1 → zs.getD j 0 ≠ x) := Lib.hid (fun j hj => by
          by_cases hjk : j < k
          · exact HA.out j hjk
          · obtain rfl : j = k := by omega
            rw [hp]
            exact he)
        clear he hp
        go_wp2
        go_roundw
        case rel => exact ⟨k + 1, by omega, by go_num, HS, hB⟩
        case measure => simp [intOf]; omega
    · have HF : Hid (zs.contains x = false) := Lib.hid (has_no (fun j hj => HA.out j (by rw [HL.out] at hj; omega)))
      go_wp2
      go_ret
      exact ⟨ret_bool HF.out.symm, hB⟩
end Go.Proofs.Ytnebhbnogmhbgaa
