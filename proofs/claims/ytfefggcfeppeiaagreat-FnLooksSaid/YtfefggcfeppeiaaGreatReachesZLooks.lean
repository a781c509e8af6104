/- FnReaches. -/
import Derived.Test.YtfefggcfeppeiaaGreatAnyL11ZLooks
import Derived.Test.YtfefggcfeppeiaaGreatBigZLooks
import Derived.Test.YtfefggcfeppeiaaGreatBookI9ZLooks
import Derived.Test.YtfefggcfeppeiaaGreatBookI3ZLooks
namespace Go.Proofs.YtfefggcfeppeiaaGreat
open Go.RowKit

/-- What l11Any answers. -/
def L11Any : Prop := ∀ (g : Nat) (zs : List Int) (most : Int) (w : World), Cur g zs w → 0 ≤ most ∧ most ≤ 40 → Calls Tryz.prog 29 #[.pointer (some ⟨g, 0, none⟩), .int .i64 most] w (DrawnBook g zs 523 2000 w)
/-- A drawn book in new memory. -/
def NewBk (N B : Nat) (w : World) (e : Ending) (w' : World) : Prop := ∃ (root : Int) (v : Value) (ps : List PgV), e = .returned (.agg #[.int .i64 root, v]) ∧ Fits N B (ps.map PgV.pg) ∧ OwnP w' w.heap.size v ps ∧ Below w.heap.size w w'
theorem newBk {w w1 w2 : World} {g : Nat} {zs : List Int} {N B : Nat} {e : Ending} (hb : Below w.heap.size w w1) (hg : w.heap.size ≤ g) (h : DrawnBook g zs N B w1 e w2) : NewBk N B w e w2 := by
  obtain ⟨root, v, ps, he, hf, ho, hc, hw⟩ := h
  exact ⟨root, v, ps, he, hf, ho.mono hb.size, hb.grown hw hb.size (fun k e => by cases e; exact hg)⟩

set_option maxRecDepth 100000 in
set_option maxHeartbeats 800000 in
theorem sameInts_yes (a b : Option Addr) (n c1 c2 : Nat) (zs : List Int) (w : World) (h : RdI .i64 w a n c1 zs) (h' : RdI .i64 w b n c2 zs) :
    Calls Tryz.prog 17 #[.slice a n c1, .slice b n c2] w fun e w' => e = .returned (.bool true) ∧ Below w.heap.size w w' := by
  have hm := h.1.2.2.1
  have hnc := h.1.2.1
  have hnc' := h'.1.2.1
  unfold maxLen at hm
  have HR := Lib.hid h
  have HR' := Lib.hid h'
  clear h h'
  go_enter Tryz.func17, Tryz.ntmps17
  go_wp2
  go_loopw [5] (fun i wr => ∃ k : Nat, k ≤ n ∧ i = .int .i64 k ∧ Below w.heap.size w wr) (fun i _ => n - (intOf i).toNat)
  case atStart => exact ⟨0, Nat.zero_le _, rfl, Below.refl _ _⟩
  case round =>
    obtain ⟨k, hk, rfl, hB⟩ := hrel
    by_cases hlt : k < n
    · obtain ⟨x, off, rfl, hc⟩ := (HR.out.below hB).2 (by omega)
      obtain ⟨x', off', rfl, hc'⟩ := (HR'.out.below hB).2 (by omega)
      have e1 := hc k hlt
      have e2 := hc' k hlt
      obtain ⟨y, hy⟩ : ∃ y, zs.getD k 0 = y := ⟨_, rfl⟩
      rw [hy] at e1 e2
      have z0 : (0 : Int) ≤ k := by omega
      have z1 : (k : Int) < n := by omega
      clear hc hc' hy
      go_wp2
      go_big_region
      go_wp2
      go_roundw
      case rel => exact ⟨k + 1, by omega, by go_num, by first | exact hB | exact hB.drew⟩
      case measure => simp [intOf]; omega
    · go_wp2
      go_ret
      exact ⟨rfl, hB⟩

theorem reach_head (l : List Pg) (root : Int) : reachV l root = [] ∨ ∃ t, reachV l root = root :: t := by
  cases hu : (pageAt l root).used with
  | false => exact .inl (reach_none hu)
  | true =>
    right
    unfold reachV
    rw [walkV_succ, hu]
    show ∃ t, (kidsP (pageAt l root)).foldl _ ([] ++ [root]) = root :: t
    have h1 := (reach_ok l root).1
    exact fold_inv (P := fun acc => OutOk l acc ∧ ∃ t, acc = root :: t) _ _ ⟨(outOk_nil l).snoc (used_in hu) rfl, [], rfl⟩ (fun acc x _ hp => by
      obtain ⟨h2, t, rfl⟩ := hp
      obtain ⟨h3, t', e⟩ := walkV_ok l _ x.id _ h2
      exact ⟨h3, t ++ t', by rw [e]; rfl⟩) |>.2
theorem reach_page {ps : List PgV} {root : Int} {k : Nat} (h : k < (reachV (ps.map PgV.pg) root).length) : ∃ m : Nat, (reachV (ps.map PgV.pg) root).getD k 0 = (m : Int) ∧ m < ps.length ∧ ∃ p, ps[m]? = some p ∧ p.used = true := by
  have hx : (reachV (ps.map PgV.pg) root)[k] ∈ reachV (ps.map PgV.pg) root := List.getElem_mem h
  have hu := reach_used hx
  have hb := used_in hu
  have e : (reachV (ps.map PgV.pg) root).getD k 0 = (reachV (ps.map PgV.pg) root)[k] := by simp [h]
  rw [e]
  obtain ⟨x, hxx⟩ : ∃ x, x = (reachV (ps.map PgV.pg) root)[k] := ⟨_, rfl⟩
  rw [← hxx] at hu hb ⊢
  rw [List.length_map] at hb
  have hm : ((x.toNat : Nat) : Int) = x := by omega
  have hl : x.toNat < ps.length := by omega
  have hp : ps[x.toNat]? = some ps[x.toNat] := List.getElem?_eq_getElem hl
  rw [← hm, pageAt_yes hp] at hu
  exact ⟨x.toNat, hm.symm, hl, _, hp, hu⟩
theorem reach_ne {l : List Pg} {root : Int} {j k : Nat} (hj : j < k) (h : k < (reachV l root).length) : (reachV l root).getD j 0 ≠ (reachV l root).getD k 0 := by
  have h1 := List.pairwise_iff_getElem.1 (reach_ok l root).1 j k (by omega) h hj
  have hj2 : j < (reachV l root).length := by omega
  simpa [h, hj2] using h1
theorem reach_first {l : List Pg} {root : Int} (h : 0 < (reachV l root).length) : (reachV l root).getD 0 0 = root := by
  rcases reach_head l root with h1 | ⟨t, h1⟩
  · rw [h1] at h; cases h
  · rw [h1]; rfl
theorem newOk : bookOkV [⟨true, true, []⟩] 0 = true := by decide

end Go.Proofs.YtfefggcfeppeiaaGreat
