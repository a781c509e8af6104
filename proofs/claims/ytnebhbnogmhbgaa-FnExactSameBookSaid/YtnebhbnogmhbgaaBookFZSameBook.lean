/- The model's SameBook. -/
import Derived.Test.YtnebhbnogmhbgaaBookNZSameBook
import Derived.Test.YtnebhbnogmhbgaaSameNodeZSameBook
import Derived.Test.YtnebhbnogmhbgaaBookXZSameBook
namespace Go.Proofs.Ytnebhbnogmhbgaa
open Go.RowKit
attribute [local go_sem ↓] Go.wp_at_zero Go.wp_at_succ

def samePg (p q : Pg) : Bool := p.used == q.used && (p.leaf == q.leaf && sameV p.xs q.xs)
/-- SameBook's answer. -/
def sameB (r s : Int) (l l' : List Pg) : Bool := decide (r = s) && (decide (l.length = l'.length) && (l.zip l').all fun z => samePg z.1 z.2)
theorem zip_at {α β : Type} {l : List α} {l' : List β} {k : Nat} {x : α} {y : β} (h : l[k]? = some x) (h' : l'[k]? = some y) : (l.zip l')[k]? = some (x, y) := by
  rw [List.getElem?_zip_eq_some]
  exact ⟨h, h'⟩
theorem sameB_no {r s : Int} {ps qs : List PgV} {k : Nat} {p q : PgV} (hp : ps[k]? = some p) (hq : qs[k]? = some q) (h : samePg p.pg q.pg = false) : sameB r s (ps.map PgV.pg) (qs.map PgV.pg) = false := by
  have hz := zip_at (show (ps.map PgV.pg)[k]? = some p.pg by rw [List.getElem?_map, hp]; rfl) (show (qs.map PgV.pg)[k]? = some q.pg by rw [List.getElem?_map, hq]; rfl)
  have : ((ps.map PgV.pg).zip (qs.map PgV.pg)).all (fun z => samePg z.1 z.2) = false := by
    rw [List.all_eq_false]
    exact ⟨_, List.mem_of_getElem? hz, by simp [h]⟩
  unfold sameB
  rw [this]
  simp
theorem sameB_yes {r : Int} {ps qs : List PgV} (hl : ps.length = qs.length) (h : ∀ (j : Nat) (p q : PgV), j < ps.length → ps[j]? = some p → qs[j]? = some q → samePg p.pg q.pg = true) : sameB r r (ps.map PgV.pg) (qs.map PgV.pg) = true := by
  unfold sameB
  simp only [decide_true, Bool.true_and, List.length_map, hl]
  rw [List.all_eq_true]
  intro z hz
  obtain ⟨j, hj⟩ := List.getElem?_of_mem hz
  rw [List.getElem?_zip_eq_some] at hj
  obtain ⟨h1, h2⟩ := hj
  rw [List.getElem?_map] at h1 h2
  cases e1 : ps[j]? with
  | none => rw [e1] at h1; cases h1
  | some p =>
    cases e2 : qs[j]? with
    | none => rw [e2] at h2; cases h2
    | some q =>
      rw [e1] at h1
      rw [e2] at h2
      have hj : j < ps.length := (List.getElem?_eq_some_iff.1 e1).1
      have := h j p q hj e1 e2
      simp only [Option.map_some, Option.some.injEq] at h1 h2
      rw [h1, h2] at this
      exact this

set_option maxRecDepth 100000 in
set_option maxHeartbeats 1600000 in
theorem sSameBook_any (r s : Int) (a b : Option Addr) (n m c1 c2 : Nat) (ps qs : List PgV) (w : World) (h : RdP w a n c1 ps) (h' : RdP w b m c2 qs) :
    Calls Try.prog 26 #[.agg #[.int .i64 r, .slice a n c1], .agg #[.int .i64 s, .slice b m c2]] w fun e w' => e = .returned (.bool (sameB r s (ps.map PgV.pg) (qs.map PgV.pg))) ∧ Below w.heap.size w w' := by
  have hnc := h.1.1.2.1
  have hnc' := h'.1.1.2.1
  have hm := h.1.1.2.2.1
  have hm' := h'.1.1.2.2.1
  unfold maxLen at hm hm'
  have HL := Lib.hid h.1.1.1
  have HL' := Lib.hid h'.1.1.1
  have K := Lib.hid (blk_new1 w (.cells #[.int .i64 r, .slice a n c1] 26) #[.int .i64 s, .slice b m c2] 26)
  have J := Lib.hid ((Loc.new w #[.int .i64 r, .slice a n c1] 26).alloc (.cells #[.int .i64 s, .slice b m c2] 26)).2.1
  have B0 : Below w.heap.size w ((w.alloc (.cells #[.int .i64 r, .slice a n c1] 26)).alloc (.cells #[.int .i64 s, .slice b m c2] 26)) := ((Below.refl _ _).alloc (Nat.le_refl _) _).alloc (by simp) _
  have HR := Lib.hid (h.below B0)
  have HR' := Lib.hid (h'.below B0)
  clear h h'
  go_enter Try.func26, Try.ntmps26
  by_cases hrs : r = s
  · subst hrs
    by_cases hlen : n = m
    · subst hlen
      go_wp2
      go_loopw [5] (fun i wr => ∃ k : Nat, k ≤ n ∧ i = .int .i64 (k : Int) ∧ Hid (∀ (j : Nat) (p q : PgV), j < k → ps[j]? = some p → qs[j]? = some q → samePg p.pg q.pg = true) ∧ Below ((w.alloc (.cells #[.int .i64 r, .slice a n c1] 26)).alloc (.cells #[.int .i64 r, .slice b n c2] 26)).heap.size ((w.alloc (.cells #[.int .i64 r, .slice a n c1] 26)).alloc (.cells #[.int .i64 r, .slice b n c2] 26)) wr) (fun i _ => n - (intOf i).toNat)
      case atStart => exact ⟨0, Nat.zero_le _, rfl, Lib.hid (fun j p q hj => by omega), Below.refl _ _⟩
      case round =>
        obtain ⟨k, hk, rfl, HA, hB⟩ := hrel
        have j1 := (hB.cell (p := ⟨w.heap.size, 1, none⟩) (by simp; omega)).trans (J.out 1)
        have k1 := (hB.cell (p := ⟨w.heap.size + 1, 1, none⟩) (by simp)).trans (K.out.1 1)
        simp at j1 k1
        by_cases hlt : k < n
        · obtain ⟨x, off, p, rfl, hbl, hp, hrd, d0, d1, d2⟩ := rdP_at (HR.out.below hB) hlt
          obtain ⟨x', off', q, rfl, hbl', hq, hrd', e0, e1, e2⟩ := rdP_at (HR'.out.below hB) hlt
          have R1 := Lib.hid hrd
          have R2 := Lib.hid hrd'
          have HP := Lib.hid hp
          have HQ := Lib.hid hq
          have z0 : (0 : Int) ≤ k := by omega
          have z1 : (k : Int) < n := by omega
          clear hp hq hrd hrd'
          cases hpu : p.used with
          | true =>
            cases hqu : q.used with
            | true =>
              rw [hpu] at d0
              rw [hqu] at e0
              have KS : Hid (∀ V, Below wr.heap.size wr V → (fun V => Below wr.heap.size wr V ∧ V.cell? ⟨w.heap.size, 1, none⟩ = some (.slice (some ⟨x, off, none⟩) n c1) ∧ V.cell? ⟨w.heap.size + 1, 1, none⟩ = some (.slice (some ⟨x', off', none⟩) n c2) ∧ V.cell? ⟨x, off + k * 3, none⟩ = some (.bool true) ∧ V.cell? ⟨x, off + k * 3 + 1, none⟩ = some (.bool p.leaf) ∧ V.cell? ⟨x, off + k * 3 + 1 + 1, none⟩ = some (.slice p.a p.n p.cap) ∧ V.cell? ⟨x', off' + k * 3, none⟩ = some (.bool true) ∧ V.cell? ⟨x', off' + k * 3 + 1, none⟩ = some (.bool q.leaf) ∧ V.cell? ⟨x', off' + k * 3 + 1 + 1, none⟩ = some (.slice q.a q.n q.cap)) V) := Lib.hid (fun V b => ⟨b, (b.cell (p := ⟨w.heap.size, 1, none⟩) (by show w.heap.size < _; have := hB.size; simp at this; omega)).trans j1, (b.cell (p := ⟨w.heap.size + 1, 1, none⟩) (by show w.heap.size + 1 < _; have := hB.size; simp at this; omega)).trans k1, (b.cell (p := ⟨x, off + k * 3, none⟩) hbl).trans d0, (b.cell (p := ⟨x, off + k * 3 + 1, none⟩) hbl).trans d1, (b.cell (p := ⟨x, off + k * 3 + 1 + 1, none⟩) hbl).trans d2, (b.cell (p := ⟨x', off' + k * 3, none⟩) hbl').trans e0, (b.cell (p := ⟨x', off' + k * 3 + 1, none⟩) hbl').trans e1, (b.cell (p := ⟨x', off' + k * 3 + 1 + 1, none⟩) hbl').trans e2⟩)
              have KT : Hid (∀ V V' : World, Below wr.heap.size wr V → Below V.heap.size V V' → Below wr.heap.size wr V') := Lib.hid (fun V V' b b' => b.trans (b'.mono b.size))
              cases hs : (p.leaf == q.leaf) && sameV p.xs q.xs with
              | true =>
                have hg : Hid (samePg p.pg q.pg = true) := Lib.hid (by unfold samePg PgV.pg; simp only [hpu, hqu]; rw [hs]; rfl)
                have hc : ∀ V : World, Below wr.heap.size wr V → Calls Try.prog 69 #[.agg #[.bool p.leaf, .slice p.a p.n p.cap], .agg #[.bool q.leaf, .slice q.a q.n q.cap]] V fun e w' => e = .returned (.bool true) ∧ Below V.heap.size V w' := fun V bV => by
                  have := sSameNode_any p.leaf q.leaf p.a q.a p.n q.n p.cap q.cap p.xs q.xs V (R1.out.below bV) (R2.out.below bV)
                  rw [hs] at this
                  exact this
                replace hc := Lib.hid hc
                clear hs hpu hqu
                go_wp2
                go_region_held3 (fun V => Below wr.heap.size wr V ∧ V.cell? ⟨w.heap.size, 1, none⟩ = some (.slice (some ⟨x, off, none⟩) n c1) ∧ V.cell? ⟨w.heap.size + 1, 1, none⟩ = some (.slice (some ⟨x', off', none⟩) n c2) ∧ V.cell? ⟨x, off + k * 3, none⟩ = some (.bool true) ∧ V.cell? ⟨x, off + k * 3 + 1, none⟩ = some (.bool p.leaf) ∧ V.cell? ⟨x, off + k * 3 + 1 + 1, none⟩ = some (.slice p.a p.n p.cap) ∧ V.cell? ⟨x', off' + k * 3, none⟩ = some (.bool true) ∧ V.cell? ⟨x', off' + k * 3 + 1, none⟩ = some (.bool q.leaf) ∧ V.cell? ⟨x', off' + k * 3 + 1 + 1, none⟩ = some (.slice q.a q.n q.cap))
                  (first | exact KS.out _ (drew_below _) | exact KS.out _ (KT.out _ _ (And.left (by assumption)) hb))
                  (first | (go_at_call 69; (with_reducible refine (hc.out _ (by first | exact drew_below _ | exact And.left (by assumption))).mono ?_); rintro e wu ⟨rfl, hb⟩))
                all_goals
                  rename_i hS
                  have hBn := hB.trans (hS.1.mono hB.size)
                  clear hS
                  go_wp2
                  go_roundw
                  case rel => exact ⟨k + 1, by omega, by go_num, Lib.hid (fun j p' q' hj h1 h2 => by
                    by_cases hjk : j < k
                    · exact HA.out j p' q' hjk h1 h2
                    · obtain rfl : j = k := by omega
                      rw [HP.out] at h1
                      rw [HQ.out] at h2
                      cases h1
                      cases h2
                      exact hg.out), hBn⟩
                  case measure => simp [intOf]; omega
              | false =>
                have hv : Hid (sameB r r (ps.map PgV.pg) (qs.map PgV.pg) = false) := Lib.hid (sameB_no HP.out HQ.out (by unfold samePg PgV.pg; simp only [hpu, hqu]; rw [hs]; rfl))
                have hc : ∀ V : World, Below wr.heap.size wr V → Calls Try.prog 69 #[.agg #[.bool p.leaf, .slice p.a p.n p.cap], .agg #[.bool q.leaf, .slice q.a q.n q.cap]] V fun e w' => e = .returned (.bool false) ∧ Below V.heap.size V w' := fun V bV => by
                  have := sSameNode_any p.leaf q.leaf p.a q.a p.n q.n p.cap q.cap p.xs q.xs V (R1.out.below bV) (R2.out.below bV)
                  rw [hs] at this
                  exact this
                replace hc := Lib.hid hc
                clear hs hpu hqu
                go_wp2
                go_region_held3 (fun V => Below wr.heap.size wr V ∧ V.cell? ⟨w.heap.size, 1, none⟩ = some (.slice (some ⟨x, off, none⟩) n c1) ∧ V.cell? ⟨w.heap.size + 1, 1, none⟩ = some (.slice (some ⟨x', off', none⟩) n c2) ∧ V.cell? ⟨x, off + k * 3, none⟩ = some (.bool true) ∧ V.cell? ⟨x, off + k * 3 + 1, none⟩ = some (.bool p.leaf) ∧ V.cell? ⟨x, off + k * 3 + 1 + 1, none⟩ = some (.slice p.a p.n p.cap) ∧ V.cell? ⟨x', off' + k * 3, none⟩ = some (.bool true) ∧ V.cell? ⟨x', off' + k * 3 + 1, none⟩ = some (.bool q.leaf) ∧ V.cell? ⟨x', off' + k * 3 + 1 + 1, none⟩ = some (.slice q.a q.n q.cap))
                  (first | exact KS.out _ (drew_below _) | exact KS.out _ (KT.out _ _ (And.left (by assumption)) hb))
                  (first | (go_at_call 69; (with_reducible refine (hc.out _ (by first | exact drew_below _ | exact And.left (by assumption))).mono ?_); rintro e wu ⟨rfl, hb⟩))
                all_goals
                  rename_i hS
                  have hBn := hB.trans (hS.1.mono hB.size)
                  clear hS
                  go_wp2
                  go_ret
                  rw [hv.out]
                  exact ⟨rfl, B0.trans (hBn.mono B0.size)⟩
            | false =>
              rw [hpu] at d0
              rw [hqu] at e0
              have hv : Hid (sameB r r (ps.map PgV.pg) (qs.map PgV.pg) = false) := Lib.hid (sameB_no HP.out HQ.out (by unfold samePg PgV.pg; simp only [hpu, hqu]; rfl))
              clear hpu hqu
              go_wp2_with fail
              have hsB := hB.size
              simp at hsB
              have KS : Hid (∀ V, Below wr.heap.size wr V → (fun V => Below wr.heap.size wr V ∧ V.cell? ⟨w.heap.size, 1, none⟩ = some (.slice (some ⟨x, off, none⟩) n c1) ∧ V.cell? ⟨w.heap.size + 1, 1, none⟩ = some (.slice (some ⟨x', off', none⟩) n c2) ∧ V.cell? ⟨x, off + k * 3, none⟩ = some (.bool true) ∧ V.cell? ⟨x', off' + k * 3, none⟩ = some (.bool false)) V) := Lib.hid (fun V b => ⟨b, (b.cell (p := ⟨w.heap.size, 1, none⟩) (show w.heap.size < wr.heap.size by omega)).trans j1, (b.cell (p := ⟨w.heap.size + 1, 1, none⟩) (show w.heap.size + 1 < wr.heap.size by omega)).trans k1, (b.cell (p := ⟨x, off + k * 3, none⟩) hbl).trans d0, (b.cell (p := ⟨x', off' + k * 3, none⟩) hbl').trans e0⟩)
              refine wp_region_noPanic ?_
              refine wp_region_held_drew (S := fun V => Below wr.heap.size wr V ∧ V.cell? ⟨w.heap.size, 1, none⟩ = some (.slice (some ⟨x, off, none⟩) n c1) ∧ V.cell? ⟨w.heap.size + 1, 1, none⟩ = some (.slice (some ⟨x', off', none⟩) n c2) ∧ V.cell? ⟨x, off + k * 3, none⟩ = some (.bool true) ∧ V.cell? ⟨x', off' + k * 3, none⟩ = some (.bool false)) (by kernel_rfl) (KS.out _ (drew_below _)) (fun hHeld => ?_)
              refine wpAnyH_take (i := 0) (v := ?v0_1) rfl (by kernel_rfl) (by kernel_rfl) (by kernel_rfl) (fun _ _ _ h => h) (Or.inl ⟨by rfl, ?hy0_1⟩) (by assumption) ?rest0_1
              case hy0_1 => intro w hSw; (try dsimp only at hSw); go_simp; (try with_reducible rfl)
              simp only [List.getElem_toArray, List.getElem_cons_zero, Act.put, List.setIfInBounds_toArray, List.set_cons_zero, List.set_cons_succ]
              refine wpAnyH_take (i := 1) (v := ?v1_2) rfl (by kernel_rfl) (by kernel_rfl) (by kernel_rfl) (fun _ _ _ h => h) (Or.inl ⟨by rfl, ?hy1_2⟩) (by assumption) ?rest1_2
              case hy1_2 => intro w hSw; (try dsimp only at hSw); go_simp; (try with_reducible rfl)
              simp only [List.getElem_toArray, List.getElem_cons_zero, List.getElem_cons_succ, Act.put, List.setIfInBounds_toArray, List.set_cons_zero, List.set_cons_succ]
              refine wpAnyH_take (i := 2) (v := ?v2_3) rfl (by kernel_rfl) (by kernel_rfl) (by kernel_rfl) (fun _ _ _ h => h) (Or.inl ⟨by rfl, ?hy2_3⟩) (by assumption) ?rest2_3
              case hy2_3 => intro w hSw; (try dsimp only at hSw); go_simp; (try with_reducible rfl)
              simp only [List.getElem_toArray, List.getElem_cons_zero, List.getElem_cons_succ, Act.put, List.setIfInBounds_toArray, List.set_cons_zero, List.set_cons_succ]
              refine wpAnyH_take (i := 3) (v := ?v3_4) rfl (by kernel_rfl) (by kernel_rfl) (by kernel_rfl) (fun _ _ _ h => h) (Or.inl ⟨by rfl, ?hy3_4⟩) (by assumption) ?rest3_4
              case hy3_4 => intro w hSw; (try dsimp only at hSw); go_simp; (try with_reducible rfl)
              simp only [List.getElem_toArray, List.getElem_cons_zero, List.getElem_cons_succ, Act.put, List.setIfInBounds_toArray, List.set_cons_zero, List.set_cons_succ]
              refine wpAnyH_take (i := 4) (v := ?v4_5) rfl (by kernel_rfl) (by kernel_rfl) (by kernel_rfl) (fun _ _ _ h => h) (Or.inl ⟨by rfl, ?hy4_5⟩) (by assumption) ?rest4_5
              case hy4_5 => intro w hSw; (try dsimp only at hSw); go_simp; (try with_reducible rfl)
              simp only [List.getElem_toArray, List.getElem_cons_zero, List.getElem_cons_succ, Act.put, List.setIfInBounds_toArray, List.set_cons_zero, List.set_cons_succ]
              refine wpAnyH_take (i := 5) (v := ?v5_6) rfl (by kernel_rfl) (by kernel_rfl) (by kernel_rfl) (fun _ _ _ h => h) (Or.inl ⟨by rfl, ?hy5_6⟩) (by assumption) ?rest5_6
              case hy5_6 => intro w hSw; (try dsimp only at hSw); go_simp; (try with_reducible rfl)
              simp only [List.getElem_toArray, List.getElem_cons_zero, List.getElem_cons_succ, Act.put, List.setIfInBounds_toArray, List.set_cons_zero, List.set_cons_succ]
              refine wpAnyH_take (i := 6) (v := ?v6_7) rfl (by kernel_rfl) (by kernel_rfl) (by kernel_rfl) (fun _ _ _ h => h) (Or.inl ⟨by rfl, ?hy6_7⟩) (by assumption) ?rest6_7
              case hy6_7 => intro w hSw; (try dsimp only at hSw); go_simp; (try with_reducible rfl)
              simp only [List.getElem_toArray, List.getElem_cons_zero, List.getElem_cons_succ, Act.put, List.setIfInBounds_toArray, List.set_cons_zero, List.set_cons_succ]
              refine wpAnyH_take (i := 7) (v := ?v7_8) rfl (by kernel_rfl) (by kernel_rfl) (by kernel_rfl) (fun _ _ _ h => h) (Or.inl ⟨by rfl, ?hy7_8⟩) (by assumption) ?rest7_8
              case hy7_8 => intro w hSw; (try dsimp only at hSw); go_simp; (try with_reducible rfl)
              simp only [List.getElem_toArray, List.getElem_cons_zero, List.getElem_cons_succ, Act.put, List.setIfInBounds_toArray, List.set_cons_zero, List.set_cons_succ]
              refine wpAnyH_take (i := 8) (v := ?v8_9) rfl (by kernel_rfl) (by kernel_rfl) (by kernel_rfl) (fun _ _ _ h => h) (Or.inl ⟨by rfl, ?hy8_9⟩) (by assumption) ?rest8_9
              case hy8_9 => intro w hSw; (try dsimp only at hSw); go_simp; (try with_reducible rfl)
              simp only [List.getElem_toArray, List.getElem_cons_zero, List.getElem_cons_succ, Act.put, List.setIfInBounds_toArray, List.set_cons_zero, List.set_cons_succ]
              refine wpAnyH_take (i := 9) (v := ?v9_10) rfl (by kernel_rfl) (by kernel_rfl) (by kernel_rfl) (fun _ _ _ h => h) (Or.inl ⟨by rfl, ?hy9_10⟩) (by assumption) ?rest9_10
              case hy9_10 => intro w hSw; (try dsimp only at hSw); go_simp; (try with_reducible rfl)
              simp only [List.getElem_toArray, List.getElem_cons_zero, List.getElem_cons_succ, Act.put, List.setIfInBounds_toArray, List.set_cons_zero, List.set_cons_succ]
              refine wpAnyH_take (i := 10) (v := ?v10_11) rfl (by kernel_rfl) (by kernel_rfl) (by kernel_rfl) (fun _ _ _ h => h) (Or.inl ⟨by rfl, ?hy10_11⟩) (by assumption) ?rest10_11
              case hy10_11 => intro w hSw; (try dsimp only at hSw); go_simp; (try with_reducible rfl)
              simp only [List.getElem_toArray, List.getElem_cons_zero, List.getElem_cons_succ, Act.put, List.setIfInBounds_toArray, List.set_cons_zero, List.set_cons_succ]
              refine wpAnyH_take (i := 11) (v := ?v11_12) rfl (by kernel_rfl) (by kernel_rfl) (by kernel_rfl) (fun _ _ _ h => h) (Or.inl ⟨by rfl, ?hy11_12⟩) (by assumption) ?rest11_12
              case hy11_12 => intro w hSw; (try dsimp only at hSw); go_simp; (try with_reducible rfl)
              simp only [List.getElem_toArray, List.getElem_cons_zero, List.getElem_cons_succ, Act.put, List.setIfInBounds_toArray, List.set_cons_zero, List.set_cons_succ]
              refine wpAnyH_take (i := 12) (v := ?v12_13) rfl (by kernel_rfl) (by kernel_rfl) (by kernel_rfl) (fun _ _ _ h => h) (Or.inl ⟨by rfl, ?hy12_13⟩) (by assumption) ?rest12_13
              case hy12_13 => intro w hSw; (try dsimp only at hSw); go_simp; (try with_reducible rfl)
              simp only [List.getElem_toArray, List.getElem_cons_zero, List.getElem_cons_succ, Act.put, List.setIfInBounds_toArray, List.set_cons_zero, List.set_cons_succ]
              refine wpAnyH_take (i := 13) (v := ?v13_14) rfl (by kernel_rfl) (by kernel_rfl) (by kernel_rfl) (fun _ _ _ h => h) (Or.inl ⟨by rfl, ?hy13_14⟩) (by assumption) ?rest13_14
              case hy13_14 => intro w hSw; (try dsimp only at hSw); go_simp; (try with_reducible rfl)
              simp only [List.getElem_toArray, List.getElem_cons_zero, List.getElem_cons_succ, Act.put, List.setIfInBounds_toArray, List.set_cons_zero, List.set_cons_succ]
              refine wpAnyH_take (i := 14) (v := undef) rfl (by kernel_rfl) (by kernel_rfl) (by kernel_rfl) (fun _ _ _ h => h) (Or.inr ⟨by rfl, rfl⟩) (by assumption) ?_
              simp only [List.getElem_toArray, List.getElem_cons_zero, List.getElem_cons_succ, Act.put, List.setIfInBounds_toArray, List.set_cons_zero, List.set_cons_succ]
              refine wpAnyH_take (i := 15) (v := undef) rfl (by kernel_rfl) (by kernel_rfl) (by kernel_rfl) (fun _ _ _ h => h) (Or.inr ⟨by rfl, rfl⟩) (by assumption) ?_
              simp only [List.getElem_toArray, List.getElem_cons_zero, List.getElem_cons_succ, Act.put, List.setIfInBounds_toArray, List.set_cons_zero, List.set_cons_succ]
              refine wpAnyH_take (i := 16) (v := undef) rfl (by kernel_rfl) (by kernel_rfl) (by kernel_rfl) (fun _ _ _ h => h) (Or.inr ⟨by rfl, rfl⟩) (by assumption) ?_
              simp only [List.getElem_toArray, List.getElem_cons_zero, List.getElem_cons_succ, Act.put, List.setIfInBounds_toArray, List.set_cons_zero, List.set_cons_succ]
              refine wpAnyH_take (i := 17) (v := undef) rfl (by kernel_rfl) (by kernel_rfl) (by kernel_rfl) (fun _ _ _ h => h) (Or.inr ⟨by rfl, rfl⟩) (by assumption) ?_
              simp only [List.getElem_toArray, List.getElem_cons_zero, List.getElem_cons_succ, Act.put, List.setIfInBounds_toArray, List.set_cons_zero, List.set_cons_succ]
              refine wpAnyH_take (i := 18) (v := undef) rfl (by kernel_rfl) (by kernel_rfl) (by kernel_rfl) (fun _ _ _ h => h) (Or.inr ⟨by rfl, rfl⟩) (by assumption) ?_
              simp only [List.getElem_toArray, List.getElem_cons_zero, List.getElem_cons_succ, Act.put, List.setIfInBounds_toArray, List.set_cons_zero, List.set_cons_succ]
              refine wpAnyH_take (i := 19) (v := undef) rfl (by kernel_rfl) (by kernel_rfl) (by kernel_rfl) (fun _ _ _ h => h) (Or.inr ⟨by rfl, rfl⟩) (by assumption) ?_
              simp only [List.getElem_toArray, List.getElem_cons_zero, List.getElem_cons_succ, Act.put, List.setIfInBounds_toArray, List.set_cons_zero, List.set_cons_succ]
              refine wpAnyH_take (i := 20) (v := undef) rfl (by kernel_rfl) (by kernel_rfl) (by kernel_rfl) (fun _ _ _ h => h) (Or.inr ⟨by rfl, rfl⟩) (by assumption) ?_
              simp only [List.getElem_toArray, List.getElem_cons_zero, List.getElem_cons_succ, Act.put, List.setIfInBounds_toArray, List.set_cons_zero, List.set_cons_succ]
              refine wpAnyH_take (i := 21) (v := undef) rfl (by kernel_rfl) (by kernel_rfl) (by kernel_rfl) (fun _ _ _ h => h) (Or.inr ⟨by rfl, rfl⟩) (by assumption) ?_
              simp only [List.getElem_toArray, List.getElem_cons_zero, List.getElem_cons_succ, Act.put, List.setIfInBounds_toArray, List.set_cons_zero, List.set_cons_succ]
              refine wpAnyH_take (i := 22) (v := undef) rfl (by kernel_rfl) (by kernel_rfl) (by kernel_rfl) (fun _ _ _ h => h) (Or.inr ⟨by rfl, rfl⟩) (by assumption) ?_
              simp only [List.getElem_toArray, List.getElem_cons_zero, List.getElem_cons_succ, Act.put, List.setIfInBounds_toArray, List.set_cons_zero, List.set_cons_succ]
              refine wpAnyH_take (i := 23) (v := undef) rfl (by kernel_rfl) (by kernel_rfl) (by kernel_rfl) (fun _ _ _ h => h) (Or.inr ⟨by rfl, rfl⟩) (by assumption) ?_
              simp only [List.getElem_toArray, List.getElem_cons_zero, List.getElem_cons_succ, Act.put, List.setIfInBounds_toArray, List.set_cons_zero, List.set_cons_succ]
              refine wpAnyH_take (i := 24) (v := undef) rfl (by kernel_rfl) (by kernel_rfl) (by kernel_rfl) (fun _ _ _ h => h) (Or.inr ⟨by rfl, rfl⟩) (by assumption) ?_
              simp only [List.getElem_toArray, List.getElem_cons_zero, List.getElem_cons_succ, Act.put, List.setIfInBounds_toArray, List.set_cons_zero, List.set_cons_succ]
              refine wpAnyH_take (i := 25) (v := undef) rfl (by kernel_rfl) (by kernel_rfl) (by kernel_rfl) (fun _ _ _ h => h) (Or.inr ⟨by rfl, rfl⟩) (by assumption) ?_
              simp only [List.getElem_toArray, List.getElem_cons_zero, List.getElem_cons_succ, Act.put, List.setIfInBounds_toArray, List.set_cons_zero, List.set_cons_succ]
              refine wpAnyH_take (i := 26) (v := undef) rfl (by kernel_rfl) (by kernel_rfl) (by kernel_rfl) (fun _ _ _ h => h) (Or.inr ⟨by rfl, rfl⟩) (by assumption) ?_
              simp only [List.getElem_toArray, List.getElem_cons_zero, List.getElem_cons_succ, Act.put, List.setIfInBounds_toArray, List.set_cons_zero, List.set_cons_succ]
              refine wpAnyH_take (i := 27) (v := undef) rfl (by kernel_rfl) (by kernel_rfl) (by kernel_rfl) (fun _ _ _ h => h) (Or.inr ⟨by rfl, rfl⟩) (by assumption) ?_
              simp only [List.getElem_toArray, List.getElem_cons_zero, List.getElem_cons_succ, Act.put, List.setIfInBounds_toArray, List.set_cons_zero, List.set_cons_succ]
              refine wpAnyH_take (i := 28) (v := ?v28_15) rfl (by kernel_rfl) (by kernel_rfl) (by kernel_rfl) (fun _ _ _ h => h) (Or.inl ⟨by rfl, ?hy28_15⟩) (by assumption) ?rest28_15
              case hy28_15 => intro w hSw; (try dsimp only at hSw); go_simp; (try with_reducible rfl)
              simp only [List.getElem_toArray, List.getElem_cons_zero, List.getElem_cons_succ, Act.put, List.setIfInBounds_toArray, List.set_cons_zero, List.set_cons_succ]
              refine wpAnyH_done (by kernel_rfl) ?_ _
              refine NoPanic.normal ?_
              have hBn := hB.trans (hHeld.1.mono hB.size)
              clear hHeld
              go_wp2
              go_ret
              rw [hv.out]
              exact ⟨rfl, B0.trans (hBn.mono B0.size)⟩
          | false =>
            cases hqu : q.used with
            | true =>
              rw [hpu] at d0
              rw [hqu] at e0
              have hv : Hid (sameB r r (ps.map PgV.pg) (qs.map PgV.pg) = false) := Lib.hid (sameB_no HP.out HQ.out (by unfold samePg PgV.pg; simp only [hpu, hqu]; rfl))
              clear hpu hqu
              go_wp2_with fail
              have hsB := hB.size
              simp at hsB
              have KS : Hid (∀ V, Below wr.heap.size wr V → (fun V => Below wr.heap.size wr V ∧ V.cell? ⟨w.heap.size, 1, none⟩ = some (.slice (some ⟨x, off, none⟩) n c1) ∧ V.cell? ⟨w.heap.size + 1, 1, none⟩ = some (.slice (some ⟨x', off', none⟩) n c2) ∧ V.cell? ⟨x, off + k * 3, none⟩ = some (.bool false) ∧ V.cell? ⟨x', off' + k * 3, none⟩ = some (.bool true)) V) := Lib.hid (fun V b => ⟨b, (b.cell (p := ⟨w.heap.size, 1, none⟩) (show w.heap.size < wr.heap.size by omega)).trans j1, (b.cell (p := ⟨w.heap.size + 1, 1, none⟩) (show w.heap.size + 1 < wr.heap.size by omega)).trans k1, (b.cell (p := ⟨x, off + k * 3, none⟩) hbl).trans d0, (b.cell (p := ⟨x', off' + k * 3, none⟩) hbl').trans e0⟩)
              refine wp_region_noPanic ?_
              refine wp_region_held_drew (S := fun V => Below wr.heap.size wr V ∧ V.cell? ⟨w.heap.size, 1, none⟩ = some (.slice (some ⟨x, off, none⟩) n c1) ∧ V.cell? ⟨w.heap.size + 1, 1, none⟩ = some (.slice (some ⟨x', off', none⟩) n c2) ∧ V.cell? ⟨x, off + k * 3, none⟩ = some (.bool false) ∧ V.cell? ⟨x', off' + k * 3, none⟩ = some (.bool true)) (by kernel_rfl) (KS.out _ (drew_below _)) (fun hHeld => ?_)
              refine wpAnyH_take (i := 0) (v := ?v0_16) rfl (by kernel_rfl) (by kernel_rfl) (by kernel_rfl) (fun _ _ _ h => h) (Or.inl ⟨by rfl, ?hy0_16⟩) (by assumption) ?rest0_16
              case hy0_16 => intro w hSw; (try dsimp only at hSw); go_simp; (try with_reducible rfl)
              simp only [List.getElem_toArray, List.getElem_cons_zero, Act.put, List.setIfInBounds_toArray, List.set_cons_zero, List.set_cons_succ]
              refine wpAnyH_take (i := 1) (v := ?v1_17) rfl (by kernel_rfl) (by kernel_rfl) (by kernel_rfl) (fun _ _ _ h => h) (Or.inl ⟨by rfl, ?hy1_17⟩) (by assumption) ?rest1_17
              case hy1_17 => intro w hSw; (try dsimp only at hSw); go_simp; (try with_reducible rfl)
              simp only [List.getElem_toArray, List.getElem_cons_zero, List.getElem_cons_succ, Act.put, List.setIfInBounds_toArray, List.set_cons_zero, List.set_cons_succ]
              refine wpAnyH_take (i := 2) (v := ?v2_18) rfl (by kernel_rfl) (by kernel_rfl) (by kernel_rfl) (fun _ _ _ h => h) (Or.inl ⟨by rfl, ?hy2_18⟩) (by assumption) ?rest2_18
              case hy2_18 => intro w hSw; (try dsimp only at hSw); go_simp; (try with_reducible rfl)
              simp only [List.getElem_toArray, List.getElem_cons_zero, List.getElem_cons_succ, Act.put, List.setIfInBounds_toArray, List.set_cons_zero, List.set_cons_succ]
              refine wpAnyH_take (i := 3) (v := ?v3_19) rfl (by kernel_rfl) (by kernel_rfl) (by kernel_rfl) (fun _ _ _ h => h) (Or.inl ⟨by rfl, ?hy3_19⟩) (by assumption) ?rest3_19
              case hy3_19 => intro w hSw; (try dsimp only at hSw); go_simp; (try with_reducible rfl)
              simp only [List.getElem_toArray, List.getElem_cons_zero, List.getElem_cons_succ, Act.put, List.setIfInBounds_toArray, List.set_cons_zero, List.set_cons_succ]
              refine wpAnyH_take (i := 4) (v := ?v4_20) rfl (by kernel_rfl) (by kernel_rfl) (by kernel_rfl) (fun _ _ _ h => h) (Or.inl ⟨by rfl, ?hy4_20⟩) (by assumption) ?rest4_20
              case hy4_20 => intro w hSw; (try dsimp only at hSw); go_simp; (try with_reducible rfl)
              simp only [List.getElem_toArray, List.getElem_cons_zero, List.getElem_cons_succ, Act.put, List.setIfInBounds_toArray, List.set_cons_zero, List.set_cons_succ]
              refine wpAnyH_take (i := 5) (v := ?v5_21) rfl (by kernel_rfl) (by kernel_rfl) (by kernel_rfl) (fun _ _ _ h => h) (Or.inl ⟨by rfl, ?hy5_21⟩) (by assumption) ?rest5_21
              case hy5_21 => intro w hSw; (try dsimp only at hSw); go_simp; (try with_reducible rfl)
              simp only [List.getElem_toArray, List.getElem_cons_zero, List.getElem_cons_succ, Act.put, List.setIfInBounds_toArray, List.set_cons_zero, List.set_cons_succ]
              refine wpAnyH_take (i := 6) (v := ?v6_22) rfl (by kernel_rfl) (by kernel_rfl) (by kernel_rfl) (fun _ _ _ h => h) (Or.inl ⟨by rfl, ?hy6_22⟩) (by assumption) ?rest6_22
              case hy6_22 => intro w hSw; (try dsimp only at hSw); go_simp; (try with_reducible rfl)
              simp only [List.getElem_toArray, List.getElem_cons_zero, List.getElem_cons_succ, Act.put, List.setIfInBounds_toArray, List.set_cons_zero, List.set_cons_succ]
              refine wpAnyH_take (i := 7) (v := ?v7_23) rfl (by kernel_rfl) (by kernel_rfl) (by kernel_rfl) (fun _ _ _ h => h) (Or.inl ⟨by rfl, ?hy7_23⟩) (by assumption) ?rest7_23
              case hy7_23 => intro w hSw; (try dsimp only at hSw); go_simp; (try with_reducible rfl)
              simp only [List.getElem_toArray, List.getElem_cons_zero, List.getElem_cons_succ, Act.put, List.setIfInBounds_toArray, List.set_cons_zero, List.set_cons_succ]
              refine wpAnyH_take (i := 8) (v := ?v8_24) rfl (by kernel_rfl) (by kernel_rfl) (by kernel_rfl) (fun _ _ _ h => h) (Or.inl ⟨by rfl, ?hy8_24⟩) (by assumption) ?rest8_24
              case hy8_24 => intro w hSw; (try dsimp only at hSw); go_simp; (try with_reducible rfl)
              simp only [List.getElem_toArray, List.getElem_cons_zero, List.getElem_cons_succ, Act.put, List.setIfInBounds_toArray, List.set_cons_zero, List.set_cons_succ]
              refine wpAnyH_take (i := 9) (v := ?v9_25) rfl (by kernel_rfl) (by kernel_rfl) (by kernel_rfl) (fun _ _ _ h => h) (Or.inl ⟨by rfl, ?hy9_25⟩) (by assumption) ?rest9_25
              case hy9_25 => intro w hSw; (try dsimp only at hSw); go_simp; (try with_reducible rfl)
              simp only [List.getElem_toArray, List.getElem_cons_zero, List.getElem_cons_succ, Act.put, List.setIfInBounds_toArray, List.set_cons_zero, List.set_cons_succ]
              refine wpAnyH_take (i := 10) (v := ?v10_26) rfl (by kernel_rfl) (by kernel_rfl) (by kernel_rfl) (fun _ _ _ h => h) (Or.inl ⟨by rfl, ?hy10_26⟩) (by assumption) ?rest10_26
              case hy10_26 => intro w hSw; (try dsimp only at hSw); go_simp; (try with_reducible rfl)
              simp only [List.getElem_toArray, List.getElem_cons_zero, List.getElem_cons_succ, Act.put, List.setIfInBounds_toArray, List.set_cons_zero, List.set_cons_succ]
              refine wpAnyH_take (i := 11) (v := ?v11_27) rfl (by kernel_rfl) (by kernel_rfl) (by kernel_rfl) (fun _ _ _ h => h) (Or.inl ⟨by rfl, ?hy11_27⟩) (by assumption) ?rest11_27
              case hy11_27 => intro w hSw; (try dsimp only at hSw); go_simp; (try with_reducible rfl)
              simp only [List.getElem_toArray, List.getElem_cons_zero, List.getElem_cons_succ, Act.put, List.setIfInBounds_toArray, List.set_cons_zero, List.set_cons_succ]
              refine wpAnyH_take (i := 12) (v := ?v12_28) rfl (by kernel_rfl) (by kernel_rfl) (by kernel_rfl) (fun _ _ _ h => h) (Or.inl ⟨by rfl, ?hy12_28⟩) (by assumption) ?rest12_28
              case hy12_28 => intro w hSw; (try dsimp only at hSw); go_simp; (try with_reducible rfl)
              simp only [List.getElem_toArray, List.getElem_cons_zero, List.getElem_cons_succ, Act.put, List.setIfInBounds_toArray, List.set_cons_zero, List.set_cons_succ]
              refine wpAnyH_take (i := 13) (v := ?v13_29) rfl (by kernel_rfl) (by kernel_rfl) (by kernel_rfl) (fun _ _ _ h => h) (Or.inl ⟨by rfl, ?hy13_29⟩) (by assumption) ?rest13_29
              case hy13_29 => intro w hSw; (try dsimp only at hSw); go_simp; (try with_reducible rfl)
              simp only [List.getElem_toArray, List.getElem_cons_zero, List.getElem_cons_succ, Act.put, List.setIfInBounds_toArray, List.set_cons_zero, List.set_cons_succ]
              refine wpAnyH_take (i := 14) (v := undef) rfl (by kernel_rfl) (by kernel_rfl) (by kernel_rfl) (fun _ _ _ h => h) (Or.inr ⟨by rfl, rfl⟩) (by assumption) ?_
              simp only [List.getElem_toArray, List.getElem_cons_zero, List.getElem_cons_succ, Act.put, List.setIfInBounds_toArray, List.set_cons_zero, List.set_cons_succ]
              refine wpAnyH_take (i := 15) (v := undef) rfl (by kernel_rfl) (by kernel_rfl) (by kernel_rfl) (fun _ _ _ h => h) (Or.inr ⟨by rfl, rfl⟩) (by assumption) ?_
              simp only [List.getElem_toArray, List.getElem_cons_zero, List.getElem_cons_succ, Act.put, List.setIfInBounds_toArray, List.set_cons_zero, List.set_cons_succ]
              refine wpAnyH_take (i := 16) (v := undef) rfl (by kernel_rfl) (by kernel_rfl) (by kernel_rfl) (fun _ _ _ h => h) (Or.inr ⟨by rfl, rfl⟩) (by assumption) ?_
              simp only [List.getElem_toArray, List.getElem_cons_zero, List.getElem_cons_succ, Act.put, List.setIfInBounds_toArray, List.set_cons_zero, List.set_cons_succ]
              refine wpAnyH_take (i := 17) (v := undef) rfl (by kernel_rfl) (by kernel_rfl) (by kernel_rfl) (fun _ _ _ h => h) (Or.inr ⟨by rfl, rfl⟩) (by assumption) ?_
              simp only [List.getElem_toArray, List.getElem_cons_zero, List.getElem_cons_succ, Act.put, List.setIfInBounds_toArray, List.set_cons_zero, List.set_cons_succ]
              refine wpAnyH_take (i := 18) (v := undef) rfl (by kernel_rfl) (by kernel_rfl) (by kernel_rfl) (fun _ _ _ h => h) (Or.inr ⟨by rfl, rfl⟩) (by assumption) ?_
              simp only [List.getElem_toArray, List.getElem_cons_zero, List.getElem_cons_succ, Act.put, List.setIfInBounds_toArray, List.set_cons_zero, List.set_cons_succ]
              refine wpAnyH_take (i := 19) (v := undef) rfl (by kernel_rfl) (by kernel_rfl) (by kernel_rfl) (fun _ _ _ h => h) (Or.inr ⟨by rfl, rfl⟩) (by assumption) ?_
              simp only [List.getElem_toArray, List.getElem_cons_zero, List.getElem_cons_succ, Act.put, List.setIfInBounds_toArray, List.set_cons_zero, List.set_cons_succ]
              refine wpAnyH_take (i := 20) (v := undef) rfl (by kernel_rfl) (by kernel_rfl) (by kernel_rfl) (fun _ _ _ h => h) (Or.inr ⟨by rfl, rfl⟩) (by assumption) ?_
              simp only [List.getElem_toArray, List.getElem_cons_zero, List.getElem_cons_succ, Act.put, List.setIfInBounds_toArray, List.set_cons_zero, List.set_cons_succ]
              refine wpAnyH_take (i := 21) (v := undef) rfl (by kernel_rfl) (by kernel_rfl) (by kernel_rfl) (fun _ _ _ h => h) (Or.inr ⟨by rfl, rfl⟩) (by assumption) ?_
              simp only [List.getElem_toArray, List.getElem_cons_zero, List.getElem_cons_succ, Act.put, List.setIfInBounds_toArray, List.set_cons_zero, List.set_cons_succ]
              refine wpAnyH_take (i := 22) (v := undef) rfl (by kernel_rfl) (by kernel_rfl) (by kernel_rfl) (fun _ _ _ h => h) (Or.inr ⟨by rfl, rfl⟩) (by assumption) ?_
              simp only [List.getElem_toArray, List.getElem_cons_zero, List.getElem_cons_succ, Act.put, List.setIfInBounds_toArray, List.set_cons_zero, List.set_cons_succ]
              refine wpAnyH_take (i := 23) (v := undef) rfl (by kernel_rfl) (by kernel_rfl) (by kernel_rfl) (fun _ _ _ h => h) (Or.inr ⟨by rfl, rfl⟩) (by assumption) ?_
              simp only [List.getElem_toArray, List.getElem_cons_zero, List.getElem_cons_succ, Act.put, List.setIfInBounds_toArray, List.set_cons_zero, List.set_cons_succ]
              refine wpAnyH_take (i := 24) (v := undef) rfl (by kernel_rfl) (by kernel_rfl) (by kernel_rfl) (fun _ _ _ h => h) (Or.inr ⟨by rfl, rfl⟩) (by assumption) ?_
              simp only [List.getElem_toArray, List.getElem_cons_zero, List.getElem_cons_succ, Act.put, List.setIfInBounds_toArray, List.set_cons_zero, List.set_cons_succ]
              refine wpAnyH_take (i := 25) (v := undef) rfl (by kernel_rfl) (by kernel_rfl) (by kernel_rfl) (fun _ _ _ h => h) (Or.inr ⟨by rfl, rfl⟩) (by assumption) ?_
              simp only [List.getElem_toArray, List.getElem_cons_zero, List.getElem_cons_succ, Act.put, List.setIfInBounds_toArray, List.set_cons_zero, List.set_cons_succ]
              refine wpAnyH_take (i := 26) (v := undef) rfl (by kernel_rfl) (by kernel_rfl) (by kernel_rfl) (fun _ _ _ h => h) (Or.inr ⟨by rfl, rfl⟩) (by assumption) ?_
              simp only [List.getElem_toArray, List.getElem_cons_zero, List.getElem_cons_succ, Act.put, List.setIfInBounds_toArray, List.set_cons_zero, List.set_cons_succ]
              refine wpAnyH_take (i := 27) (v := undef) rfl (by kernel_rfl) (by kernel_rfl) (by kernel_rfl) (fun _ _ _ h => h) (Or.inr ⟨by rfl, rfl⟩) (by assumption) ?_
              simp only [List.getElem_toArray, List.getElem_cons_zero, List.getElem_cons_succ, Act.put, List.setIfInBounds_toArray, List.set_cons_zero, List.set_cons_succ]
              refine wpAnyH_take (i := 28) (v := ?v28_30) rfl (by kernel_rfl) (by kernel_rfl) (by kernel_rfl) (fun _ _ _ h => h) (Or.inl ⟨by rfl, ?hy28_30⟩) (by assumption) ?rest28_30
              case hy28_30 => intro w hSw; (try dsimp only at hSw); go_simp; (try with_reducible rfl)
              simp only [List.getElem_toArray, List.getElem_cons_zero, List.getElem_cons_succ, Act.put, List.setIfInBounds_toArray, List.set_cons_zero, List.set_cons_succ]
              refine wpAnyH_done (by kernel_rfl) ?_ _
              refine NoPanic.normal ?_
              have hBn := hB.trans (hHeld.1.mono hB.size)
              clear hHeld
              go_wp2
              go_ret
              rw [hv.out]
              exact ⟨rfl, B0.trans (hBn.mono B0.size)⟩
            | false =>
              rw [hpu] at d0
              rw [hqu] at e0
              have KS : Hid (∀ V, Below wr.heap.size wr V → (fun V => Below wr.heap.size wr V ∧ V.cell? ⟨w.heap.size, 1, none⟩ = some (.slice (some ⟨x, off, none⟩) n c1) ∧ V.cell? ⟨w.heap.size + 1, 1, none⟩ = some (.slice (some ⟨x', off', none⟩) n c2) ∧ V.cell? ⟨x, off + k * 3, none⟩ = some (.bool false) ∧ V.cell? ⟨x, off + k * 3 + 1, none⟩ = some (.bool p.leaf) ∧ V.cell? ⟨x, off + k * 3 + 1 + 1, none⟩ = some (.slice p.a p.n p.cap) ∧ V.cell? ⟨x', off' + k * 3, none⟩ = some (.bool false) ∧ V.cell? ⟨x', off' + k * 3 + 1, none⟩ = some (.bool q.leaf) ∧ V.cell? ⟨x', off' + k * 3 + 1 + 1, none⟩ = some (.slice q.a q.n q.cap)) V) := Lib.hid (fun V b => ⟨b, (b.cell (p := ⟨w.heap.size, 1, none⟩) (by show w.heap.size < _; have := hB.size; simp at this; omega)).trans j1, (b.cell (p := ⟨w.heap.size + 1, 1, none⟩) (by show w.heap.size + 1 < _; have := hB.size; simp at this; omega)).trans k1, (b.cell (p := ⟨x, off + k * 3, none⟩) hbl).trans d0, (b.cell (p := ⟨x, off + k * 3 + 1, none⟩) hbl).trans d1, (b.cell (p := ⟨x, off + k * 3 + 1 + 1, none⟩) hbl).trans d2, (b.cell (p := ⟨x', off' + k * 3, none⟩) hbl').trans e0, (b.cell (p := ⟨x', off' + k * 3 + 1, none⟩) hbl').trans e1, (b.cell (p := ⟨x', off' + k * 3 + 1 + 1, none⟩) hbl').trans e2⟩)
              have KT : Hid (∀ V V' : World, Below wr.heap.size wr V → Below V.heap.size V V' → Below wr.heap.size wr V') := Lib.hid (fun V V' b b' => b.trans (b'.mono b.size))
              cases hs : (p.leaf == q.leaf) && sameV p.xs q.xs with
              | true =>
                have hg : Hid (samePg p.pg q.pg = true) := Lib.hid (by unfold samePg PgV.pg; simp only [hpu, hqu]; rw [hs]; rfl)
                have hc : ∀ V : World, Below wr.heap.size wr V → Calls Try.prog 69 #[.agg #[.bool p.leaf, .slice p.a p.n p.cap], .agg #[.bool q.leaf, .slice q.a q.n q.cap]] V fun e w' => e = .returned (.bool true) ∧ Below V.heap.size V w' := fun V bV => by
                  have := sSameNode_any p.leaf q.leaf p.a q.a p.n q.n p.cap q.cap p.xs q.xs V (R1.out.below bV) (R2.out.below bV)
                  rw [hs] at this
                  exact this
                replace hc := Lib.hid hc
                clear hs hpu hqu
                go_wp2
                go_region_held3 (fun V => Below wr.heap.size wr V ∧ V.cell? ⟨w.heap.size, 1, none⟩ = some (.slice (some ⟨x, off, none⟩) n c1) ∧ V.cell? ⟨w.heap.size + 1, 1, none⟩ = some (.slice (some ⟨x', off', none⟩) n c2) ∧ V.cell? ⟨x, off + k * 3, none⟩ = some (.bool false) ∧ V.cell? ⟨x, off + k * 3 + 1, none⟩ = some (.bool p.leaf) ∧ V.cell? ⟨x, off + k * 3 + 1 + 1, none⟩ = some (.slice p.a p.n p.cap) ∧ V.cell? ⟨x', off' + k * 3, none⟩ = some (.bool false) ∧ V.cell? ⟨x', off' + k * 3 + 1, none⟩ = some (.bool q.leaf) ∧ V.cell? ⟨x', off' + k * 3 + 1 + 1, none⟩ = some (.slice q.a q.n q.cap))
                  (first | exact KS.out _ (drew_below _) | exact KS.out _ (KT.out _ _ (And.left (by assumption)) hb))
                  (first | (go_at_call 69; (with_reducible refine (hc.out _ (by first | exact drew_below _ | exact And.left (by assumption))).mono ?_); rintro e wu ⟨rfl, hb⟩))
                all_goals
                  rename_i hS
                  have hBn := hB.trans (hS.1.mono hB.size)
                  clear hS
                  go_wp2
                  go_roundw
                  case rel => exact ⟨k + 1, by omega, by go_num, Lib.hid (fun j p' q' hj h1 h2 => by
                    by_cases hjk : j < k
                    · exact HA.out j p' q' hjk h1 h2
                    · obtain rfl : j = k := by omega
                      rw [HP.out] at h1
                      rw [HQ.out] at h2
                      cases h1
                      cases h2
                      exact hg.out), hBn⟩
                  case measure => simp [intOf]; omega
              | false =>
                have hv : Hid (sameB r r (ps.map PgV.pg) (qs.map PgV.pg) = false) := Lib.hid (sameB_no HP.out HQ.out (by unfold samePg PgV.pg; simp only [hpu, hqu]; rw [hs]; rfl))
                have hc : ∀ V : World, Below wr.heap.size wr V → Calls Try.prog 69 #[.agg #[.bool p.leaf, .slice p.a p.n p.cap], .agg #[.bool q.leaf, .slice q.a q.n q.cap]] V fun e w' => e = .returned (.bool false) ∧ Below V.heap.size V w' := fun V bV => by
                  have := sSameNode_any p.leaf q.leaf p.a q.a p.n q.n p.cap q.cap p.xs q.xs V (R1.out.below bV) (R2.out.below bV)
                  rw [hs] at this
                  exact this
                replace hc := Lib.hid hc
                clear hs hpu hqu
                go_wp2
                go_region_held3 (fun V => Below wr.heap.size wr V ∧ V.cell? ⟨w.heap.size, 1, none⟩ = some (.slice (some ⟨x, off, none⟩) n c1) ∧ V.cell? ⟨w.heap.size + 1, 1, none⟩ = some (.slice (some ⟨x', off', none⟩) n c2) ∧ V.cell? ⟨x, off + k * 3, none⟩ = some (.bool false) ∧ V.cell? ⟨x, off + k * 3 + 1, none⟩ = some (.bool p.leaf) ∧ V.cell? ⟨x, off + k * 3 + 1 + 1, none⟩ = some (.slice p.a p.n p.cap) ∧ V.cell? ⟨x', off' + k * 3, none⟩ = some (.bool false) ∧ V.cell? ⟨x', off' + k * 3 + 1, none⟩ = some (.bool q.leaf) ∧ V.cell? ⟨x', off' + k * 3 + 1 + 1, none⟩ = some (.slice q.a q.n q.cap))
                  (first | exact KS.out _ (drew_below _) | exact KS.out _ (KT.out _ _ (And.left (by assumption)) hb))
                  (first | (go_at_call 69; (with_reducible refine (hc.out _ (by first | exact drew_below _ | exact And.left (by assumption))).mono ?_); rintro e wu ⟨rfl, hb⟩))
                all_goals
                  rename_i hS
                  have hBn := hB.trans (hS.1.mono hB.size)
                  clear hS
                  go_wp2
                  go_ret
                  rw [hv.out]
                  exact ⟨rfl, B0.trans (hBn.mono B0.size)⟩
        · have hkn : k = n := by omega
          have hv : Hid (sameB r r (ps.map PgV.pg) (qs.map PgV.pg) = true) := Lib.hid (sameB_yes (HL.out.trans HL'.out.symm) (fun j p q hj => HA.out j p q (by rw [HL.out] at hj; omega)))
          clear hkn
          go_wp2
          go_ret
          rw [hv.out]
          exact ⟨rfl, B0.trans (hB.mono B0.size)⟩
    · have hv : Hid (sameB r r (ps.map PgV.pg) (qs.map PgV.pg) = false) := Lib.hid (by
        unfold sameB
        rw [List.length_map, List.length_map, HL.out, HL'.out]
        simp [hlen])
      have hl2 : (n : Int) ≠ m := by omega
      clear hlen
      go_wp2
      go_ret
      rw [hv.out]
      exact ⟨rfl, B0⟩
  · have hv : Hid (sameB r s (ps.map PgV.pg) (qs.map PgV.pg) = false) := Lib.hid (by unfold sameB; simp [hrs])
    go_wp2
    go_ret
    rw [hv.out]
    exact ⟨rfl, B0⟩
end Go.Proofs.Ytnebhbnogmhbgaa
