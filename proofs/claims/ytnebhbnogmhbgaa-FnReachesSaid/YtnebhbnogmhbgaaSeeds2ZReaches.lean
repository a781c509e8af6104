/- The model's Seeds. -/
import Derived.Test.YtnebhbnogmhbgaaSeedsZReaches
import Derived.Test.YtnebhbnogmhbgaaBoundOfZReaches
namespace Go.Proofs.Ytnebhbnogmhbgaa
open Go.RowKit
attribute [local go_sem ↓] Go.wp_at_zero Go.wp_at_succ

def boxI (xs : List It) (i : Nat) : Bx := boxOf (getI xs i)
def seedS (xs : List It) (i : Nat) (ab : Nat × Nat) (k : Nat) : Nat × Nat :=
  if ab.2 = 0 ∨ wasteO (boxI xs i) (boxI xs k) > wasteO (boxI xs ab.1) (boxI xs ab.2) then (i, k) else ab
def seedR (xs : List It) (ab : Nat × Nat) (i : Nat) : Nat × Nat := (List.range' (i + 1) (xs.length - (i + 1))).foldl (seedS xs i) ab
def seedsV (xs : List It) : Nat × Nat := (List.range xs.length).foldl (seedR xs) (0, 0)
/-- Two places, or none yet. -/
def SdOk (n : Nat) (ab : Nat × Nat) : Prop := ab = (0, 0) ∨ (ab.1 < ab.2 ∧ ab.2 < n)
theorem seedS_ok {xs : List It} {n i k : Nat} {ab : Nat × Nat} (h : SdOk n ab) (hi : i < k) (hk : k < n) : (seedS xs i ab k).1 < (seedS xs i ab k).2 ∧ (seedS xs i ab k).2 < n := by
  unfold seedS
  split
  · exact ⟨hi, hk⟩
  · rename_i h2
    rcases h with rfl | h
    · exact absurd (.inl rfl) h2
    · exact h
theorem SdOk.lt {n : Nat} {ab : Nat × Nat} (h : SdOk n ab) (hn : 0 < n) : ab.1 < n ∧ ab.2 < n := by
  rcases h with rfl | h
  · exact ⟨hn, hn⟩
  · omega
theorem seedIn_ok {xs : List It} {n i : Nat} : ∀ (m : Nat) {s : Nat} {ab : Nat × Nat}, SdOk n ab → i < s → s + m ≤ n → SdOk n ((List.range' s m).foldl (seedS xs i) ab) ∧ (0 < m → ((List.range' s m).foldl (seedS xs i) ab).1 < ((List.range' s m).foldl (seedS xs i) ab).2)
  | 0, s, ab, h, _, _ => ⟨h, fun h => by omega⟩
  | m + 1, s, ab, h, hi, hm => by
    have h1 := seedS_ok (xs := xs) h hi (show s < n by omega)
    obtain ⟨h2, h3⟩ := seedIn_ok (xs := xs) (n := n) (i := i) m (s := s + 1) (ab := seedS xs i ab s) (.inr h1) (by omega) (by omega)
    rw [List.range'_succ, List.foldl_cons]
    refine ⟨h2, fun _ => ?_⟩
    by_cases hm0 : 0 < m
    · exact h3 hm0
    · obtain rfl : m = 0 := by omega
      exact h1.1
theorem seedR_ok {xs : List It} {i : Nat} {ab : Nat × Nat} (h : SdOk xs.length ab) (hi : i < xs.length) : SdOk xs.length (seedR xs ab i) := (seedIn_ok _ h (Nat.lt_succ_self _) (by omega)).1
theorem seedRs_ok {xs : List It} : ∀ k, k ≤ xs.length → SdOk xs.length ((List.range k).foldl (seedR xs) (0, 0))
  | 0, _ => .inl rfl
  | k + 1, h => by
    rw [List.range_succ, List.foldl_append]
    exact seedR_ok (seedRs_ok k (by omega)) (by omega)
/-- Two seeds, the first ahead of the second. -/
theorem seedsV_ok {xs : List It} (h : 2 ≤ xs.length) : (seedsV xs).1 < (seedsV xs).2 ∧ (seedsV xs).2 < xs.length := by
  have h1 : SdOk xs.length (seedsV xs) := seedRs_ok _ (Nat.le_refl _)
  rcases h1 with h1 | h1
  · exfalso
    have h2 : ∀ k, k + 1 ≤ xs.length → (List.range (k + 1)).foldl (seedR xs) (0, 0) ≠ (0, 0) := by
      intro k
      induction k with
      | zero =>
        intro _ e
        have h3 := (seedIn_ok (xs := xs) (n := xs.length) (i := 0) (xs.length - 1) (s := 1) (ab := (0, 0)) (.inl rfl) (by omega) (by omega)).2 (by omega)
        have e2 : seedR xs (0, 0) 0 = (0, 0) := e
        unfold seedR at e2
        rw [show (List.range' 1 (xs.length - 1)).foldl (seedS xs 0) (0, 0) = (0, 0) from e2] at h3
        exact absurd h3 (by decide)
      | succ k ih =>
        intro hk e
        have h4 := seedRs_ok (xs := xs) (k + 1) (by omega)
        have h5 := ih (by omega)
        rw [List.range_succ, List.foldl_append] at e
        generalize (List.range (k + 1)).foldl (seedR xs) (0, 0) = ab at h4 h5 e
        rcases h4 with h4 | h4
        · exact h5 h4
        · have h6 : ∀ (m s : Nat) (ab : Nat × Nat), k + 1 < s → s + m ≤ xs.length → ab.1 < ab.2 → ab.2 < xs.length → ((List.range' s m).foldl (seedS xs (k + 1)) ab).1 < ((List.range' s m).foldl (seedS xs (k + 1)) ab).2 := by
            intro m
            induction m with
            | zero => intro s ab _ _ h _; exact h
            | succ m ihm =>
              intro s ab hs hm h7 h8
              rw [List.range'_succ, List.foldl_cons]
              have h9 := seedS_ok (xs := xs) (.inr ⟨h7, h8⟩) hs (show s < xs.length by omega)
              exact ihm (s + 1) _ (by omega) (by omega) h9.1 h9.2
          have h10 := h6 (xs.length - (k + 1 + 1)) (k + 1 + 1) ab (by omega) (by omega) h4.1 h4.2
          have e2 : seedR xs ab (k + 1) = (0, 0) := e
          unfold seedR at e2
          rw [e2] at h10
          exact absurd h10 (by decide)
    have h3 := h2 (xs.length - 1) (by omega)
    rw [show xs.length - 1 + 1 = xs.length by omega] at h3
    exact h3 h1
  · exact h1

theorem sWasteI (x y : It) (w : World) : Calls Try.prog 143 #[.agg #[.int .i64 x.x0, .int .i64 x.y0, .int .i64 x.x1, .int .i64 x.y1], .agg #[.int .i64 y.x0, .int .i64 y.y0, .int .i64 y.x1, .int .i64 y.y1]] w fun e w' => e = .returned (.int .i64 (wasteO (boxOf x) (boxOf y))) ∧ Below w.heap.size w w' := sWaste_any (boxOf x) (boxOf y) w

set_option maxRecDepth 100000 in
set_option maxHeartbeats 3200000 in
theorem sSeeds_any (a : Option Addr) (n cap : Nat) (xs : List It) (w : World) (h : RdS itLay w a n cap xs) :
    Calls Try.prog 139 #[.slice a n cap] w fun e w' => e = .returned (.tuple #[.int .i64 ((seedsV xs).1 : Nat), .int .i64 ((seedsV xs).2 : Nat)]) ∧ Below w.heap.size w w' := by
  have hm := h.1.2.2.1
  have hnc := h.1.2.1
  unfold maxLen at hm
  have HR := Lib.hid h
  have HL := Lib.hid h.1.1
  clear h
  go_enter Try.func139, Try.ntmps139
  go_wp2
  go_loopw [4, 5, 6] (fun va vb vi wr => ∃ (i a0 b0 : Nat), i ≤ n ∧ va = .int .i64 (a0 : Int) ∧ vb = .int .i64 (b0 : Int) ∧ vi = .int .i64 (i : Int) ∧ Hid ((a0, b0) = (List.range i).foldl (seedR xs) (0, 0)) ∧ Below w.heap.size w wr) (fun _ _ i _ => n - (intOf i).toNat)
  case atStart => exact ⟨0, 0, 0, Nat.zero_le _, rfl, rfl, rfl, Lib.hid rfl, Below.refl _ _⟩
  case round =>
    obtain ⟨i, a0, b0, hi, rfl, rfl, rfl, HA, hB⟩ := hrel
    by_cases hlt : i < n
    · have z1 : (i : Int) < n := by omega
      have HOK0 : Hid (SdOk n (a0, b0)) := by
        rw [HA.out, ← HL.out]
        exact Lib.hid (seedRs_ok i (by rw [HL.out]; omega))
      have HR1 : Hid ((List.range (i + 1)).foldl (seedR xs) (0, 0) = (List.range' (i + 1) (n - (i + 1))).foldl (seedS xs i) (a0, b0)) := by
        show _ = _
        rw [List.range_succ, List.foldl_append, ← HA.out]
        show seedR xs (a0, b0) i = _
        unfold seedR
        rw [HL.out]
      obtain ⟨ab0, hab0⟩ : ∃ ab0 : Nat × Nat, (a0, b0) = ab0 := ⟨_, rfl⟩
      rw [hab0] at HR1
      go_wp2
      go_loopw [4, 5, 7] (fun va vb vk wx => ∃ (k a1 b1 : Nat), i + 1 ≤ k ∧ k ≤ n ∧ va = .int .i64 (a1 : Int) ∧ vb = .int .i64 (b1 : Int) ∧ vk = .int .i64 (k : Int) ∧ Hid ((a1, b1) = (List.range' (i + 1) (k - (i + 1))).foldl (seedS xs i) ab0) ∧ Hid (SdOk n (a1, b1)) ∧ Below w.heap.size w wx) (fun _ _ k _ => n - (intOf k).toNat)
      case atStart =>
        exact ⟨i + 1, a0, b0, Nat.le_refl _, by omega, rfl, rfl, by go_num, Lib.hid (by rw [Nat.sub_self]; exact hab0), HOK0, hB⟩
      case round =>
        clear hB
        obtain ⟨k, a1, b1, hk1, hk, rfl, rfl, rfl, HS0, HOK, hB⟩ := hrel
        by_cases hlt2 : k < n
        · have hstep : (List.range' (i + 1) (k + 1 - (i + 1))).foldl (seedS xs i) ab0 = seedS xs i (a1, b1) k := by
            rw [show k + 1 - (i + 1) = (k - (i + 1)) + 1 by omega, List.range'_1_concat, List.foldl_append, ← HS0.out, show i + 1 + (k - (i + 1)) = k by omega]
            rfl
          obtain ⟨ha1, hb1⟩ := HOK.out.lt (show 0 < n by omega)
          have ha1 : a1 < n := ha1
          have hb1 : b1 < n := hb1
          obtain ⟨bb, off, x, rfl, hbl, hx, d0, d1, d2, d3, d4⟩ := rdIt_at (HR.out.below hB) hlt
          obtain ⟨bb', off', y, ha, _, hy, e0, e1, e2, e3, e4⟩ := rdIt_at (HR.out.below hB) hlt2
          cases ha
          obtain ⟨bb', off', u, ha, _, hu, f0, f1, f2, f3, f4⟩ := rdIt_at (HR.out.below hB) ha1
          cases ha
          obtain ⟨bb', off', v, ha, _, hv, g0, g1, g2, g3, g4⟩ := rdIt_at (HR.out.below hB) hb1
          cases ha
          have hX : boxI xs i = boxOf x := by unfold boxI getI; rw [Int.toNat_natCast, hx]; rfl
          have hY : boxI xs k = boxOf y := by unfold boxI getI; rw [Int.toNat_natCast, hy]; rfl
          have hU : boxI xs a1 = boxOf u := by unfold boxI getI; rw [Int.toNat_natCast, hu]; rfl
          have hV : boxI xs b1 = boxOf v := by unfold boxI getI; rw [Int.toNat_natCast, hv]; rfl
          obtain ⟨s, hs⟩ : ∃ s, wasteO (boxOf x) (boxOf y) = s := ⟨_, rfl⟩
          obtain ⟨q, hq⟩ : ∃ q, wasteO (boxOf u) (boxOf v) = q := ⟨_, rfl⟩
          have CW := Lib.hid (fun (W : World) d os => callr (w := W) (d := d) (os := os) (hs ▸ sWasteI x y _))
          have CV := Lib.hid (fun (W : World) d os => callr (w := W) (d := d) (os := os) (hq ▸ sWasteI u v _))
          have hst2 : seedS xs i (a1, b1) k = if b1 = 0 ∨ s > q then (i, k) else (a1, b1) := by
            unfold seedS
            simp only [hX, hY, hU, hV, hs, hq]
          rw [hst2] at hstep
          replace hstep := Lib.hid hstep
          have HOKn : Hid (SdOk n (i, k)) := Lib.hid (.inr ⟨by show i < k; omega, hlt2⟩)
          have z2 : (k : Int) < n := by omega
          have z3 : (a1 : Int) < n := by omega
          have z4 : (b1 : Int) < n := by omega
          have z5 : (0 : Int) ≤ k := by omega
          have z6 : (0 : Int) ≤ i := by omega
          have z7 : (0 : Int) ≤ a1 := by omega
          have z8 : (0 : Int) ≤ b1 := by omega
          clear hst2 hX hY hU hV hs hq hx hy hu hv d0 e0 f0 g0
          by_cases h1 : b1 = 0
          · have hd1 : ((b1 : Int) == 0) = true := by rw [beq_iff_eq]; omega
            go_wp2_with fail
            have qd1 := cellq d1
            refine wp_region_quiet_below (by kernel_rfl) (by kernel_rfl) ?_
            repeat (go_big_quiet_step (fail))
            refine wpQuiet_nil (quiet_end fun w2 b2 => ?_)
            clear qd1
            have HS : Hid (((i : Nat), (k : Nat)) = (List.range' (i + 1) (k + 1 - (i + 1))).foldl (seedS xs i) ab0) := by
              show _ = _
              rw [hstep.out, if_pos (.inl h1)]
            have BZ := Lib.hid (hB.trans (b2.mono hB.size))
            clear b2 hstep hB HS0
            go_wp2
            go_roundw
            case rel => exact ⟨k + 1, i, k, by omega, by omega, rfl, rfl, by go_num, HS, HOKn, BZ.out⟩
            case measure => simp [intOf]; omega
          · have hd1 : ((b1 : Int) == 0) = false := by rw [beq_eq_false_iff_ne]; omega
            by_cases h2 : s > q
            · have hd2 : decide (s > q) = true := decide_eq_true h2
              go_wp2_with fail
              have qd1 := cellq d1
              have qd2 := cellq d2
              have qd3 := cellq d3
              have qd4 := cellq d4
              have qe1 := cellq e1
              have qe2 := cellq e2
              have qe3 := cellq e3
              have qe4 := cellq e4
              have qf1 := cellq f1
              have qf2 := cellq f2
              have qf3 := cellq f3
              have qf4 := cellq f4
              have qg1 := cellq g1
              have qg2 := cellq g2
              have qg3 := cellq g3
              have qg4 := cellq g4
              refine wp_region_quiet_below (by kernel_rfl) (by kernel_rfl) ?_
              repeat (go_big_quiet_step (first | (with_reducible exact CW.out _ _ _) | (with_reducible exact CV.out _ _ _)))
              refine wpQuiet_nil (quiet_end fun w2 b2 => ?_)
              clear qd1 qd2 qd3 qd4 qe1 qe2 qe3 qe4 qf1 qf2 qf3 qf4 qg1 qg2 qg3 qg4
              have HS : Hid (((i : Nat), (k : Nat)) = (List.range' (i + 1) (k + 1 - (i + 1))).foldl (seedS xs i) ab0) := by
                show _ = _
                rw [hstep.out, if_pos (.inr h2)]
              have BZ := Lib.hid (hB.trans (b2.mono hB.size))
              clear b2 hstep hB HS0
              go_wp2
              go_roundw
              case rel => exact ⟨k + 1, i, k, by omega, by omega, rfl, rfl, by go_num, HS, HOKn, BZ.out⟩
              case measure => simp [intOf]; omega
            · have hd2 : decide (s > q) = false := decide_eq_false h2
              go_wp2_with fail
              have qd1 := cellq d1
              have qd2 := cellq d2
              have qd3 := cellq d3
              have qd4 := cellq d4
              have qe1 := cellq e1
              have qe2 := cellq e2
              have qe3 := cellq e3
              have qe4 := cellq e4
              have qf1 := cellq f1
              have qf2 := cellq f2
              have qf3 := cellq f3
              have qf4 := cellq f4
              have qg1 := cellq g1
              have qg2 := cellq g2
              have qg3 := cellq g3
              have qg4 := cellq g4
              refine wp_region_quiet_below (by kernel_rfl) (by kernel_rfl) ?_
              repeat (go_big_quiet_step (first | (with_reducible exact CW.out _ _ _) | (with_reducible exact CV.out _ _ _)))
              refine wpQuiet_nil (quiet_end fun w2 b2 => ?_)
              clear qd1 qd2 qd3 qd4 qe1 qe2 qe3 qe4 qf1 qf2 qf3 qf4 qg1 qg2 qg3 qg4
              have HS : Hid (((a1 : Nat), (b1 : Nat)) = (List.range' (i + 1) (k + 1 - (i + 1))).foldl (seedS xs i) ab0) := by
                show _ = _
                rw [hstep.out, if_neg (by omega)]
              have BZ := Lib.hid (hB.trans (b2.mono hB.size))
              clear b2 hstep hB HS0
              go_wp2
              go_roundw
              case rel => exact ⟨k + 1, a1, b1, by omega, by omega, rfl, rfl, by go_num, HS, HOK, BZ.out⟩
              case measure => simp [intOf]; omega
        · obtain rfl : k = n := by omega
          have HZ : Hid ((a1, b1) = (List.range (i + 1)).foldl (seedR xs) (0, 0)) := by
            show _ = _
            rw [HR1.out]
            exact HS0.out
          clear HS0
          go_wp2
          go_roundw
          case rel => exact ⟨i + 1, a1, b1, by omega, rfl, rfl, by go_num, HZ, hB⟩
          case measure => simp [intOf]; omega
    · obtain rfl : i = n := by omega
      have HZ : Hid (seedsV xs = (a0, b0)) := by
        show _ = _
        unfold seedsV
        rw [HL.out]
        exact HA.out.symm
      go_wp2
      go_ret2
      rw [HZ.out]
      exact ⟨rfl, hB⟩
end Go.Proofs.Ytnebhbnogmhbgaa
