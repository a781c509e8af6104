/- Texts of this seat laid together: Seeds2, NextOf, First, Parted, Split, PartMath, Part11, InV, RowE. -/
import Derived.Test.YtfefggcfeppeiaaGreatQLooksc
import Derived.BigQuiet
import Derived.BigRegion

/- The model's Seeds. -/
namespace Go.Proofs.YtfefggcfeppeiaaGreat
open Go.RowKit
attribute [local go_sem ↓] Go.wp_at_zero Go.wp_at_succ

def boxI (xs : List It) (i : Nat) : Bx := boxOf (getI xs i)
def seedS (xs : List It) (i : Nat) (ab : Nat × Nat) (k : Nat) : Nat × Nat :=
  if ab.2 = 0 ∨ wasteO (boxI xs i) (boxI xs k) > wasteO (boxI xs ab.1) (boxI xs ab.2) then (i, k) else ab
def seedR (xs : List It) (ab : Nat × Nat) (i : Nat) : Nat × Nat := (List.range' (i + 1) (xs.length - (i + 1))).foldl (seedS xs i) ab
def seedsV (xs : List It) : Nat × Nat := (List.range xs.length).foldl (seedR xs) (0, 0)
/-- Two places, or none yet. -/
def SdOk (n : Nat) (ab : Nat × Nat) : Prop := ab = (0, 0) ∨ (ab.1 < ab.2 ∧ ab.2 < n)
theorem seedS_ok {xs : List It} {n i k : Nat} {ab : Nat × Nat} (h : SdOk n ab) (hi : i < k) (hk : k < n) : (seedS xs i ab k).1 < (seedS xs i ab k).2 ∧ (seedS xs i ab k).2 < n := by
  unfold seedS
  split
  · exact ⟨hi, hk⟩
  · rename_i h2
    rcases h with rfl | h
    · exact absurd (.inl rfl) h2
    · exact h
theorem SdOk.lt {n : Nat} {ab : Nat × Nat} (h : SdOk n ab) (hn : 0 < n) : ab.1 < n ∧ ab.2 < n := by
  rcases h with rfl | h
  · exact ⟨hn, hn⟩
  · omega
theorem seedIn_ok {xs : List It} {n i : Nat} : ∀ (m : Nat) {s : Nat} {ab : Nat × Nat}, SdOk n ab → i < s → s + m ≤ n → SdOk n ((List.range' s m).foldl (seedS xs i) ab) ∧ (0 < m → ((List.range' s m).foldl (seedS xs i) ab).1 < ((List.range' s m).foldl (seedS xs i) ab).2)
  | 0, s, ab, h, _, _ => ⟨h, fun h => by omega⟩
  | m + 1, s, ab, h, hi, hm => by
    have h1 := seedS_ok (xs := xs) h hi (show s < n by omega)
    obtain ⟨h2, h3⟩ := seedIn_ok (xs := xs) (n := n) (i := i) m (s := s + 1) (ab := seedS xs i ab s) (.inr h1) (by omega) (by omega)
    rw [List.range'_succ, List.foldl_cons]
    refine ⟨h2, fun _ => ?_⟩
    by_cases hm0 : 0 < m
    · exact h3 hm0
    · obtain rfl : m = 0 := by omega
      exact h1.1
theorem seedR_ok {xs : List It} {i : Nat} {ab : Nat × Nat} (h : SdOk xs.length ab) (hi : i < xs.length) : SdOk xs.length (seedR xs ab i) := (seedIn_ok _ h (Nat.lt_succ_self _) (by omega)).1
theorem seedRs_ok {xs : List It} : ∀ k, k ≤ xs.length → SdOk xs.length ((List.range k).foldl (seedR xs) (0, 0))
  | 0, _ => .inl rfl
  | k + 1, h => by
    rw [List.range_succ, List.foldl_append]
    exact seedR_ok (seedRs_ok k (by omega)) (by omega)
/-- Two seeds, the first ahead of the second. -/
theorem seedsV_ok {xs : List It} (h : 2 ≤ xs.length) : (seedsV xs).1 < (seedsV xs).2 ∧ (seedsV xs).2 < xs.length := by
  have h1 : SdOk xs.length (seedsV xs) := seedRs_ok _ (Nat.le_refl _)
  rcases h1 with h1 | h1
  · exfalso
    have h2 : ∀ k, k + 1 ≤ xs.length → (List.range (k + 1)).foldl (seedR xs) (0, 0) ≠ (0, 0) := by
      intro k
      induction k with
      | zero =>
        intro _ e
        have h3 := (seedIn_ok (xs := xs) (n := xs.length) (i := 0) (xs.length - 1) (s := 1) (ab := (0, 0)) (.inl rfl) (by omega) (by omega)).2 (by omega)
        have e2 : seedR xs (0, 0) 0 = (0, 0) := e
        unfold seedR at e2
        rw [show (List.range' 1 (xs.length - 1)).foldl (seedS xs 0) (0, 0) = (0, 0) from e2] at h3
        exact absurd h3 (by decide)
      | succ k ih =>
        intro hk e
        have h4 := seedRs_ok (xs := xs) (k + 1) (by omega)
        have h5 := ih (by omega)
        rw [List.range_succ, List.foldl_append] at e
        generalize (List.range (k + 1)).foldl (seedR xs) (0, 0) = ab at h4 h5 e
        rcases h4 with h4 | h4
        · exact h5 h4
        · have h6 : ∀ (m s : Nat) (ab : Nat × Nat), k + 1 < s → s + m ≤ xs.length → ab.1 < ab.2 → ab.2 < xs.length → ((List.range' s m).foldl (seedS xs (k + 1)) ab).1 < ((List.range' s m).foldl (seedS xs (k + 1)) ab).2 := by
            intro m
            induction m with
            | zero => intro s ab _ _ h _; exact h
            | succ m ihm =>
              intro s ab hs hm h7 h8
              rw [List.range'_succ, List.foldl_cons]
              have h9 := seedS_ok (xs := xs) (.inr ⟨h7, h8⟩) hs (show s < xs.length by omega)
              exact ihm (s + 1) _ (by omega) (by omega) h9.1 h9.2
          have h10 := h6 (xs.length - (k + 1 + 1)) (k + 1 + 1) ab (by omega) (by omega) h4.1 h4.2
          have e2 : seedR xs ab (k + 1) = (0, 0) := e
          unfold seedR at e2
          rw [e2] at h10
          exact absurd h10 (by decide)
    have h3 := h2 (xs.length - 1) (by omega)
    rw [show xs.length - 1 + 1 = xs.length by omega] at h3
    exact h3 h1
  · exact h1

theorem sWasteI (x y : It) (w : World) : Calls Tryz.prog 111 #[.agg #[.int .i64 x.x0, .int .i64 x.y0, .int .i64 x.x1, .int .i64 x.y1], .agg #[.int .i64 y.x0, .int .i64 y.y0, .int .i64 y.x1, .int .i64 y.y1]] w fun e w' => e = .returned (.int .i64 (wasteO (boxOf x) (boxOf y))) ∧ Below w.heap.size w w' := sWaste_any (boxOf x) (boxOf y) w

set_option maxRecDepth 100000 in
set_option maxHeartbeats 3200000 in
theorem sSeeds_any (a : Option Addr) (n cap : Nat) (xs : List It) (w : World) (h : RdS itLay w a n cap xs) :
    Calls Tryz.prog 107 #[.slice a n cap] w fun e w' => e = .returned (.tuple #[.int .i64 ((seedsV xs).1 : Nat), .int .i64 ((seedsV xs).2 : Nat)]) ∧ Below w.heap.size w w' := by
  have hm := h.1.2.2.1
  have hnc := h.1.2.1
  unfold maxLen at hm
  have HR := Lib.hid h
  have HL := Lib.hid h.1.1
  clear h
  go_enter Tryz.func107, Tryz.ntmps107
  go_wp2
  go_loopw [4, 5, 6] (fun va vb vi wr => ∃ (i a0 b0 : Nat), i ≤ n ∧ va = .int .i64 (a0 : Int) ∧ vb = .int .i64 (b0 : Int) ∧ vi = .int .i64 (i : Int) ∧ Hid ((a0, b0) = (List.range i).foldl (seedR xs) (0, 0)) ∧ Below w.heap.size w wr) (fun _ _ i _ => n - (intOf i).toNat)
  case atStart => exact ⟨0, 0, 0, Nat.zero_le _, rfl, rfl, rfl, Lib.hid rfl, Below.refl _ _⟩
  case round =>
    obtain ⟨i, a0, b0, hi, rfl, rfl, rfl, HA, hB⟩ := hrel
    by_cases hlt : i < n
    · have z1 : (i : Int) < n := by omega
      have HOK0 : Hid (SdOk n (a0, b0)) := by
        rw [HA.out, ← HL.out]
        exact Lib.hid (seedRs_ok i (by rw [HL.out]; omega))
      have HR1 : Hid ((List.range (i + 1)).foldl (seedR xs) (0, 0) = (List.range' (i + 1) (n - (i + 1))).foldl (seedS xs i) (a0, b0)) := by
        show _ = _
        rw [List.range_succ, List.foldl_append, ← HA.out]
        show seedR xs (a0, b0) i = _
        unfold seedR
        rw [HL.out]
      obtain ⟨ab0, hab0⟩ : ∃ ab0 : Nat × Nat, (a0, b0) = ab0 := ⟨_, rfl⟩
      rw [hab0] at HR1
      go_wp2
      go_loopw [4, 5, 7] (fun va vb vk wx => ∃ (k a1 b1 : Nat), i + 1 ≤ k ∧ k ≤ n ∧ va = .int .i64 (a1 : Int) ∧ vb = .int .i64 (b1 : Int) ∧ vk = .int .i64 (k : Int) ∧ Hid ((a1, b1) = (List.range' (i + 1) (k - (i + 1))).foldl (seedS xs i) ab0) ∧ Hid (SdOk n (a1, b1)) ∧ Below w.heap.size w wx) (fun _ _ k _ => n - (intOf k).toNat)
      case atStart =>
        exact ⟨i + 1, a0, b0, Nat.le_refl _, by omega, rfl, rfl, by go_num, Lib.hid (by rw [Nat.sub_self]; exact hab0), HOK0, hB⟩
      case round =>
        clear hB
        obtain ⟨k, a1, b1, hk1, hk, rfl, rfl, rfl, HS0, HOK, hB⟩ := hrel
        by_cases hlt2 : k < n
        · have hstep : (List.range' (i + 1) (k + 1 - (i + 1))).foldl (seedS xs i) ab0 = seedS xs i (a1, b1) k := by
            rw [show k + 1 - (i + 1) = (k - (i + 1)) + 1 by omega, List.range'_1_concat, List.foldl_append, ← HS0.out, show i + 1 + (k - (i + 1)) = k by omega]
            rfl
          obtain ⟨ha1, hb1⟩ := HOK.out.lt (show 0 < n by omega)
          have ha1 : a1 < n := ha1
          have hb1 : b1 < n := hb1
          obtain ⟨bb, off, x, rfl, hbl, hx, d0, d1, d2, d3, d4⟩ := rdIt_at (HR.out.below hB) hlt
          obtain ⟨bb', off', y, ha, _, hy, e0, e1, e2, e3, e4⟩ := rdIt_at (HR.out.below hB) hlt2
          cases ha
          obtain ⟨bb', off', u, ha, _, hu, f0, f1, f2, f3, f4⟩ := rdIt_at (HR.out.below hB) ha1
          cases ha
          obtain ⟨bb', off', v, ha, _, hv, g0, g1, g2, g3, g4⟩ := rdIt_at (HR.out.below hB) hb1
          cases ha
          have hX : boxI xs i = boxOf x := by unfold boxI getI; rw [Int.toNat_natCast, hx]; rfl
          have hY : boxI xs k = boxOf y := by unfold boxI getI; rw [Int.toNat_natCast, hy]; rfl
          have hU : boxI xs a1 = boxOf u := by unfold boxI getI; rw [Int.toNat_natCast, hu]; rfl
          have hV : boxI xs b1 = boxOf v := by unfold boxI getI; rw [Int.toNat_natCast, hv]; rfl
          obtain ⟨s, hs⟩ : ∃ s, wasteO (boxOf x) (boxOf y) = s := ⟨_, rfl⟩
          obtain ⟨q, hq⟩ : ∃ q, wasteO (boxOf u) (boxOf v) = q := ⟨_, rfl⟩
          have CW := Lib.hid (fun (W : World) d os => callr (w := W) (d := d) (os := os) (hs ▸ sWasteI x y _))
          have CV := Lib.hid (fun (W : World) d os => callr (w := W) (d := d) (os := os) (hq ▸ sWasteI u v _))
          have hst2 : seedS xs i (a1, b1) k = if b1 = 0 ∨ s > q then (i, k) else (a1, b1) := by
            unfold seedS
            simp only [hX, hY, hU, hV, hs, hq]
          rw [hst2] at hstep
          replace hstep := Lib.hid hstep
          have HOKn : Hid (SdOk n (i, k)) := Lib.hid (.inr ⟨by show i < k; omega, hlt2⟩)
          have z2 : (k : Int) < n := by omega
          have z3 : (a1 : Int) < n := by omega
          have z4 : (b1 : Int) < n := by omega
          have z5 : (0 : Int) ≤ k := by omega
          have z6 : (0 : Int) ≤ i := by omega
          have z7 : (0 : Int) ≤ a1 := by omega
          have z8 : (0 : Int) ≤ b1 := by omega
          clear hst2 hX hY hU hV hs hq hx hy hu hv d0 e0 f0 g0
          by_cases h1 : b1 = 0
          · have hd1 : ((b1 : Int) == 0) = true := by rw [beq_iff_eq]; omega
            go_wp2_with fail
            have qd1 := cellq d1
            refine wp_region_quiet_below (by kernel_rfl) (by kernel_rfl) ?_
            repeat (go_big_quiet_step (fail))
            refine wpQuiet_nil (quiet_end fun w2 b2 => ?_)
            clear qd1
            have HS : Hid (((i : Nat), (k : Nat)) = (List.range' (i + 1) (k + 1 - (i + 1))).foldl (seedS xs i) ab0) := by
              show _ = _
              rw [hstep.out, if_pos (.inl h1)]
            have BZ := Lib.hid (hB.trans (b2.mono hB.size))
            clear b2 hstep hB HS0
            go_wp2
            go_roundw
            case rel => exact ⟨k + 1, i, k, by omega, by omega, rfl, rfl, by go_num, HS, HOKn, BZ.out⟩
            case measure => simp [intOf]; omega
          · have hd1 : ((b1 : Int) == 0) = false := by rw [beq_eq_false_iff_ne]; omega
            by_cases h2 : s > q
            · have hd2 : decide (s > q) = true := decide_eq_true h2
              go_wp2_with fail
              have qd1 := cellq d1
              have qd2 := cellq d2
              have qd3 := cellq d3
              have qd4 := cellq d4
              have qe1 := cellq e1
              have qe2 := cellq e2
              have qe3 := cellq e3
              have qe4 := cellq e4
              have qf1 := cellq f1
              have qf2 := cellq f2
              have qf3 := cellq f3
              have qf4 := cellq f4
              have qg1 := cellq g1
              have qg2 := cellq g2
              have qg3 := cellq g3
              have qg4 := cellq g4
              refine wp_region_quiet_below (by kernel_rfl) (by kernel_rfl) ?_
              repeat (go_big_quiet_step (first | (with_reducible exact CW.out _ _ _) | (with_reducible exact CV.out _ _ _)))
              refine wpQuiet_nil (quiet_end fun w2 b2 => ?_)
              clear qd1 qd2 qd3 qd4 qe1 qe2 qe3 qe4 qf1 qf2 qf3 qf4 qg1 qg2 qg3 qg4
              have HS : Hid (((i : Nat), (k : Nat)) = (List.range' (i + 1) (k + 1 - (i + 1))).foldl (seedS xs i) ab0) := by
                show _ = _
                rw [hstep.out, if_pos (.inr h2)]
              have BZ := Lib.hid (hB.trans (b2.mono hB.size))
              clear b2 hstep hB HS0
              go_wp2
              go_roundw
              case rel => exact ⟨k + 1, i, k, by omega, by omega, rfl, rfl, by go_num, HS, HOKn, BZ.out⟩
              case measure => simp [intOf]; omega
            · have hd2 : decide (s > q) = false := decide_eq_false h2
              go_wp2_with fail
              have qd1 := cellq d1
              have qd2 := cellq d2
              have qd3 := cellq d3
              have qd4 := cellq d4
              have qe1 := cellq e1
              have qe2 := cellq e2
              have qe3 := cellq e3
              have qe4 := cellq e4
              have qf1 := cellq f1
              have qf2 := cellq f2
              have qf3 := cellq f3
              have qf4 := cellq f4
              have qg1 := cellq g1
              have qg2 := cellq g2
              have qg3 := cellq g3
              have qg4 := cellq g4
              refine wp_region_quiet_below (by kernel_rfl) (by kernel_rfl) ?_
              repeat (go_big_quiet_step (first | (with_reducible exact CW.out _ _ _) | (with_reducible exact CV.out _ _ _)))
              refine wpQuiet_nil (quiet_end fun w2 b2 => ?_)
              clear qd1 qd2 qd3 qd4 qe1 qe2 qe3 qe4 qf1 qf2 qf3 qf4 qg1 qg2 qg3 qg4
              have HS : Hid (((a1 : Nat), (b1 : Nat)) = (List.range' (i + 1) (k + 1 - (i + 1))).foldl (seedS xs i) ab0) := by
                show _ = _
                rw [hstep.out, if_neg (by omega)]
              have BZ := Lib.hid (hB.trans (b2.mono hB.size))
              clear b2 hstep hB HS0
              go_wp2
              go_roundw
              case rel => exact ⟨k + 1, a1, b1, by omega, by omega, rfl, rfl, by go_num, HS, HOK, BZ.out⟩
              case measure => simp [intOf]; omega
        · obtain rfl : k = n := by omega
          have HZ : Hid ((a1, b1) = (List.range (i + 1)).foldl (seedR xs) (0, 0)) := by
            show _ = _
            rw [HR1.out]
            exact HS0.out
          clear HS0
          go_wp2
          go_roundw
          case rel => exact ⟨i + 1, a1, b1, by omega, rfl, rfl, by go_num, HZ, hB⟩
          case measure => simp [intOf]; omega
    · obtain rfl : i = n := by omega
      have HZ : Hid (seedsV xs = (a0, b0)) := by
        show _ = _
        unfold seedsV
        rw [HL.out]
        exact HA.out.symm
      go_wp2
      go_ret2
      rw [HZ.out]
      exact ⟨rfl, hB⟩
end Go.Proofs.YtfefggcfeppeiaaGreat

/- The model's Pull and NextOf. -/
namespace Go.Proofs.YtfefggcfeppeiaaGreat
open Go.RowKit
attribute [local go_sem ↓] Go.wp_at_zero Go.wp_at_succ

def pullO (a b r : Bx) : Int := growO a r - growO b r
def absI (n : Int) : Int := if n < 0 then -n else n
theorem pullO_bd (a b r : Bx) : -131072 ≤ pullO a b r ∧ pullO a b r ≤ 131072 := by
  have h1 := growO_bd a r
  have h2 := growO_bd b r
  unfold pullO
  omega

set_option maxRecDepth 100000 in
set_option maxHeartbeats 800000 in
theorem sPull_any (a b r : Bx) (w : World) : Calls Tryz.prog 113 #[.agg #[.int .i64 a.x0, .int .i64 a.y0, .int .i64 a.x1, .int .i64 a.y1], .agg #[.int .i64 b.x0, .int .i64 b.y0, .int .i64 b.x1, .int .i64 b.y1], .agg #[.int .i64 r.x0, .int .i64 r.y0, .int .i64 r.x1, .int .i64 r.y1]] w fun e w' => e = .returned (.int .i64 (pullO a b r)) ∧ Below w.heap.size w w' := by
  obtain ⟨W0, hW0⟩ : ∃ W0, W0 = ((w.alloc (.cells #[.int .i64 a.x0, .int .i64 a.y0, .int .i64 a.x1, .int .i64 a.y1] 28)).alloc (.cells #[.int .i64 b.x0, .int .i64 b.y0, .int .i64 b.x1, .int .i64 b.y1] 28)).alloc (.cells #[.int .i64 r.x0, .int .i64 r.y0, .int .i64 r.x1, .int .i64 r.y1] 28) := ⟨_, rfl⟩
  have bw0 : Below w.heap.size w W0 := by subst hW0; exact (((Below.refl _ _).alloc (Nat.le_refl _) _).alloc (by simp) _).alloc (by simp; omega) _
  have KA : Loc W0 w.heap.size #[.int .i64 a.x0, .int .i64 a.y0, .int .i64 a.x1, .int .i64 a.y1] := by subst hW0; exact ((Loc.new w _ _).alloc _).alloc _
  have KB : Loc W0 (w.heap.size + 1) #[.int .i64 b.x0, .int .i64 b.y0, .int .i64 b.x1, .int .i64 b.y1] := by
    subst hW0
    have := (Loc.new (w.alloc (.cells #[.int .i64 a.x0, .int .i64 a.y0, .int .i64 a.x1, .int .i64 a.y1] 28)) #[.int .i64 b.x0, .int .i64 b.y0, .int .i64 b.x1, .int .i64 b.y1] 28).alloc (.cells #[.int .i64 r.x0, .int .i64 r.y0, .int .i64 r.x1, .int .i64 r.y1] 28)
    rw [show (w.alloc (.cells #[.int .i64 a.x0, .int .i64 a.y0, .int .i64 a.x1, .int .i64 a.y1] 28)).heap.size = w.heap.size + 1 by simp] at this
    exact this
  have KR : Loc W0 (w.heap.size + 1 + 1) #[.int .i64 r.x0, .int .i64 r.y0, .int .i64 r.x1, .int .i64 r.y1] := by
    subst hW0
    have := Loc.new ((w.alloc (.cells #[.int .i64 a.x0, .int .i64 a.y0, .int .i64 a.x1, .int .i64 a.y1] 28)).alloc (.cells #[.int .i64 b.x0, .int .i64 b.y0, .int .i64 b.x1, .int .i64 b.y1] 28)) #[.int .i64 r.x0, .int .i64 r.y0, .int .i64 r.x1, .int .i64 r.y1] 28
    rw [show ((w.alloc (.cells #[.int .i64 a.x0, .int .i64 a.y0, .int .i64 a.x1, .int .i64 a.y1] 28)).alloc (.cells #[.int .i64 b.x0, .int .i64 b.y0, .int .i64 b.x1, .int .i64 b.y1] 28)).heap.size = w.heap.size + 1 + 1 by simp] at this
    exact this
  have a0 := cellq (KA.2.1 0)
  have a1 := cellq (KA.2.1 1)
  have a2 := cellq (KA.2.1 2)
  have a3 := cellq (KA.2.1 3)
  have b0 := cellq (KB.2.1 0)
  have b1 := cellq (KB.2.1 1)
  have b2 := cellq (KB.2.1 2)
  have b3 := cellq (KB.2.1 3)
  have r0 := cellq (KR.2.1 0)
  have r1 := cellq (KR.2.1 1)
  have r2 := cellq (KR.2.1 2)
  have r3 := cellq (KR.2.1 3)
  obtain ⟨ga, hga⟩ : ∃ g, growO a r = g := ⟨_, rfl⟩
  obtain ⟨gb, hgb⟩ : ∃ g, growO b r = g := ⟨_, rfl⟩
  have d1 := growO_bd a r
  have d2 := growO_bd b r
  rw [hga] at d1
  rw [hgb] at d2
  have hv : Hid (pullO a b r = ga - gb) := Lib.hid (by unfold pullO; rw [hga, hgb])
  have hw1 : wrap64 (ga - gb) = ga - gb := by rw [← IntWalk.i64_left, IntKind.wrap_i64]; omega
  have C1 := Lib.hid (fun (W : World) d os => callr (w := W) (d := d) (os := os) (hga ▸ sGrowthO a r _))
  have C2 := Lib.hid (fun (W : World) d os => callr (w := W) (d := d) (os := os) (hgb ▸ sGrowthO b r _))
  clear hga hgb
  go_enter Tryz.func113, Tryz.ntmps113
  go_wp2_with fail
  rw [← hW0]
  clear hW0
  refine wp_region_quiet_below (by kernel_rfl) (by kernel_rfl) ?_
  repeat (go_big_quiet_step (first | (with_reducible exact C1.out _ _ _) | (with_reducible exact C2.out _ _ _)))
  refine wpQuiet_nil (quiet_end fun w2 b2' => ?_)
  go_wp2
  go_ret
  exact ⟨ret_i64' hv.out.symm, bw0.trans (b2'.mono bw0.size)⟩

set_option maxRecDepth 100000 in
set_option maxHeartbeats 400000 in
theorem l9Abs_any (n : Int) (w : World) (h : -9223372036854775808 < n ∧ n ≤ 9223372036854775807) : Calls Tryz.prog 112 #[.int .i64 n] w fun e w' => e = .returned (.int .i64 (absI n)) ∧ Below w.heap.size w w' := by
  by_cases h0 : n < 0
  · have hv : Hid (absI n = -n) := Lib.hid (if_pos h0)
    have hw : wrap64 (-n) = -n := by rw [← IntWalk.i64_left, IntKind.wrap_i64]; omega
    go_enter Tryz.func112, Tryz.ntmps112
    go_wp2
    go_ret
    exact ⟨ret_i64' hv.out.symm, Below.refl _ _⟩
  · have hv : Hid (absI n = n) := Lib.hid (if_neg h0)
    go_enter Tryz.func112, Tryz.ntmps112
    go_wp2
    go_ret
    exact ⟨ret_i64' hv.out.symm, Below.refl _ _⟩

def nextS (xs : List It) (a b : Bx) (best : Int) (i : Nat) : Int := if best < 0 ∨ absI (pullO a b (boxI xs i)) > absI (pullO a b (boxOf (getI xs best))) then i else best
def nextV (xs : List It) (a b : Bx) : Int := (List.range xs.length).foldl (nextS xs a b) (-1)
theorem next_range (xs : List It) (a b : Bx) : ∀ k : Nat, (-1 ≤ (List.range k).foldl (nextS xs a b) (-1) ∧ (List.range k).foldl (nextS xs a b) (-1) < (k : Int)) ∧ (0 < k → 0 ≤ (List.range k).foldl (nextS xs a b) (-1))
  | 0 => by simp
  | k + 1 => by
    have h := next_range xs a b k
    rw [List.range_succ, List.foldl_append]
    generalize (List.range k).foldl (nextS xs a b) (-1) = z at h
    show (-1 ≤ nextS xs a b z k ∧ nextS xs a b z k < ((k + 1 : Nat) : Int)) ∧ (0 < k + 1 → 0 ≤ nextS xs a b z k)
    unfold nextS
    split <;> omega
theorem nextV_range (xs : List It) (a b : Bx) (h : xs ≠ []) : 0 ≤ nextV xs a b ∧ nextV xs a b < (xs.length : Int) := by
  have h1 := next_range xs a b xs.length
  have h2 : 0 < xs.length := List.length_pos_iff.2 h
  exact ⟨h1.2 h2, h1.1.2⟩
theorem sPullI (a b : Bx) (x : It) (w : World) : Calls Tryz.prog 113 #[.agg #[.int .i64 a.x0, .int .i64 a.y0, .int .i64 a.x1, .int .i64 a.y1], .agg #[.int .i64 b.x0, .int .i64 b.y0, .int .i64 b.x1, .int .i64 b.y1], .agg #[.int .i64 x.x0, .int .i64 x.y0, .int .i64 x.x1, .int .i64 x.y1]] w fun e w' => e = .returned (.int .i64 (pullO a b (boxOf x))) ∧ Below w.heap.size w w' := sPull_any a b (boxOf x) w

set_option maxRecDepth 100000 in
set_option maxHeartbeats 3200000 in
theorem sNextOf_any (la : Option Addr) (n cap : Nat) (xs : List It) (a b : Bx) (w : World) (h : RdS itLay w la n cap xs) :
    Calls Tryz.prog 108 #[.slice la n cap, .agg #[.int .i64 a.x0, .int .i64 a.y0, .int .i64 a.x1, .int .i64 a.y1], .agg #[.int .i64 b.x0, .int .i64 b.y0, .int .i64 b.x1, .int .i64 b.y1]] w fun e w' => e = .returned (.int .i64 (nextV xs a b)) ∧ Below w.heap.size w w' := by
  have hm := h.1.2.2.1
  have hnc := h.1.2.1
  unfold maxLen at hm
  have HL := Lib.hid h.1.1
  obtain ⟨W0, hW0⟩ : ∃ W0, W0 = (w.alloc (.cells #[.int .i64 a.x0, .int .i64 a.y0, .int .i64 a.x1, .int .i64 a.y1] 28)).alloc (.cells #[.int .i64 b.x0, .int .i64 b.y0, .int .i64 b.x1, .int .i64 b.y1] 28) := ⟨_, rfl⟩
  have b0 : Below w.heap.size w W0 := by subst hW0; exact ((Below.refl _ _).alloc (Nat.le_refl _) _).alloc (by simp) _
  have KA : Hid (Loc W0 w.heap.size #[.int .i64 a.x0, .int .i64 a.y0, .int .i64 a.x1, .int .i64 a.y1]) := by subst hW0; exact Lib.hid ((Loc.new w _ _).alloc _)
  have KB : Hid (Loc W0 (w.heap.size + 1) #[.int .i64 b.x0, .int .i64 b.y0, .int .i64 b.x1, .int .i64 b.y1]) := by
    subst hW0
    have := Loc.new (w.alloc (.cells #[.int .i64 a.x0, .int .i64 a.y0, .int .i64 a.x1, .int .i64 a.y1] 28)) #[.int .i64 b.x0, .int .i64 b.y0, .int .i64 b.x1, .int .i64 b.y1] 28
    rw [show (w.alloc (.cells #[.int .i64 a.x0, .int .i64 a.y0, .int .i64 a.x1, .int .i64 a.y1] 28)).heap.size = w.heap.size + 1 by simp] at this
    exact Lib.hid this
  have HR := Lib.hid (h.below b0)
  have bw0 := Lib.hid b0
  clear b0
  clear h
  go_enter Tryz.func108, Tryz.ntmps108
  go_wp2_with fail
  rw [← hW0]
  clear hW0
  go_wp2
  go_loopw [7, 8] (fun v i wr => ∃ (k : Nat) (z : Int), k ≤ n ∧ v = .int .i64 z ∧ i = .int .i64 (k : Int) ∧ Hid (z = (List.range k).foldl (nextS xs a b) (-1)) ∧ -1 ≤ z ∧ z < k ∧ (0 < k → 0 ≤ z) ∧ Hid (Below W0.heap.size W0 wr)) (fun _ i _ => n - (intOf i).toNat)
  case atStart => exact ⟨0, -1, Nat.zero_le _, rfl, rfl, Lib.hid rfl, by omega, by omega, fun h => by omega, Lib.hid (Below.refl _ _)⟩
  case round =>
    obtain ⟨k, z, hk, rfl, rfl, HA, hb0, hb1, hb2, HB⟩ := hrel
    have K1 := KA.out.below HB.out
    have K2 := KB.out.below HB.out
    have a0 := K1.2.1 0
    have a1 := K1.2.1 1
    have a2 := K1.2.1 2
    have a3 := K1.2.1 3
    have b0 := K2.2.1 0
    have b1 := K2.2.1 1
    have b2 := K2.2.1 2
    have b3 := K2.2.1 3
    by_cases hlt : k < n
    · have hstep : (List.range (k + 1)).foldl (nextS xs a b) (-1) = nextS xs a b z k := by
        rw [List.range_succ, List.foldl_append, ← HA.out]
        rfl
      have z1 : (k : Int) < n := by omega
      have z4 : (0 : Int) ≤ k := by omega
      obtain ⟨bb, off, x, rfl, hbl, hx, d0, d1, d2, d3, d4⟩ := rdIt_at (HR.out.below HB.out) hlt
      have hX : boxI xs k = boxOf x := by unfold boxI getI; rw [Int.toNat_natCast, hx]; rfl
      by_cases hneg : z < 0
      · have hd1 : decide (z < 0) = true := decide_eq_true hneg
        replace hstep : Hid ((List.range (k + 1)).foldl (nextS xs a b) (-1) = if z < 0 ∨ True then (k : Int) else z) := Lib.hid (by rw [hstep]; unfold nextS; rw [if_pos (.inl hneg), if_pos (.inl hneg)])
        clear hX hx
        go_wp2_with fail
        have qd1 := cellq d1
        refine wp_region_quiet_below (by kernel_rfl) (by kernel_rfl) ?_
        repeat (go_big_quiet_step (fail))
        refine wpQuiet_nil (quiet_end fun w2 b2 => ?_)
        clear qd1
        have HS : Hid ((k : Int) = (List.range (k + 1)).foldl (nextS xs a b) (-1)) := by
          show _ = _
          rw [hstep.out, if_pos (.inl hneg)]
        have BZ := Lib.hid (HB.out.trans (b2.mono HB.out.size))
        clear b2 hstep HB HA
        go_wp2
        go_roundw
        case rel => exact ⟨k + 1, (k : Int), by omega, rfl, by go_num, HS, by omega, by omega, fun _ => by omega, BZ⟩
        case measure => simp [intOf]; omega
      · obtain ⟨j, rfl⟩ := Int.eq_ofNat_of_zero_le (show 0 ≤ z by omega)
        obtain ⟨bb', off', y, ha, _, hy, e0, e1, e2, e3, e4⟩ := rdIt_at (HR.out.below HB.out) (show j < n by omega)
        cases ha
        have hY : getI xs (j : Int) = y := by unfold getI; rw [Int.toNat_natCast, hy]; rfl
        have z2 : (j : Int) < n := by omega
        have z3 : (0 : Int) ≤ j := by omega
        have hd1 : decide ((j : Int) < 0) = false := decide_eq_false hneg
        obtain ⟨s, hs⟩ : ∃ s, pullO a b (boxOf x) = s := ⟨_, rfl⟩
        obtain ⟨q, hq⟩ : ∃ q, pullO a b (boxOf y) = q := ⟨_, rfl⟩
        have s1 := pullO_bd a b (boxOf x)
        have q1 := pullO_bd a b (boxOf y)
        rw [hs] at s1
        rw [hq] at q1
        obtain ⟨s', hs'⟩ : ∃ s', absI s = s' := ⟨_, rfl⟩
        obtain ⟨q', hq'⟩ : ∃ q', absI q = q' := ⟨_, rfl⟩
        have C1 := Lib.hid (fun (W : World) d os => callr (w := W) (d := d) (os := os) (hs ▸ sPullI a b x _))
        have C2 := Lib.hid (fun (W : World) d os => callr (w := W) (d := d) (os := os) (hq ▸ sPullI a b y _))
        have C3 := Lib.hid (fun (W : World) d os => callr (w := W) (d := d) (os := os) (hs' ▸ l9Abs_any s _ (by omega)))
        have C4 := Lib.hid (fun (W : World) d os => callr (w := W) (d := d) (os := os) (hq' ▸ l9Abs_any q _ (by omega)))
        replace hstep : Hid ((List.range (k + 1)).foldl (nextS xs a b) (-1) = if (j : Int) < 0 ∨ s' > q' then (k : Int) else (j : Int)) := Lib.hid (by rw [hstep]; unfold nextS; rw [hX, hY, hs, hq, hs', hq'])
        clear hX hY hx hy hs hq hs' hq' s1 q1
        by_cases h2 : s' > q'
        · have hd2 : decide (s' > q') = true := decide_eq_true h2
          go_wp2_with fail
          have qd1 := cellq d1
          have qd2 := cellq d2
          have qd3 := cellq d3
          have qd4 := cellq d4
          have qe1 := cellq e1
          have qe2 := cellq e2
          have qe3 := cellq e3
          have qe4 := cellq e4
          have qa0 := cellq a0
          have qa1 := cellq a1
          have qa2 := cellq a2
          have qa3 := cellq a3
          have qb0 := cellq b0
          have qb1 := cellq b1
          have qb2 := cellq b2
          have qb3 := cellq b3
          refine wp_region_quiet_below (by kernel_rfl) (by kernel_rfl) ?_
          repeat (go_big_quiet_step (first | (with_reducible exact C1.out _ _ _) | (with_reducible exact C2.out _ _ _) | (with_reducible exact C3.out _ _ _) | (with_reducible exact C4.out _ _ _)))
          refine wpQuiet_nil (quiet_end fun w2 b2 => ?_)
          clear qd1 qd2 qd3 qd4 qe1 qe2 qe3 qe4 qa0 qa1 qa2 qa3 qb0 qb1 qb2 qb3
          have HS : Hid ((k : Int) = (List.range (k + 1)).foldl (nextS xs a b) (-1)) := by
            show _ = _
            rw [hstep.out, if_pos (.inr h2)]
          have BZ := Lib.hid (HB.out.trans (b2.mono HB.out.size))
          clear b2 hstep HB HA
          go_wp2
          go_roundw
          case rel => exact ⟨k + 1, (k : Int), by omega, rfl, by go_num, HS, by omega, by omega, fun _ => by omega, BZ⟩
          case measure => simp [intOf]; omega
        · have hd2 : decide (s' > q') = false := decide_eq_false h2
          go_wp2_with fail
          have qd1 := cellq d1
          have qd2 := cellq d2
          have qd3 := cellq d3
          have qd4 := cellq d4
          have qe1 := cellq e1
          have qe2 := cellq e2
          have qe3 := cellq e3
          have qe4 := cellq e4
          have qa0 := cellq a0
          have qa1 := cellq a1
          have qa2 := cellq a2
          have qa3 := cellq a3
          have qb0 := cellq b0
          have qb1 := cellq b1
          have qb2 := cellq b2
          have qb3 := cellq b3
          refine wp_region_quiet_below (by kernel_rfl) (by kernel_rfl) ?_
          repeat (go_big_quiet_step (first | (with_reducible exact C1.out _ _ _) | (with_reducible exact C2.out _ _ _) | (with_reducible exact C3.out _ _ _) | (with_reducible exact C4.out _ _ _)))
          refine wpQuiet_nil (quiet_end fun w2 b2 => ?_)
          clear qd1 qd2 qd3 qd4 qe1 qe2 qe3 qe4 qa0 qa1 qa2 qa3 qb0 qb1 qb2 qb3
          have HS : Hid ((j : Int) = (List.range (k + 1)).foldl (nextS xs a b) (-1)) := by
            show _ = _
            rw [hstep.out, if_neg (by omega)]
          have BZ := Lib.hid (HB.out.trans (b2.mono HB.out.size))
          clear b2 hstep HB HA
          go_wp2
          go_roundw
          case rel => exact ⟨k + 1, (j : Int), by omega, rfl, by go_num, HS, by omega, by omega, fun _ => by omega, BZ⟩
          case measure => simp [intOf]; omega
    · obtain rfl : k = n := by omega
      have hr : Hid (nextV xs a b = z) := by
        show _ = z
        unfold nextV
        rw [HL.out, ← HA.out]
      go_wp2
      go_ret
      exact ⟨ret_i64' hr.out.symm, bw0.out.trans (HB.out.mono bw0.out.size)⟩
end Go.Proofs.YtfefggcfeppeiaaGreat

/- The model's BoxesOf and l10First: to which one of two lists an entry goes. -/
namespace Go.Proofs.YtfefggcfeppeiaaGreat
open Go.RowKit
attribute [local go_sem ↓] Go.wp_at_zero Go.wp_at_succ

def boxesV (xs : List It) : Bx := joinAll (xs.map boxOf)
set_option maxRecDepth 100000 in
set_option maxHeartbeats 400000 in
theorem sBoxesOf_any (a : Option Addr) (n cap : Nat) (xs : List It) (w : World) (h : RdS itLay w a n cap xs) (hn : n ≤ 1099511627776) :
    Calls Tryz.prog 109 #[.slice a n cap] w (RetBox (boxesV xs) w) := by
  have B0 := Lib.hid (new_below w (.cells #[.int .i64 0, .int .i64 0, .int .i64 0, .int .i64 0] 28))
  have CB := Lib.hid (sBoundOf_any false a n cap xs (w.alloc (.cells #[.int .i64 0, .int .i64 0, .int .i64 0, .int .i64 0] 28)) (h.alloc _) hn)
  have J := Lib.hid (blk_new w #[.int .i64 0, .int .i64 0, .int .i64 0, .int .i64 0] 28)
  obtain ⟨j, hj⟩ : ∃ j, boxesV xs = j := ⟨_, rfl⟩
  rw [show joinAll (xs.map boxOf) = j from hj] at CB
  rw [hj]
  clear h hj
  go_enter Tryz.func109, Tryz.ntmps109
  go_wp2_with fail
  refine CB.out.mono ?_
  rintro e w1 ⟨rfl, b1⟩
  obtain ⟨j0, f0⟩ := below_keep b1 (by simp) _ _ J.out
  have B1 := Lib.hid (B0.out.trans (b1.mono B0.out.size))
  clear b1
  go_wp2
  refine bodyPost_ret (v := .agg #[.int .i64 j.x0, .int .i64 j.y0, .int .i64 j.x1, .int .i64 j.y1]) (by simp [results, Tryz.results109, go_sem, j0]) rfl ⟨rfl, ?_⟩
  exact (((B1.out.setCell (p := ⟨w.heap.size, 0, none⟩) (Nat.le_refl _) _).setCell (p := ⟨w.heap.size, 1, none⟩) (Nat.le_refl _) _).setCell (p := ⟨w.heap.size, 2, none⟩) (Nat.le_refl _) _).setCell (p := ⟨w.heap.size, 3, none⟩) (Nat.le_refl _) _

def firstV (xs ys : List It) (e : It) : Bool :=
  if pullO (boxesV xs) (boxesV ys) (boxOf e) = 0 then
    if areaO (boxesV xs) = areaO (boxesV ys) then decide (xs.length ≤ ys.length) else decide (areaO (boxesV xs) < areaO (boxesV ys))
  else decide (pullO (boxesV xs) (boxesV ys) (boxOf e) < 0)

set_option maxRecDepth 100000 in
set_option maxHeartbeats 1600000 in
theorem l10First_any (a b : Option Addr) (n m c d : Nat) (xs ys : List It) (e : It) (w : World) (h : RdS itLay w a n c xs) (h' : RdS itLay w b m d ys) (hn : n ≤ 1099511627776) (hm : m ≤ 1099511627776) :
    Calls Tryz.prog 110 #[.slice a n c, .slice b m d, .agg #[.int .i64 e.id, .int .i64 e.x0, .int .i64 e.y0, .int .i64 e.x1, .int .i64 e.y1]] w fun z w' => z = .returned (.bool (firstV xs ys e)) ∧ Below w.heap.size w w' := by
  have HL := Lib.hid h.1.1
  have HM := Lib.hid h'.1.1
  have K0 := Lib.hid (Loc.new w #[.int .i64 e.id, .int .i64 e.x0, .int .i64 e.y0, .int .i64 e.x1, .int .i64 e.y1] 77)
  have B0 := Lib.hid (new_below w (.cells #[.int .i64 e.id, .int .i64 e.x0, .int .i64 e.y0, .int .i64 e.x1, .int .i64 e.y1] 77))
  have H' := Lib.hid h'
  have CX := Lib.hid (sBoxesOf_any a n c xs (w.alloc (.cells #[.int .i64 e.id, .int .i64 e.x0, .int .i64 e.y0, .int .i64 e.x1, .int .i64 e.y1] 77)) (h.alloc _) hn)
  obtain ⟨x, hx⟩ : ∃ x, boxesV xs = x := ⟨_, rfl⟩
  obtain ⟨y, hy⟩ : ∃ y, boxesV ys = y := ⟨_, rfl⟩
  obtain ⟨p, hp⟩ : ∃ p, pullO x y (boxOf e) = p := ⟨_, rfl⟩
  obtain ⟨ax, hax⟩ : ∃ p, areaO x = p := ⟨_, rfl⟩
  obtain ⟨ay, hay⟩ : ∃ p, areaO y = p := ⟨_, rfl⟩
  have hv : Hid (firstV xs ys e = if p = 0 then (if ax = ay then decide (n ≤ m) else decide (ax < ay)) else decide (p < 0)) := Lib.hid (by unfold firstV; rw [hx, hy, hp, hax, hay, HL.out, HM.out])
  rw [hx] at CX
  have CP := Lib.hid (fun (W : World) => (hp ▸ sPullI x y e W : Calls Tryz.prog 113 #[.agg #[.int .i64 x.x0, .int .i64 x.y0, .int .i64 x.x1, .int .i64 x.y1], .agg #[.int .i64 y.x0, .int .i64 y.y0, .int .i64 y.x1, .int .i64 y.y1], .agg #[.int .i64 e.x0, .int .i64 e.y0, .int .i64 e.x1, .int .i64 e.y1]] W fun z w' => z = .returned (.int .i64 p) ∧ Below W.heap.size W w'))
  have C1 := Lib.hid (fun (W : World) d os => callr (w := W) (d := d) (os := os) (hax ▸ sAreaO x _))
  have C2 := Lib.hid (fun (W : World) d os => callr (w := W) (d := d) (os := os) (hay ▸ sAreaO y _))
  clear h h' hx hp hax hay
  go_enter Tryz.func110, Tryz.ntmps110
  go_wp2_with fail
  refine CX.out.mono ?_
  rintro z w1 ⟨rfl, b1⟩
  have K1 := Lib.hid ((K0.out.below b1).alloc (.cells #[.int .i64 x.x0, .int .i64 x.y0, .int .i64 x.x1, .int .i64 x.y1] 28))
  have X1 := Lib.hid (Loc.new w1 #[.int .i64 x.x0, .int .i64 x.y0, .int .i64 x.x1, .int .i64 x.y1] 28)
  have B1 := Lib.hid ((B0.out.trans (b1.mono B0.out.size)).alloc (Nat.le_trans B0.out.size b1.size) (.cells #[.int .i64 x.x0, .int .i64 x.y0, .int .i64 x.x1, .int .i64 x.y1] 28))
  obtain ⟨W2, hW2⟩ : ∃ W2, W2 = w1.alloc (.cells #[.int .i64 x.x0, .int .i64 x.y0, .int .i64 x.x1, .int .i64 x.y1] 28) := ⟨_, rfl⟩
  have CY := sBoxesOf_any b m d ys W2 (H'.out.below (by rw [hW2]; exact B1.out)) hm
  obtain ⟨qx, hqx⟩ : ∃ q, q = w1.heap.size := ⟨_, rfl⟩
  rw [← hW2, ← hqx] at X1
  rw [← hW2] at K1 B1
  rw [hy] at CY
  replace CY := Lib.hid CY
  clear b1 CX hy H' K0 B0
  go_wp2_with fail
  rw [← hW2, ← hqx]
  clear hW2 hqx
  refine CY.out.mono ?_
  rintro z w3 ⟨rfl, b3⟩
  have K3 := Lib.hid (K1.out.below b3)
  have X3 := Lib.hid (X1.out.below b3)
  have B3 := Lib.hid (B1.out.trans (b3.mono B1.out.size))
  have hqs := X3.out.1
  have hws := K3.out.1
  clear b3 CY K1 X1 B1
  have x0 := X3.out.2.1 0
  have x1 := X3.out.2.1 1
  have x2 := X3.out.2.1 2
  have x3 := X3.out.2.1 3
  have e1 := K3.out.2.1 1
  have e2 := K3.out.2.1 2
  have e3 := K3.out.2.1 3
  have e4 := K3.out.2.1 4
  simp at x0 x1 x2 x3 e1 e2 e3 e4
  go_wp2_with fail
  refine (CP.out _).mono ?_
  rintro z w5 ⟨rfl, b5⟩
  have K5 := Lib.hid ((K3.out.alloc (.cells #[.int .i64 y.x0, .int .i64 y.y0, .int .i64 y.x1, .int .i64 y.y1] 28)).below b5)
  have X5 := Lib.hid ((X3.out.alloc (.cells #[.int .i64 y.x0, .int .i64 y.y0, .int .i64 y.x1, .int .i64 y.y1] 28)).below b5)
  have Y5 := Lib.hid ((Loc.new w3 #[.int .i64 y.x0, .int .i64 y.y0, .int .i64 y.x1, .int .i64 y.y1] 28).below b5)
  have B5 := Lib.hid ((B3.out.alloc B3.out.size (.cells #[.int .i64 y.x0, .int .i64 y.y0, .int .i64 y.x1, .int .i64 y.y1] 28)).trans (b5.mono (B3.out.alloc B3.out.size (.cells #[.int .i64 y.x0, .int .i64 y.y0, .int .i64 y.x1, .int .i64 y.y1] 28)).size))
  clear b5 x0 x1 x2 x3 e1 e2 e3 e4 hqs hws K3 X3 B3
  by_cases h0 : p = 0
  · have hd : ((p : Int) != 0) = false := by rw [bne_eq_false_iff_eq]; exact h0
    have x0 := X5.out.2.1 0
    have x1 := X5.out.2.1 1
    have x2 := X5.out.2.1 2
    have x3 := X5.out.2.1 3
    have y0 := Y5.out.2.1 0
    have y1 := Y5.out.2.1 1
    have y2 := Y5.out.2.1 2
    have y3 := Y5.out.2.1 3
    have e1 := K5.out.2.1 1
    have e2 := K5.out.2.1 2
    have e3 := K5.out.2.1 3
    have e4 := K5.out.2.1 4
    go_wp2
    by_cases h1 : ax = ay
    · have hd2 : (ax != ay) = false := by rw [bne_eq_false_iff_eq]; exact h1
      have qx0 := cellq x0
      have qx1 := cellq x1
      have qx2 := cellq x2
      have qx3 := cellq x3
      have qy0 := cellq y0
      have qy1 := cellq y1
      have qy2 := cellq y2
      have qy3 := cellq y3
      refine wp_region_quiet_below (by kernel_rfl) (by kernel_rfl) ?_
      repeat (go_big_quiet_step (first | (with_reducible exact C1.out _ _ _) | (with_reducible exact C2.out _ _ _)))
      refine wpQuiet_nil (quiet_end fun w6 b6 => ?_)
      clear qx0 qx1 qx2 qx3 qy0 qy1 qy2 qy3
      clear x0 x1 x2 x3 y0 y1 y2 y3 e1 e2 e3 e4
      have K6 := Lib.hid (K5.out.below b6)
      have X6 := Lib.hid (X5.out.below b6)
      have Y6 := Lib.hid (Y5.out.below b6)
      have B6 := Lib.hid (B5.out.trans (b6.mono B5.out.size))
      clear b6
      go_wp2
      go_ret
      exact ⟨ret_bool (by rw [hv.out, if_pos h0, if_pos h1]), B6.out⟩
    · have hd2 : (ax != ay) = true := by rw [bne_iff_ne]; exact h1
      have qx0 := cellq x0
      have qx1 := cellq x1
      have qx2 := cellq x2
      have qx3 := cellq x3
      have qy0 := cellq y0
      have qy1 := cellq y1
      have qy2 := cellq y2
      have qy3 := cellq y3
      refine wp_region_quiet_below (by kernel_rfl) (by kernel_rfl) ?_
      repeat (go_big_quiet_step (first | (with_reducible exact C1.out _ _ _) | (with_reducible exact C2.out _ _ _)))
      refine wpQuiet_nil (quiet_end fun w6 b6 => ?_)
      clear qx0 qx1 qx2 qx3 qy0 qy1 qy2 qy3
      clear x0 x1 x2 x3 y0 y1 y2 y3 e1 e2 e3 e4
      have K6 := Lib.hid (K5.out.below b6)
      have X6 := Lib.hid (X5.out.below b6)
      have Y6 := Lib.hid (Y5.out.below b6)
      have B6 := Lib.hid (B5.out.trans (b6.mono B5.out.size))
      clear b6
      have x0 := X6.out.2.1 0
      have x1 := X6.out.2.1 1
      have x2 := X6.out.2.1 2
      have x3 := X6.out.2.1 3
      have y0 := Y6.out.2.1 0
      have y1 := Y6.out.2.1 1
      have y2 := Y6.out.2.1 2
      have y3 := Y6.out.2.1 3
      have e1 := K6.out.2.1 1
      have e2 := K6.out.2.1 2
      have e3 := K6.out.2.1 3
      have e4 := K6.out.2.1 4
      go_wp2_with fail
      have qx0 := cellq x0
      have qx1 := cellq x1
      have qx2 := cellq x2
      have qx3 := cellq x3
      have qy0 := cellq y0
      have qy1 := cellq y1
      have qy2 := cellq y2
      have qy3 := cellq y3
      refine wp_region_quiet_below (by kernel_rfl) (by kernel_rfl) ?_
      repeat (go_big_quiet_step (first | (with_reducible exact C1.out _ _ _) | (with_reducible exact C2.out _ _ _)))
      refine wpQuiet_nil (quiet_end fun w7 b7 => ?_)
      clear qx0 qx1 qx2 qx3 qy0 qy1 qy2 qy3
      clear x0 x1 x2 x3 y0 y1 y2 y3 e1 e2 e3 e4
      have K7 := Lib.hid (K6.out.below b7)
      have X7 := Lib.hid (X6.out.below b7)
      have Y7 := Lib.hid (Y6.out.below b7)
      have B7 := Lib.hid (B6.out.trans (b7.mono B6.out.size))
      clear b7
      go_wp2
      go_ret
      exact ⟨ret_bool (by rw [hv.out, if_pos h0, if_neg h1]), B7.out⟩
  · have hd : ((p : Int) != 0) = true := by rw [bne_iff_ne]; exact h0
    go_wp2
    go_ret
    exact ⟨ret_bool (by rw [hv.out, if_neg h0]), B5.out⟩
end Go.Proofs.YtfefggcfeppeiaaGreat

/- The model's Parted: the entries of an overfull node in two lists. -/
namespace Go.Proofs.YtfefggcfeppeiaaGreat
open Go.RowKit
attribute [local go_sem ↓] Go.wp_at_zero Go.wp_at_succ

/-- All but two. -/
def leftV (xs : List It) (i k : Nat) : List It := ((List.range xs.length).filter (fun j : Nat => decide (j ≠ i ∧ j ≠ k))).map (fun j : Nat => getI xs (j : Int))
/-- The rest is dealt out, one after another. -/
def partL : Nat → List It → List It → List It → List It × List It
  | 0, _, a, b => (a, b)
  | f + 1, left, a, b =>
    if left.length = 0 then (a, b)
    else if a.length + left.length = 2 then (a ++ left, b)
    else if b.length + left.length = 2 then (a, b ++ left)
    else
      if firstV a b (getI left (nextV left (boxesV a) (boxesV b))) then partL f (left.take (nextV left (boxesV a) (boxesV b)).toNat ++ left.drop ((nextV left (boxesV a) (boxesV b)).toNat + 1)) (a ++ [getI left (nextV left (boxesV a) (boxesV b))]) b
      else partL f (left.take (nextV left (boxesV a) (boxesV b)).toNat ++ left.drop ((nextV left (boxesV a) (boxesV b)).toNat + 1)) a (b ++ [getI left (nextV left (boxesV a) (boxesV b))])
def partedV (xs : List It) : List It × List It :=
  if xs.length < 2 then (xs, []) else partL (leftV xs (seedsV xs).1 (seedsV xs).2).length (leftV xs (seedsV xs).1 (seedsV xs).2) [getI xs (seedsV xs).1] [getI xs (seedsV xs).2]
/-- Two lists in new memory, apart. -/
def TwoLists (w : World) (p : List It × List It) (e : Ending) (w' : World) : Prop := ∃ v1 v2, e = .returned (.tuple #[v1, v2]) ∧ OwnS itLay 77 w' w.heap.size v1 p.1 ∧ OwnS itLay 77 w' w.heap.size v2 p.2 ∧ Apart v1 v2 ∧ Below w.heap.size w w'

theorem own_one (w : World) (base : Nat) (x : It) (hb : base ≤ w.heap.size) : OwnS itLay 77 (w.alloc (.cells #[.int .i64 x.id, .int .i64 x.x0, .int .i64 x.y0, .int .i64 x.x1, .int .i64 x.y1] 77)) base (.slice (some ⟨w.heap.size, 0, none⟩) 1 1) [x] :=
  World.ownsRow_lit (size := 5) w #[.int .i64 x.id, .int .i64 x.x0, .int .i64 x.y0, .int .i64 x.x1, .int .i64 x.y1] 1 hb (by simp [maxLen]) rfl
theorem own_zero (w : World) (base : Nat) (hb : base ≤ w.heap.size) : OwnS itLay 77 (w.alloc (.cells #[] 77)) base (.slice (some ⟨w.heap.size, 0, none⟩) 0 0) [] := own_nil w 77 5 base w.heap.size rfl hb
theorem left_more (xs : List It) (i k j : Nat) : ((List.range (j + 1)).filter (fun j : Nat => decide (j ≠ i ∧ j ≠ k))).map (fun j : Nat => getI xs (j : Int)) = ((List.range j).filter (fun j : Nat => decide (j ≠ i ∧ j ≠ k))).map (fun j : Nat => getI xs (j : Int)) ++ (if j ≠ i ∧ j ≠ k then [getI xs (j : Int)] else []) := by
  rw [List.range_succ, List.filter_append, List.map_append]
  congr 1
  by_cases h : j ≠ i ∧ j ≠ k
  · rw [if_pos h, List.filter_cons, if_pos (by simpa using h)]
    rfl
  · rw [if_neg h, List.filter_cons, if_neg (by simpa using h)]
    rfl
theorem ownS_blk {w : World} {base g n c : Nat} {e : TypeId} {v : Value} {xs : List It} (h : OwnS itLay e w base v xs) (hg : w.heap.size ≤ g) : Apart v (.slice (some ⟨g, 0, none⟩) n c) := by
  intro k h1 h2
  have h3 := (World.ownsRow.lt h k h1).2
  have h4 : g = k := by simpa [Value.ownBlock] using h2
  omega
theorem drop_news {w : World} {b off n c k : Nat} {xs : List It} (h : RdS itLay w (some ⟨b, off, none⟩) n c xs) (hc : ¬ c = k) (hk : k ≤ n) : ∀ p, some (⟨b, off + k * 5, none⟩ : Addr) = some p → ∀ j u, ((xs.drop k).flatMap itLay.cells)[j]? = some u → w.cell? (p.add j) = some u := by
  have h2 := (h.drop k hk).news
  rw [if_neg hc] at h2
  intro p hp
  exact h2 p (by rw [← hp]; simp [add_lit]; rfl)
theorem getI_at {xs : List It} {i : Nat} {x : It} (h : xs[i]? = some x) : getI xs (i : Int) = x := by unfold getI; rw [Int.toNat_natCast, h]; rfl

set_option maxRecDepth 100000 in
set_option maxHeartbeats 3200000 in
theorem sParted_any (la : Option Addr) (n cap : Nat) (xs : List It) (w : World) (h : RdS itLay w la n cap xs) (hn : n ≤ 1048576) :
    Calls Tryz.prog 105 #[.slice la n cap] w (TwoLists w (partedV xs)) := by
  obtain ⟨i0, hi0, hz0, hz1, hz2⟩ := info_parts Tryz.infoEntry
  replace hi0 := Lib.hid hi0
  replace hz0 := Lib.hid hz0
  replace hz1 := Lib.hid hz1
  replace hz2 := Lib.hid hz2
  have hm := h.1.2.2.1
  have hnc := h.1.2.1
  unfold maxLen at hm
  have HR := Lib.hid h
  have HL := Lib.hid h.1.1
  have CS := Lib.hid (sSeeds_any la n cap xs w h)
  by_cases h2 : n < 2
  · go_enter Tryz.func105, Tryz.ntmps105
    -- short
    have hp : Hid (partedV xs = (xs, [])) := Lib.hid (if_pos (by rw [HL.out]; exact h2))
    go_wp2_with (at_builtin; refine wpList_append_new rfl (.tmp 14) (.tmp 15) 57 rfl w.heap.size 77 i0 _ 5 40 Tryz.underlying57 hi0.out hz0.out hz1.out hz2.out rfl (by decide) (.slice (some ⟨w.heap.size, 0, none⟩) 0 0) 0 (([] : List It).flatMap itLay.cells) rfl (own_zero w w.heap.size (Nat.le_refl _)) la n cap (xs.flatMap itLay.cells) rfl (by rw [flat_len, HL.out]; rfl) (fun h => HR.out.nil h) (HR.out.alloc _).news (cells_one itLay xs) ?_ ?_ ?_ ?_)
    case refine_1 => unfold maxLen; omega
    case refine_2 => omega
    case refine_3 => simp
    intro v3 w3 o3 g3 f3
    obtain ⟨a3, c3, rfl⟩ := owns_shape o3
    have B3 := Lib.hid ((new_below w (.cells #[] 77)).grown g3 (by simp) (fun j hj => by cases hj; exact Nat.le_refl _))
    have O3 : Hid (OwnS itLay 77 w3 w.heap.size (.slice a3 n c3) xs) := by
      have := o3
      unfold OwnS
      rw [HL.out]
      exact Lib.hid this
    have t3 := World.ownsRow.lt O3.out
    clear o3 g3 f3
    go_wp2
    go_ret2
    rw [hp.out]
    refine ⟨_, _, rfl, OwnS.below O3.out (new_below w3 _), own_zero w3 w.heap.size B3.out.size, ?_, B3.out.alloc B3.out.size _⟩
    intro g h3 h4
    have h5 := (t3 g h3).2
    have h6 : w3.heap.size = g := by simpa [Value.ownBlock] using h4
    omega
  · obtain ⟨s, hs⟩ : ∃ s, seedsV xs = s := ⟨_, rfl⟩
    obtain ⟨i, k⟩ := s
    have hik := seedsV_ok (xs := xs) (by rw [HL.out]; omega)
    rw [hs] at hik
    rw [hs] at CS
    obtain ⟨hik1, hik2⟩ := hik
    have hik1 : i < k := hik1
    have hik2 : k < n := by have : k < xs.length := hik2; rw [HL.out] at this; exact this
    have z2 : ¬ (n : Int) < 2 := by omega
    have z3 : (i : Int) < n := by omega
    have z4 : (k : Int) < n := by omega
    go_enter Tryz.func105, Tryz.ntmps105
    go_wp2_with fail
    refine CS.out.mono ?_
    rintro e w1 ⟨rfl, b1⟩
    obtain ⟨bb, off, x, rfl, hbl, hx, d0, d1, d2, d3, d4⟩ := rdIt_at (HR.out.below b1) (show i < n by omega)
    obtain ⟨bb', off', y, ha, _, hy, e0, e1, e2, e3, e4⟩ := rdIt_at (HR.out.below b1) hik2
    cases ha
    have hx0 := HL.out
    have B1 := Lib.hid b1
    have hX := getI_at hx
    have hY := getI_at hy
    obtain ⟨lv, hlv⟩ : ∃ lv, leftV xs i k = lv := ⟨_, rfl⟩
    have hp : Hid (partedV xs = partL lv.length lv [x] [y]) := by
      show _ = _
      unfold partedV
      rw [if_neg (by rw [HL.out]; exact h2), hs]
      show partL (leftV xs i k).length (leftV xs i k) [getI xs (i : Int)] [getI xs (k : Int)] = _
      rw [hX, hY, hlv]
    have hlv2 : Hid (lv = ((List.range n).filter (fun j : Nat => decide (j ≠ i ∧ j ≠ k))).map (fun j : Nat => getI xs (j : Int))) := by
      show _ = _
      rw [← hlv]
      unfold leftV
      rw [HL.out]
    have OA := own_one w1 w.heap.size x b1.size
    have OB := own_one (w1.alloc (.cells #[.int .i64 x.id, .int .i64 x.x0, .int .i64 x.y0, .int .i64 x.x1, .int .i64 x.y1] 77)) w.heap.size y (by have := b1.size; simp; omega)
    obtain ⟨W3, hW3⟩ : ∃ W3, W3 = ((w1.alloc (.cells #[.int .i64 x.id, .int .i64 x.x0, .int .i64 x.y0, .int .i64 x.x1, .int .i64 x.y1] 77)).alloc (.cells #[.int .i64 y.id, .int .i64 y.x0, .int .i64 y.y0, .int .i64 y.x1, .int .i64 y.y1] 77)).alloc (.cells #[] 77) := ⟨_, rfl⟩
    have OL := own_zero ((w1.alloc (.cells #[.int .i64 x.id, .int .i64 x.x0, .int .i64 x.y0, .int .i64 x.x1, .int .i64 x.y1] 77)).alloc (.cells #[.int .i64 y.id, .int .i64 y.x0, .int .i64 y.y0, .int .i64 y.x1, .int .i64 y.y1] 77)) w.heap.size (by have := b1.size; simp; omega)
    replace OA := (OA.below (new_below _ (.cells #[.int .i64 y.id, .int .i64 y.x0, .int .i64 y.y0, .int .i64 y.x1, .int .i64 y.y1] 77))).below (new_below _ (.cells #[] 77))
    replace OB := OB.below (new_below _ (.cells #[] 77))
    have B3 : Below w.heap.size w W3 := by
      rw [hW3]
      have := b1.size
      exact ((b1.alloc b1.size _).alloc (by simp; omega) _).alloc (by simp; omega) _
    rw [← hW3] at OA OB OL
    rw [show (w1.alloc (.cells #[.int .i64 x.id, .int .i64 x.x0, .int .i64 x.y0, .int .i64 x.x1, .int .i64 x.y1] 77)).heap.size = w1.heap.size + 1 by simp] at OB
    rw [show ((w1.alloc (.cells #[.int .i64 x.id, .int .i64 x.x0, .int .i64 x.y0, .int .i64 x.x1, .int .i64 x.y1] 77)).alloc (.cells #[.int .i64 y.id, .int .i64 y.x0, .int .i64 y.y0, .int .i64 y.x1, .int .i64 y.y1] 77)).heap.size = w1.heap.size + 1 + 1 by simp] at OL
    have AAB : Apart (.slice (some ⟨w1.heap.size, 0, none⟩) 1 1) (.slice (some ⟨w1.heap.size + 1, 0, none⟩) 1 1) := fun g h3 h4 => by
      have e3 : w1.heap.size = g := by simpa [Value.ownBlock] using h3
      have e4 : w1.heap.size + 1 = g := by simpa [Value.ownBlock] using h4
      omega
    have ALA : Apart (.slice (some ⟨w1.heap.size + 1 + 1, 0, none⟩) 0 0) (.slice (some ⟨w1.heap.size, 0, none⟩) 1 1) := fun g h3 h4 => by
      have e3 : w1.heap.size + 1 + 1 = g := by simpa [Value.ownBlock] using h3
      have e4 : w1.heap.size = g := by simpa [Value.ownBlock] using h4
      omega
    have ALB : Apart (.slice (some ⟨w1.heap.size + 1 + 1, 0, none⟩) 0 0) (.slice (some ⟨w1.heap.size + 1, 0, none⟩) 1 1) := fun g h3 h4 => by
      have e3 : w1.heap.size + 1 + 1 = g := by simpa [Value.ownBlock] using h3
      have e4 : w1.heap.size + 1 = g := by simpa [Value.ownBlock] using h4
      omega
    obtain ⟨ga, hga⟩ : ∃ g, w1.heap.size = g := ⟨_, rfl⟩
    obtain ⟨gb, hgb⟩ : ∃ g, w1.heap.size + 1 = g := ⟨_, rfl⟩
    obtain ⟨gl, hgl⟩ : ∃ g, w1.heap.size + 1 + 1 = g := ⟨_, rfl⟩
    rw [hgl] at OL ALA ALB
    rw [hgb] at OB AAB ALB
    rw [hga] at OA AAB ALA
    replace OA := Lib.hid OA
    replace OB := Lib.hid OB
    replace OL := Lib.hid OL
    replace AAB := Lib.hid AAB
    replace ALA := Lib.hid ALA
    replace ALB := Lib.hid ALB
    replace B3 := Lib.hid B3
    replace hga := Lib.hid hga
    replace hgb := Lib.hid hgb
    replace hgl := Lib.hid hgl
    clear hs hlv hx hy hX hY h CS b1 hik1 hik2 B1 hx0
    go_wp2
    rw [← hW3, hgl.out, hgb.out, hga.out]
    clear hW3 hga hgb hgl d0 d1 d2 d3 d4 e0 e1 e2 e3 e4
    go_loopw [8, 9] (fun v vj wr => ∃ (j : Nat) (vl : Option Addr) (cl nl : Nat) (acc : List It), j ≤ n ∧ v = .slice vl nl cl ∧ vj = .int .i64 (j : Int) ∧ Hid (acc = ((List.range j).filter (fun j : Nat => decide (j ≠ i ∧ j ≠ k))).map (fun j : Nat => getI xs (j : Int))) ∧ Hid (acc.length = nl) ∧ nl ≤ j ∧ Hid (OwnS itLay 77 wr w.heap.size (.slice vl nl cl) acc) ∧ Hid (OwnS itLay 77 wr w.heap.size (.slice (some ⟨ga, 0, none⟩) 1 1) [x]) ∧ Hid (OwnS itLay 77 wr w.heap.size (.slice (some ⟨gb, 0, none⟩) 1 1) [y]) ∧ Hid (Apart (.slice vl nl cl) (.slice (some ⟨ga, 0, none⟩) 1 1)) ∧ Hid (Apart (.slice vl nl cl) (.slice (some ⟨gb, 0, none⟩) 1 1)) ∧ Hid (Below w.heap.size w wr)) (fun _ vj _ => n - (intOf vj).toNat)
    case atStart => exact ⟨0, _, _, 0, [], Nat.zero_le _, rfl, rfl, Lib.hid rfl, Lib.hid rfl, Nat.zero_le _, OL, OA, OB, ALA, ALB, B3⟩
    case round =>
      clear OL OA OB ALA ALB B3
      obtain ⟨j, vl, cl, nl, acc, hj, rfl, rfl, HACC, HNL, hnl, OL, OA, OB, ALA, ALB, HB⟩ := hrel
      by_cases hlt : j < n
      · have z5 : (j : Int) < n := by omega
        have hmore := left_more xs i k j
        rw [← HACC.out] at hmore
        by_cases hji : j = i ∨ j = k
        · have HS : Hid (acc = ((List.range (j + 1)).filter (fun j : Nat => decide (j ≠ i ∧ j ≠ k))).map (fun j : Nat => getI xs (j : Int))) := by
            show _ = _
            rw [hmore, if_neg (by omega), List.append_nil]
          clear hmore
          by_cases hj1 : j = i
          · have q1 : ((j : Int) != i) = false := by rw [bne_eq_false_iff_eq]; omega
            go_wp2
            go_roundw
            case rel => exact ⟨j + 1, vl, cl, nl, acc, by omega, rfl, by go_num, HS, HNL, by omega, OL, OA, OB, ALA, ALB, HB⟩
            case measure => simp [intOf]; omega
          · have q1 : ((j : Int) != i) = true := by rw [bne_iff_ne]; omega
            have q2 : ((j : Int) != k) = false := by rw [bne_eq_false_iff_eq]; omega
            go_wp2
            go_roundw
            case rel => exact ⟨j + 1, vl, cl, nl, acc, by omega, rfl, by go_num, HS, HNL, by omega, OL, OA, OB, ALA, ALB, HB⟩
            case measure => simp [intOf]; omega
        · have q1 : ((j : Int) != i) = true := by rw [bne_iff_ne]; omega
          have q2 : ((j : Int) != k) = true := by rw [bne_iff_ne]; omega
          obtain ⟨bb', off', u, ha, hbl, hu, d0, d1, d2, d3, d4⟩ := rdIt_at (HR.out.below HB.out) hlt
          cases ha
          have HS : Hid (acc ++ [u] = ((List.range (j + 1)).filter (fun j : Nat => decide (j ≠ i ∧ j ≠ k))).map (fun j : Nat => getI xs (j : Int))) := by
            show _ = _
            rw [hmore, if_pos (by omega), getI_at hu]
          clear hmore hu
          go_wp2_with (at_builtin; refine wpList_append_new rfl (.tmp 48) (.tmp 53) 57 rfl w.heap.size 77 i0 _ 5 40 Tryz.underlying57 hi0.out hz0.out hz1.out hz2.out rfl (by decide) (.slice vl nl cl) nl (acc.flatMap itLay.cells) rfl (World.ownsRow.alloc (ownS_rowN OL.out HNL.out) (.cells #[.int .i64 u.id, .int .i64 u.x0, .int .i64 u.y0, .int .i64 u.x1, .int .i64 u.y1] 77)) (some ⟨wr.heap.size, 0, none⟩) 1 1 (itLay.cells u) rfl rfl (fun h => by cases h) ?_ (itLay.one u) ?_ ?_ ?_ ?_)
          case refine_1 =>
            intro p hp
            cases hp
            exact World.news_of_block (cs := #[.int .i64 u.id, .int .i64 u.x0, .int .i64 u.y0, .int .i64 u.x1, .int .i64 u.y1]) (t := 77) (fr := (0, 0)) (heap_alloc_new wr _)
          case refine_2 => unfold maxLen; omega
          case refine_3 => omega
          case refine_4 => have := HB.out.size; simp; omega
          intro v4 w4 o4 g4 f4
          obtain ⟨a4, c4, rfl⟩ := owns_shape o4
          have b4 := new_below wr (.cells #[.int .i64 u.id, .int .i64 u.x0, .int .i64 u.y0, .int .i64 u.x1, .int .i64 u.y1] 77)
          have OA4 := Lib.hid ((OA.out.below b4).keptApart g4 ALA.out.symm)
          have OB4 := Lib.hid ((OB.out.below b4).keptApart g4 ALB.out.symm)
          have ALA4 := Lib.hid (From.apart f4 ALA.out (fun g hg => (World.ownsRow.lt (OA.out.below b4) g hg).2))
          have ALB4 := Lib.hid (From.apart f4 ALB.out (fun g hg => (World.ownsRow.lt (OB.out.below b4) g hg).2))
          have OL4 : Hid (OwnS itLay 77 w4 w.heap.size (.slice a4 (nl + 1) c4) (acc ++ [u])) := by
            have := o4
            unfold OwnS
            rw [List.length_append, HNL.out, List.flatMap_append]
            rw [show [u].flatMap itLay.cells = itLay.cells u by simp]
            exact Lib.hid this
          have HN4 : Hid ((acc ++ [u]).length = nl + 1) := by
            show _ = _
            rw [List.length_append, HNL.out]
            rfl
          have HB4 := Lib.hid ((HB.out.alloc HB.out.size (.cells #[.int .i64 u.id, .int .i64 u.x0, .int .i64 u.y0, .int .i64 u.x1, .int .i64 u.y1] 77)).grown g4 (by have := HB.out.size; simp; omega) (fun j hj => (World.ownsRow.lt OL.out j hj).1))
          clear o4 g4 f4 b4
          go_wp2
          go_roundw
          case rel => exact ⟨j + 1, a4, c4, nl + 1, _, by omega, rfl, by go_num, HS, HN4, by omega, OL4, OA4, OB4, ALA4, ALB4, HB4⟩
          case measure => simp [intOf]; omega
      · obtain rfl : j = n := by omega
        have hacc : acc = lv := by rw [HACC.out, hlv2.out]
        subst hacc
        clear HACC hlv2
        skip
        obtain ⟨tg, htg⟩ : ∃ tg, partL acc.length acc [x] [y] = tg := ⟨_, rfl⟩
        rw [htg] at hp
        go_wp2
        go_loopw [6, 7, 8] (fun va vb vl wr => ∃ (aa ab al : Option Addr) (ca cb cl na nb nl : Nat) (xa xb xl : List It), va = .slice aa na ca ∧ vb = .slice ab nb cb ∧ vl = .slice al nl cl ∧ Hid (xa.length = na) ∧ Hid (xb.length = nb) ∧ Hid (xl.length = nl) ∧ na + nb + nl ≤ 1048578 ∧ Hid (partL nl xl xa xb = tg) ∧ Hid (OwnS itLay 77 wr w.heap.size (.slice aa na ca) xa) ∧ Hid (OwnS itLay 77 wr w.heap.size (.slice ab nb cb) xb) ∧ Hid (OwnS itLay 77 wr w.heap.size (.slice al nl cl) xl) ∧ Hid (Apart (.slice aa na ca) (.slice ab nb cb)) ∧ Hid (Apart (.slice al nl cl) (.slice aa na ca)) ∧ Hid (Apart (.slice al nl cl) (.slice ab nb cb)) ∧ Hid (Below w.heap.size w wr)) (fun _ _ vl _ => (lenOf vl).toNat)
        case atStart => exact ⟨_, _, vl, 1, 1, cl, 1, 1, nl, [x], [y], acc, rfl, rfl, rfl, Lib.hid rfl, Lib.hid rfl, HNL, by omega, Lib.hid (by rw [← HNL.out]; exact htg), OA, OB, OL, AAB, ALA, ALB, HB⟩
        case round =>
          clear OL OA OB ALA ALB HB AAB HNL htg
          obtain ⟨aa, ab, al, ca, cb, cl, na, nb, nl, xa, xb, xl, rfl, rfl, rfl, HA, HBL, HLL, hsum, HT, OA, OB, OL, AAB, ALA, ALB, HB⟩ := hrel
          by_cases hz : nl = 0
          · subst hz
            have ht : Hid (tg = (xa, xb)) := by
              show tg = _
              rw [← HT.out]
              rfl
            go_wp2
            go_ret2
            rw [hp.out, ht.out]
            exact ⟨_, _, rfl, OA.out, OB.out, AAB.out, HB.out⟩
          · obtain ⟨f, rfl⟩ : ∃ f, nl = f + 1 := ⟨nl - 1, by omega⟩
            have z8 : (0 : Int) < ((f + 1 : Nat) : Int) := by omega
            have hT2 := HT.out
            rw [partL, if_neg (by rw [HLL.out]; omega), HA.out, HBL.out, HLL.out] at hT2
            by_cases hc1 : na + (f + 1) = 2
            · rw [if_pos hc1] at hT2
              have q1 : ((na : Int) + ((f + 1 : Nat) : Int) == 2) = true := by rw [beq_iff_eq]; omega
              replace hc1 := Lib.hid hc1
              replace hT2 := Lib.hid hT2
              have RL := Lib.hid (rdS_ownsP OL.out)
              go_wp2_with (at_builtin; refine wpList_append_new rfl (.tmp 64) (.tmp 65) 57 rfl w.heap.size 77 i0 _ 5 40 Tryz.underlying57 hi0.out hz0.out hz1.out hz2.out rfl (by decide) (.slice aa na ca) na (xa.flatMap itLay.cells) rfl (ownS_rowN OA.out HA.out) al (f + 1) cl (xl.flatMap itLay.cells) rfl (by rw [flat_len, HLL.out]; rfl) (fun h => RL.out.nil h) RL.out.news (cells_one itLay xl) ?_ ?_ ?_ ?_)
              case refine_1 => unfold maxLen; omega
              case refine_2 => omega
              case refine_3 => exact HB.out.size
              intro v4 w4 o4 g4 f4
              obtain ⟨a4, c4, rfl⟩ := owns_shape o4
              have OA4 : Hid (OwnS itLay 77 w4 w.heap.size (.slice a4 (na + (f + 1)) c4) (xa ++ xl)) := by
                have := o4
                unfold OwnS
                rw [List.length_append, HA.out, HLL.out, List.flatMap_append]
                exact Lib.hid this
              have OB4 := Lib.hid (OB.out.keptApart g4 AAB.out.symm)
              have AB4 := Lib.hid (From.apart f4 AAB.out (fun g hg => (World.ownsRow.lt OB.out g hg).2))
              have B4 := Lib.hid (HB.out.grown g4 HB.out.size (fun j hj => (World.ownsRow.lt OA.out j hj).1))
              clear o4 g4 f4
              go_wp2
              go_ret2
              rw [hp.out, ← hT2.out]
              exact ⟨_, _, rfl, OA4.out, OB4.out, AB4.out, B4.out⟩
            · rw [if_neg hc1] at hT2
              have q1 : ((na : Int) + ((f + 1 : Nat) : Int) == 2) = false := by rw [beq_eq_false_iff_ne]; omega
              by_cases hc2 : nb + (f + 1) = 2
              · rw [if_pos hc2] at hT2
                have q2 : ((nb : Int) + ((f + 1 : Nat) : Int) == 2) = true := by rw [beq_iff_eq]; omega
                replace hc2 := Lib.hid hc2
                replace hT2 := Lib.hid hT2
                have RL := Lib.hid (rdS_ownsP OL.out)
                go_wp2_with (at_builtin; refine wpList_append_new rfl (.tmp 75) (.tmp 76) 57 rfl w.heap.size 77 i0 _ 5 40 Tryz.underlying57 hi0.out hz0.out hz1.out hz2.out rfl (by decide) (.slice ab nb cb) nb (xb.flatMap itLay.cells) rfl (ownS_rowN OB.out HBL.out) al (f + 1) cl (xl.flatMap itLay.cells) rfl (by rw [flat_len, HLL.out]; rfl) (fun h => RL.out.nil h) RL.out.news (cells_one itLay xl) ?_ ?_ ?_ ?_)
                case refine_1 => unfold maxLen; omega
                case refine_2 => omega
                case refine_3 => exact HB.out.size
                intro v4 w4 o4 g4 f4
                obtain ⟨a4, c4, rfl⟩ := owns_shape o4
                have OB4 : Hid (OwnS itLay 77 w4 w.heap.size (.slice a4 (nb + (f + 1)) c4) (xb ++ xl)) := by
                  have := o4
                  unfold OwnS
                  rw [List.length_append, HBL.out, HLL.out, List.flatMap_append]
                  exact Lib.hid this
                have OA4 := Lib.hid (OA.out.keptApart g4 AAB.out)
                have AB4 := Lib.hid (From.apart f4 AAB.out.symm (fun g hg => (World.ownsRow.lt OA.out g hg).2)).symm
                have B4 := Lib.hid (HB.out.grown g4 HB.out.size (fun j hj => (World.ownsRow.lt OB.out j hj).1))
                clear o4 g4 f4
                go_wp2
                go_ret2
                rw [hp.out, ← hT2.out]
                exact ⟨_, _, rfl, OA4.out, OB4.out, AB4.out, B4.out⟩
              · rw [if_neg hc2] at hT2
                have q2 : ((nb : Int) + ((f + 1 : Nat) : Int) == 2) = false := by rw [beq_eq_false_iff_ne]; omega
                have RA := Lib.hid (rdS_ownsP OA.out)
                have RB := Lib.hid (rdS_ownsP OB.out)
                have RL := Lib.hid (rdS_ownsP OL.out)
                have hnr := nextV_range xl (boxesV xa) (boxesV xb) (fun h => by have := HLL.out; rw [h] at this; exact absurd this (by simp))
                obtain ⟨nx, hnx⟩ : ∃ nx, nextV xl (boxesV xa) (boxesV xb) = nx := ⟨_, rfl⟩
                rw [hnx] at hnr hT2
                obtain ⟨m, rfl⟩ := Int.eq_ofNat_of_zero_le hnr.1
                have hmf : m < f + 1 := by have := hnr.2; rw [HLL.out] at this; omega
                replace hT2 := Lib.hid hT2
                replace hnx := Lib.hid hnx
                have CN := fun V (bV : Below wr.heap.size wr V) => sNextOf_any al (f + 1) cl xl (boxesV xa) (boxesV xb) V (RL.out.below bV)
                rw [hnx.out] at CN
                replace CN := Lib.hid CN
                go_wp2_with fail
                refine (sBoxesOf_any aa na ca xa wr RA.out (by omega)).mono ?_
                rintro e w4 ⟨rfl, b4⟩
                go_wp2_with fail
                refine (sBoxesOf_any ab nb cb xb w4 (RB.out.below b4) (by omega)).mono ?_
                rintro e w5 ⟨rfl, b5⟩
                go_wp2_with fail
                refine (CN.out w5 (b4.trans (b5.mono b4.size))).mono ?_
                rintro e w6 ⟨rfl, b6⟩
                have b7 := (b4.trans (b5.mono b4.size)).trans (b6.mono (Nat.le_trans b4.size b5.size))
                clear b4 b5 b6 CN
                obtain ⟨lb, loff, u, hal, hlb, hu, d0, d1, d2, d3, d4⟩ := rdIt_at (RL.out.below b7) hmf
                have hg := getI_at hu
                have hT3 := hT2.out
                rw [hg] at hT3
                replace hT3 := Lib.hid hT3
                have CF := l10First_any aa ab na nb ca cb xa xb u w6 (RA.out.below b7) (RB.out.below b7) (by omega) (by omega)
                have z9 : (m : Int) < ((f + 1 : Nat) : Int) := by omega
                have z10 : (0 : Int) ≤ m := by omega
                subst hal
                have hln : Hid ((xl.take m ++ xl.drop (m + 1)).length = f) := Lib.hid (by rw [List.length_append, List.length_take, List.length_drop, HLL.out]; omega)
                cases hfv : firstV xa xb u with
                | true =>
                  rw [hfv] at CF
                  replace CF := Lib.hid CF
                  have hT4 := hT3.out
                  rw [if_pos hfv] at hT4
                  rw [Int.toNat_natCast] at hT4
                  replace hT4 := Lib.hid hT4
                  clear hfv
                  go_wp2_with fail
                  refine CF.out.mono ?_
                  rintro e w7 ⟨rfl, b8⟩
                  replace d0 := (b8.cell (p := ⟨lb, loff + m * 5, none⟩) hlb).trans d0
                  replace d1 := (b8.cell (p := ⟨lb, loff + m * 5 + 1, none⟩) hlb).trans d1
                  replace d2 := (b8.cell (p := ⟨lb, loff + m * 5 + 2, none⟩) hlb).trans d2
                  replace d3 := (b8.cell (p := ⟨lb, loff + m * 5 + 3, none⟩) hlb).trans d3
                  replace d4 := (b8.cell (p := ⟨lb, loff + m * 5 + 4, none⟩) hlb).trans d4
                  have b9 := b7.trans (b8.mono b7.size)
                  have hlb7 := Nat.lt_of_lt_of_le hlb b8.size
                  clear b7 b8 CF
                  have OA7 := Lib.hid (OA.out.below b9)
                  have OB7 := Lib.hid (OB.out.below b9)
                  have OL7 := Lib.hid (OL.out.below b9)
                  have B7 := Lib.hid (HB.out.trans (b9.mono HB.out.size))
                  clear b9 OA OB OL HB RA RB RL
                  go_wp2_with (at_builtin; refine wpList_append_new rfl (.tmp 91) (.tmp 96) 57 rfl w.heap.size 77 i0 _ 5 40 Tryz.underlying57 hi0.out hz0.out hz1.out hz2.out rfl (by decide) (.slice aa na ca) na (xa.flatMap itLay.cells) rfl (World.ownsRow.alloc (ownS_rowN OA7.out HA.out) (.cells #[.int .i64 u.id, .int .i64 u.x0, .int .i64 u.y0, .int .i64 u.x1, .int .i64 u.y1] 77)) (some ⟨w7.heap.size, 0, none⟩) 1 1 (itLay.cells u) rfl rfl (fun h => by cases h) ?_ (itLay.one u) ?_ ?_ ?_ ?_)
                  case refine_1 =>
                    intro p hp
                    cases hp
                    exact World.news_of_block (cs := #[.int .i64 u.id, .int .i64 u.x0, .int .i64 u.y0, .int .i64 u.x1, .int .i64 u.y1]) (t := 77) (fr := (0, 0)) (heap_alloc_new w7 _)
                  case refine_2 => unfold maxLen; omega
                  case refine_3 => omega
                  case refine_4 => have := B7.out.size; simp; omega
                  intro v8 w8 o8 g8 f8
                  obtain ⟨a8, c8, rfl⟩ := owns_shape o8
                  have b8 := new_below w7 (.cells #[.int .i64 u.id, .int .i64 u.x0, .int .i64 u.y0, .int .i64 u.x1, .int .i64 u.y1] 77)
                  have OB8 := Lib.hid ((OB7.out.below b8).keptApart g8 (AAB.out.symm))
                  have OL8 := Lib.hid ((OL7.out.below b8).keptApart g8 ALA.out)
                  have A8 := Lib.hid (From.apart f8 (AAB.out.symm).symm (fun g hg => (World.ownsRow.lt (OB7.out.below b8) g hg).2))
                  skip
                  have OA8 : Hid (OwnS itLay 77 w8 w.heap.size (.slice a8 (na + 1) c8) (xa ++ [u])) := by
                    have := o8
                    unfold OwnS
                    rw [List.length_append, HA.out, List.flatMap_append]
                    rw [show [u].flatMap itLay.cells = itLay.cells u by simp]
                    exact Lib.hid this
                  have HN8 : Hid ((xa ++ [u]).length = na + 1) := by
                    show _ = _
                    rw [List.length_append, HA.out]
                    rfl
                  have B8 := Lib.hid ((B7.out.alloc B7.out.size (.cells #[.int .i64 u.id, .int .i64 u.x0, .int .i64 u.y0, .int .i64 u.x1, .int .i64 u.y1] 77)).grown g8 (by have := B7.out.size; simp; omega) (fun j hj => (World.ownsRow.lt OA7.out j hj).1))
                  have hlb8 : lb < w8.heap.size := Nat.lt_of_lt_of_le hlb7 (Nat.le_trans b8.size g8.size)
                  clear o8 g8 f8 b8 OA7 OB7 OL7 B7 d0 d1 d2 d3 d4
                  have RL8 := Lib.hid (rdS_ownsP OL8.out)
                  have hcp := RL8.out.1.2.1
                  have BL := Lib.hid ((new_below w8 (.cells #[] 77)).trans (show Below w8.heap.size (w8.alloc (.cells #[] 77)) (w8.alloc (.cells #[] 77)).drew from (Below.refl _ _).drew))
                  have T8 := Lib.hid ((RL8.out.below BL.out).take m (by omega))
                  have Z8 := Lib.hid ((own_zero w8 w.heap.size B8.out.size).below (drew_below _))
                  have BD := Lib.hid (B8.out.trans (BL.out.mono B8.out.size))
                  have htl : (xl.take m).length = m := by rw [List.length_take, HLL.out]; omega
                  replace htl := Lib.hid htl
                  by_cases hcl : cl = m + 1
                  · obtain rfl : f = m := by omega
                    subst hcl
                    have y1 : (f : Int) ≤ (f : Int) + 1 := by omega
                    have y4 : (f : Int) + 1 ≤ (f : Int) + 1 := by omega
                    have y2 : IntKind.i64.wrap ((f : Int) + 1) = (f : Int) + 1 := by rw [IntKind.wrap_i64]; omega
                    have y3 : (0 : Int) ≤ (f : Int) + 1 := by omega
                    go_wp2_with fail
                    go_region_held3 (fun _ => True)
                      (trivial)
                      (first | (refine step_append_new rfl (.tmp 105) (.tmp 108) 57 rfl w.heap.size 77 i0 _ 5 40 Tryz.underlying57 hi0.out hz0.out hz1.out hz2.out rfl (by decide) (.slice (some ⟨w8.heap.size, 0, none⟩) 0 0) 0 (([] : List It).flatMap itLay.cells) rfl Z8.out (some ⟨lb, loff, none⟩) f (f + 1) ((xl.take f).flatMap itLay.cells) rfl (by rw [flat_len, htl.out]; rfl) (fun h => by cases h) T8.out.news (cells_one itLay _) (by unfold maxLen; omega) (by omega) (by have := BD.out.size; omega) ?_; intro v9 w9 o9' g9 f9; have o9 : w9.ownsRow w.heap.size 77 5 v9 f ((xl.take f).flatMap itLay.cells) := (by simpa using o9'); obtain ⟨a9, c9, rfl⟩ := owns_shape o9; have B9 := Lib.hid (BD.out.grown g9 BD.out.size (fun j hj => (World.ownsRow.lt Z8.out j hj).1)); have OL9 := Lib.hid ((OL8.out.below BL.out).keptApart g9 (ownS_blk OL8.out (Nat.le_refl _))); have R9 := Lib.hid (rdS_ownsP OL9.out)) | (refine step_append_new rfl (.tmp 109) (.tmp 113) 57 rfl w.heap.size 77 i0 _ 5 40 Tryz.underlying57 hi0.out hz0.out hz1.out hz2.out rfl (by decide) (.slice a9 f c9) f ((xl.take f).flatMap itLay.cells) rfl o9 (some ⟨lb, loff, none⟩) 0 0 (([] : List It).flatMap itLay.cells) rfl rfl (fun h => by cases h) (fun p hp j u hu => by simp at hu) (cells_one itLay _) (by unfold maxLen; omega) (by omega) B9.out.size ?_; intro v10 w10 o10 g10 f10; obtain ⟨a10, c10, rfl⟩ := owns_shape o10))
                    have OA9 := Lib.hid ((OA8.out.below BL.out).keptApart g9 (ownS_blk OA8.out (Nat.le_refl _)))
                    have OB9 := Lib.hid ((OB8.out.below BL.out).keptApart g9 (ownS_blk OB8.out (Nat.le_refl _)))
                    have F9 : From w8 (.slice none 0 0) (.slice a9 f c9) := fun g hg => .inr (by
                      rcases f9 g hg with h3 | h3
                      · have h4 : w8.heap.size = g := by simpa [Value.ownBlock] using h3
                        omega
                      · have := BL.out.size
                        omega)
                    have A9A : Apart (.slice a9 f c9) (.slice a8 (na + 1) c8) := F9.apart (fun g h3 _ => by cases h3) (fun g hg => (World.ownsRow.lt OA8.out g hg).2)
                    have A9B : Apart (.slice a9 f c9) (.slice ab nb cb) := F9.apart (fun g h3 _ => by cases h3) (fun g hg => (World.ownsRow.lt OB8.out g hg).2)
                    have OA10 := Lib.hid (OA9.out.keptApart g10 A9A.symm)
                    have OB10 := Lib.hid (OB9.out.keptApart g10 A9B.symm)
                    have ALA10 := Lib.hid (From.apart f10 A9A (fun g hg => (World.ownsRow.lt OA9.out g hg).2))
                    have ALB10 := Lib.hid (From.apart f10 A9B (fun g hg => (World.ownsRow.lt OB9.out g hg).2))
                    have B10 := Lib.hid (B9.out.grown g10 B9.out.size (fun j hj => (World.ownsRow.lt o9 j hj).1))
                    have hdr : Hid (xl.drop (f + 1) = []) := Lib.hid (List.drop_eq_nil_of_le (by rw [HLL.out]; omega))
                    have OL10 : Hid (OwnS itLay 77 w10 w.heap.size (.slice a10 f c10) (xl.take f ++ xl.drop (f + 1))) := by
                      have := o10
                      unfold OwnS
                      rw [hln.out, List.flatMap_append, hdr.out]
                      exact Lib.hid this
                    clear o10 g10 f10 g9 f9 o9 o9' F9 A9A A9B
                    go_wp2
                    go_roundw
                    case rel => exact ⟨a8, ab, a10, c8, cb, c10, na + 1, nb, f, _, xb, _, rfl, rfl, rfl, HN8, HBL, hln, by omega, hT4, OA10, OB10, OL10, A8, ALA10, ALB10, B10⟩
                    case measure => simp [lenOf]
                  · have y1 : (m : Int) ≤ (cl : Int) := by omega
                    have y4 : (m : Int) + 1 ≤ (f : Int) + 1 := by omega
                    have y4' : (m : Int) ≤ (f : Int) := by omega
                    have y5 : (f : Int) + 1 ≤ (cl : Int) := by omega
                    have y6 : ((f + 1 : Nat) : Int) ≤ (cl : Int) := by omega
                    have y7 : (m : Int) + 1 ≤ ((f + 1 : Nat) : Int) := by omega
                    have y2 : IntKind.i64.wrap ((m : Int) + 1) = (m : Int) + 1 := by rw [IntKind.wrap_i64]; omega
                    have y3 : (0 : Int) ≤ (m : Int) + 1 := by omega
                    go_wp2_with fail
                    go_region_held3 (fun _ => True)
                      (trivial)
                      (first | (refine step_append_new rfl (.tmp 105) (.tmp 108) 57 rfl w.heap.size 77 i0 _ 5 40 Tryz.underlying57 hi0.out hz0.out hz1.out hz2.out rfl (by decide) (.slice (some ⟨w8.heap.size, 0, none⟩) 0 0) 0 (([] : List It).flatMap itLay.cells) rfl Z8.out (some ⟨lb, loff, none⟩) m cl ((xl.take m).flatMap itLay.cells) rfl (by rw [flat_len, htl.out]; rfl) (fun h => by cases h) T8.out.news (cells_one itLay _) (by unfold maxLen; omega) (by omega) (by have := BD.out.size; omega) ?_; intro v9 w9 o9' g9 f9; have o9 : w9.ownsRow w.heap.size 77 5 v9 m ((xl.take m).flatMap itLay.cells) := (by simpa using o9'); obtain ⟨a9, c9, rfl⟩ := owns_shape o9; have B9 := Lib.hid (BD.out.grown g9 BD.out.size (fun j hj => (World.ownsRow.lt Z8.out j hj).1)); have OL9 := Lib.hid ((OL8.out.below BL.out).keptApart g9 (ownS_blk OL8.out (Nat.le_refl _))); have R9 := Lib.hid (rdS_ownsP OL9.out)) | (have D9 := drop_news R9.out hcl (by omega : m + 1 ≤ f + 1); refine step_append_new rfl (.tmp 109) (.tmp 113) 57 rfl w.heap.size 77 i0 _ 5 40 Tryz.underlying57 hi0.out hz0.out hz1.out hz2.out rfl (by decide) (.slice a9 m c9) m ((xl.take m).flatMap itLay.cells) rfl o9 (some ⟨lb, loff + (m + 1) * 5, none⟩) (f - m) (cl - (m + 1)) ((xl.drop (m + 1)).flatMap itLay.cells) rfl (by rw [flat_len, List.length_drop, HLL.out, Nat.add_sub_add_right]; rfl) (fun h => by cases h) D9 (cells_one itLay _) (by unfold maxLen; omega) (by omega) B9.out.size ?_; intro v10 w10 o10 g10 f10; rw [show m + (f - m) = f by omega] at o10; obtain ⟨a10, c10, rfl⟩ := owns_shape o10))
                    have OA9 := Lib.hid ((OA8.out.below BL.out).keptApart g9 (ownS_blk OA8.out (Nat.le_refl _)))
                    have OB9 := Lib.hid ((OB8.out.below BL.out).keptApart g9 (ownS_blk OB8.out (Nat.le_refl _)))
                    have F9 : From w8 (.slice none 0 0) (.slice a9 m c9) := fun g hg => .inr (by
                      rcases f9 g hg with h3 | h3
                      · have h4 : w8.heap.size = g := by simpa [Value.ownBlock] using h3
                        omega
                      · have := BL.out.size
                        omega)
                    have A9A : Apart (.slice a9 m c9) (.slice a8 (na + 1) c8) := F9.apart (fun g h3 _ => by cases h3) (fun g hg => (World.ownsRow.lt OA8.out g hg).2)
                    have A9B : Apart (.slice a9 m c9) (.slice ab nb cb) := F9.apart (fun g h3 _ => by cases h3) (fun g hg => (World.ownsRow.lt OB8.out g hg).2)
                    have OA10 := Lib.hid (OA9.out.keptApart g10 A9A.symm)
                    have OB10 := Lib.hid (OB9.out.keptApart g10 A9B.symm)
                    have ALA10 := Lib.hid (From.apart f10 A9A (fun g hg => (World.ownsRow.lt OA9.out g hg).2))
                    have ALB10 := Lib.hid (From.apart f10 A9B (fun g hg => (World.ownsRow.lt OB9.out g hg).2))
                    have B10 := Lib.hid (B9.out.grown g10 B9.out.size (fun j hj => (World.ownsRow.lt o9 j hj).1))
                    skip
                    have OL10 : Hid (OwnS itLay 77 w10 w.heap.size (.slice a10 f c10) (xl.take m ++ xl.drop (m + 1))) := by
                      have := o10
                      unfold OwnS
                      rw [hln.out, List.flatMap_append]
                      exact Lib.hid this
                    clear o10 g10 f10 g9 f9 o9 o9' F9 A9A A9B
                    go_wp2
                    go_roundw
                    case rel => exact ⟨a8, ab, a10, c8, cb, c10, na + 1, nb, f, _, xb, _, rfl, rfl, rfl, HN8, HBL, hln, by omega, hT4, OA10, OB10, OL10, A8, ALA10, ALB10, B10⟩
                    case measure => simp [lenOf]
                | false =>
                  rw [hfv] at CF
                  replace CF := Lib.hid CF
                  have hT4 := hT3.out
                  rw [if_neg (by rw [hfv]; exact Bool.false_ne_true)] at hT4
                  rw [Int.toNat_natCast] at hT4
                  replace hT4 := Lib.hid hT4
                  clear hfv
                  go_wp2_with fail
                  refine CF.out.mono ?_
                  rintro e w7 ⟨rfl, b8⟩
                  replace d0 := (b8.cell (p := ⟨lb, loff + m * 5, none⟩) hlb).trans d0
                  replace d1 := (b8.cell (p := ⟨lb, loff + m * 5 + 1, none⟩) hlb).trans d1
                  replace d2 := (b8.cell (p := ⟨lb, loff + m * 5 + 2, none⟩) hlb).trans d2
                  replace d3 := (b8.cell (p := ⟨lb, loff + m * 5 + 3, none⟩) hlb).trans d3
                  replace d4 := (b8.cell (p := ⟨lb, loff + m * 5 + 4, none⟩) hlb).trans d4
                  have b9 := b7.trans (b8.mono b7.size)
                  have hlb7 := Nat.lt_of_lt_of_le hlb b8.size
                  clear b7 b8 CF
                  have OA7 := Lib.hid (OA.out.below b9)
                  have OB7 := Lib.hid (OB.out.below b9)
                  have OL7 := Lib.hid (OL.out.below b9)
                  have B7 := Lib.hid (HB.out.trans (b9.mono HB.out.size))
                  clear b9 OA OB OL HB RA RB RL
                  go_wp2_with (at_builtin; refine wpList_append_new rfl (.tmp 98) (.tmp 103) 57 rfl w.heap.size 77 i0 _ 5 40 Tryz.underlying57 hi0.out hz0.out hz1.out hz2.out rfl (by decide) (.slice ab nb cb) nb (xb.flatMap itLay.cells) rfl (World.ownsRow.alloc (ownS_rowN OB7.out HBL.out) (.cells #[.int .i64 u.id, .int .i64 u.x0, .int .i64 u.y0, .int .i64 u.x1, .int .i64 u.y1] 77)) (some ⟨w7.heap.size, 0, none⟩) 1 1 (itLay.cells u) rfl rfl (fun h => by cases h) ?_ (itLay.one u) ?_ ?_ ?_ ?_)
                  case refine_1 =>
                    intro p hp
                    cases hp
                    exact World.news_of_block (cs := #[.int .i64 u.id, .int .i64 u.x0, .int .i64 u.y0, .int .i64 u.x1, .int .i64 u.y1]) (t := 77) (fr := (0, 0)) (heap_alloc_new w7 _)
                  case refine_2 => unfold maxLen; omega
                  case refine_3 => omega
                  case refine_4 => have := B7.out.size; simp; omega
                  intro v8 w8 o8 g8 f8
                  obtain ⟨a8, c8, rfl⟩ := owns_shape o8
                  have b8 := new_below w7 (.cells #[.int .i64 u.id, .int .i64 u.x0, .int .i64 u.y0, .int .i64 u.x1, .int .i64 u.y1] 77)
                  have OA8 := Lib.hid ((OA7.out.below b8).keptApart g8 (AAB.out))
                  have OL8 := Lib.hid ((OL7.out.below b8).keptApart g8 ALB.out)
                  have A8 := Lib.hid (From.apart f8 (AAB.out).symm (fun g hg => (World.ownsRow.lt (OA7.out.below b8) g hg).2))
                  skip
                  have OB8 : Hid (OwnS itLay 77 w8 w.heap.size (.slice a8 (nb + 1) c8) (xb ++ [u])) := by
                    have := o8
                    unfold OwnS
                    rw [List.length_append, HBL.out, List.flatMap_append]
                    rw [show [u].flatMap itLay.cells = itLay.cells u by simp]
                    exact Lib.hid this
                  have HN8 : Hid ((xb ++ [u]).length = nb + 1) := by
                    show _ = _
                    rw [List.length_append, HBL.out]
                    rfl
                  have B8 := Lib.hid ((B7.out.alloc B7.out.size (.cells #[.int .i64 u.id, .int .i64 u.x0, .int .i64 u.y0, .int .i64 u.x1, .int .i64 u.y1] 77)).grown g8 (by have := B7.out.size; simp; omega) (fun j hj => (World.ownsRow.lt OB7.out j hj).1))
                  have hlb8 : lb < w8.heap.size := Nat.lt_of_lt_of_le hlb7 (Nat.le_trans b8.size g8.size)
                  clear o8 g8 f8 b8 OA7 OB7 OL7 B7 d0 d1 d2 d3 d4
                  have RL8 := Lib.hid (rdS_ownsP OL8.out)
                  have hcp := RL8.out.1.2.1
                  have BL := Lib.hid ((new_below w8 (.cells #[] 77)).trans (show Below w8.heap.size (w8.alloc (.cells #[] 77)) (w8.alloc (.cells #[] 77)).drew from (Below.refl _ _).drew))
                  have T8 := Lib.hid ((RL8.out.below BL.out).take m (by omega))
                  have Z8 := Lib.hid ((own_zero w8 w.heap.size B8.out.size).below (drew_below _))
                  have BD := Lib.hid (B8.out.trans (BL.out.mono B8.out.size))
                  have htl : (xl.take m).length = m := by rw [List.length_take, HLL.out]; omega
                  replace htl := Lib.hid htl
                  by_cases hcl : cl = m + 1
                  · obtain rfl : f = m := by omega
                    subst hcl
                    have y1 : (f : Int) ≤ (f : Int) + 1 := by omega
                    have y4 : (f : Int) + 1 ≤ (f : Int) + 1 := by omega
                    have y2 : IntKind.i64.wrap ((f : Int) + 1) = (f : Int) + 1 := by rw [IntKind.wrap_i64]; omega
                    have y3 : (0 : Int) ≤ (f : Int) + 1 := by omega
                    go_wp2_with fail
                    go_region_held3 (fun _ => True)
                      (trivial)
                      (first | (refine step_append_new rfl (.tmp 105) (.tmp 108) 57 rfl w.heap.size 77 i0 _ 5 40 Tryz.underlying57 hi0.out hz0.out hz1.out hz2.out rfl (by decide) (.slice (some ⟨w8.heap.size, 0, none⟩) 0 0) 0 (([] : List It).flatMap itLay.cells) rfl Z8.out (some ⟨lb, loff, none⟩) f (f + 1) ((xl.take f).flatMap itLay.cells) rfl (by rw [flat_len, htl.out]; rfl) (fun h => by cases h) T8.out.news (cells_one itLay _) (by unfold maxLen; omega) (by omega) (by have := BD.out.size; omega) ?_; intro v9 w9 o9' g9 f9; have o9 : w9.ownsRow w.heap.size 77 5 v9 f ((xl.take f).flatMap itLay.cells) := (by simpa using o9'); obtain ⟨a9, c9, rfl⟩ := owns_shape o9; have B9 := Lib.hid (BD.out.grown g9 BD.out.size (fun j hj => (World.ownsRow.lt Z8.out j hj).1)); have OL9 := Lib.hid ((OL8.out.below BL.out).keptApart g9 (ownS_blk OL8.out (Nat.le_refl _))); have R9 := Lib.hid (rdS_ownsP OL9.out)) | (refine step_append_new rfl (.tmp 109) (.tmp 113) 57 rfl w.heap.size 77 i0 _ 5 40 Tryz.underlying57 hi0.out hz0.out hz1.out hz2.out rfl (by decide) (.slice a9 f c9) f ((xl.take f).flatMap itLay.cells) rfl o9 (some ⟨lb, loff, none⟩) 0 0 (([] : List It).flatMap itLay.cells) rfl rfl (fun h => by cases h) (fun p hp j u hu => by simp at hu) (cells_one itLay _) (by unfold maxLen; omega) (by omega) B9.out.size ?_; intro v10 w10 o10 g10 f10; obtain ⟨a10, c10, rfl⟩ := owns_shape o10))
                    have OA9 := Lib.hid ((OA8.out.below BL.out).keptApart g9 (ownS_blk OA8.out (Nat.le_refl _)))
                    have OB9 := Lib.hid ((OB8.out.below BL.out).keptApart g9 (ownS_blk OB8.out (Nat.le_refl _)))
                    have F9 : From w8 (.slice none 0 0) (.slice a9 f c9) := fun g hg => .inr (by
                      rcases f9 g hg with h3 | h3
                      · have h4 : w8.heap.size = g := by simpa [Value.ownBlock] using h3
                        omega
                      · have := BL.out.size
                        omega)
                    have A9A : Apart (.slice a9 f c9) (.slice aa na ca) := F9.apart (fun g h3 _ => by cases h3) (fun g hg => (World.ownsRow.lt OA8.out g hg).2)
                    have A9B : Apart (.slice a9 f c9) (.slice a8 (nb + 1) c8) := F9.apart (fun g h3 _ => by cases h3) (fun g hg => (World.ownsRow.lt OB8.out g hg).2)
                    have OA10 := Lib.hid (OA9.out.keptApart g10 A9A.symm)
                    have OB10 := Lib.hid (OB9.out.keptApart g10 A9B.symm)
                    have ALA10 := Lib.hid (From.apart f10 A9A (fun g hg => (World.ownsRow.lt OA9.out g hg).2))
                    have ALB10 := Lib.hid (From.apart f10 A9B (fun g hg => (World.ownsRow.lt OB9.out g hg).2))
                    have B10 := Lib.hid (B9.out.grown g10 B9.out.size (fun j hj => (World.ownsRow.lt o9 j hj).1))
                    have hdr : Hid (xl.drop (f + 1) = []) := Lib.hid (List.drop_eq_nil_of_le (by rw [HLL.out]; omega))
                    have OL10 : Hid (OwnS itLay 77 w10 w.heap.size (.slice a10 f c10) (xl.take f ++ xl.drop (f + 1))) := by
                      have := o10
                      unfold OwnS
                      rw [hln.out, List.flatMap_append, hdr.out]
                      exact Lib.hid this
                    clear o10 g10 f10 g9 f9 o9 o9' F9 A9A A9B
                    go_wp2
                    go_roundw
                    case rel => exact ⟨aa, a8, a10, ca, c8, c10, na, nb + 1, f, xa, _, _, rfl, rfl, rfl, HA, HN8, hln, by omega, hT4, OA10, OB10, OL10, (Lib.hid A8.out.symm), ALA10, ALB10, B10⟩
                    case measure => simp [lenOf]
                  · have y1 : (m : Int) ≤ (cl : Int) := by omega
                    have y4 : (m : Int) + 1 ≤ (f : Int) + 1 := by omega
                    have y4' : (m : Int) ≤ (f : Int) := by omega
                    have y5 : (f : Int) + 1 ≤ (cl : Int) := by omega
                    have y6 : ((f + 1 : Nat) : Int) ≤ (cl : Int) := by omega
                    have y7 : (m : Int) + 1 ≤ ((f + 1 : Nat) : Int) := by omega
                    have y2 : IntKind.i64.wrap ((m : Int) + 1) = (m : Int) + 1 := by rw [IntKind.wrap_i64]; omega
                    have y3 : (0 : Int) ≤ (m : Int) + 1 := by omega
                    go_wp2_with fail
                    go_region_held3 (fun _ => True)
                      (trivial)
                      (first | (refine step_append_new rfl (.tmp 105) (.tmp 108) 57 rfl w.heap.size 77 i0 _ 5 40 Tryz.underlying57 hi0.out hz0.out hz1.out hz2.out rfl (by decide) (.slice (some ⟨w8.heap.size, 0, none⟩) 0 0) 0 (([] : List It).flatMap itLay.cells) rfl Z8.out (some ⟨lb, loff, none⟩) m cl ((xl.take m).flatMap itLay.cells) rfl (by rw [flat_len, htl.out]; rfl) (fun h => by cases h) T8.out.news (cells_one itLay _) (by unfold maxLen; omega) (by omega) (by have := BD.out.size; omega) ?_; intro v9 w9 o9' g9 f9; have o9 : w9.ownsRow w.heap.size 77 5 v9 m ((xl.take m).flatMap itLay.cells) := (by simpa using o9'); obtain ⟨a9, c9, rfl⟩ := owns_shape o9; have B9 := Lib.hid (BD.out.grown g9 BD.out.size (fun j hj => (World.ownsRow.lt Z8.out j hj).1)); have OL9 := Lib.hid ((OL8.out.below BL.out).keptApart g9 (ownS_blk OL8.out (Nat.le_refl _))); have R9 := Lib.hid (rdS_ownsP OL9.out)) | (have D9 := drop_news R9.out hcl (by omega : m + 1 ≤ f + 1); refine step_append_new rfl (.tmp 109) (.tmp 113) 57 rfl w.heap.size 77 i0 _ 5 40 Tryz.underlying57 hi0.out hz0.out hz1.out hz2.out rfl (by decide) (.slice a9 m c9) m ((xl.take m).flatMap itLay.cells) rfl o9 (some ⟨lb, loff + (m + 1) * 5, none⟩) (f - m) (cl - (m + 1)) ((xl.drop (m + 1)).flatMap itLay.cells) rfl (by rw [flat_len, List.length_drop, HLL.out, Nat.add_sub_add_right]; rfl) (fun h => by cases h) D9 (cells_one itLay _) (by unfold maxLen; omega) (by omega) B9.out.size ?_; intro v10 w10 o10 g10 f10; rw [show m + (f - m) = f by omega] at o10; obtain ⟨a10, c10, rfl⟩ := owns_shape o10))
                    have OA9 := Lib.hid ((OA8.out.below BL.out).keptApart g9 (ownS_blk OA8.out (Nat.le_refl _)))
                    have OB9 := Lib.hid ((OB8.out.below BL.out).keptApart g9 (ownS_blk OB8.out (Nat.le_refl _)))
                    have F9 : From w8 (.slice none 0 0) (.slice a9 m c9) := fun g hg => .inr (by
                      rcases f9 g hg with h3 | h3
                      · have h4 : w8.heap.size = g := by simpa [Value.ownBlock] using h3
                        omega
                      · have := BL.out.size
                        omega)
                    have A9A : Apart (.slice a9 m c9) (.slice aa na ca) := F9.apart (fun g h3 _ => by cases h3) (fun g hg => (World.ownsRow.lt OA8.out g hg).2)
                    have A9B : Apart (.slice a9 m c9) (.slice a8 (nb + 1) c8) := F9.apart (fun g h3 _ => by cases h3) (fun g hg => (World.ownsRow.lt OB8.out g hg).2)
                    have OA10 := Lib.hid (OA9.out.keptApart g10 A9A.symm)
                    have OB10 := Lib.hid (OB9.out.keptApart g10 A9B.symm)
                    have ALA10 := Lib.hid (From.apart f10 A9A (fun g hg => (World.ownsRow.lt OA9.out g hg).2))
                    have ALB10 := Lib.hid (From.apart f10 A9B (fun g hg => (World.ownsRow.lt OB9.out g hg).2))
                    have B10 := Lib.hid (B9.out.grown g10 B9.out.size (fun j hj => (World.ownsRow.lt o9 j hj).1))
                    skip
                    have OL10 : Hid (OwnS itLay 77 w10 w.heap.size (.slice a10 f c10) (xl.take m ++ xl.drop (m + 1))) := by
                      have := o10
                      unfold OwnS
                      rw [hln.out, List.flatMap_append]
                      exact Lib.hid this
                    clear o10 g10 f10 g9 f9 o9 o9' F9 A9A A9B
                    go_wp2
                    go_roundw
                    case rel => exact ⟨aa, a8, a10, ca, c8, c10, na, nb + 1, f, xa, _, _, rfl, rfl, rfl, HA, HN8, hln, by omega, hT4, OA10, OB10, OL10, (Lib.hid A8.out.symm), ALA10, ALB10, B10⟩
                    case measure => simp [lenOf]
end Go.Proofs.YtfefggcfeppeiaaGreat

/- The model's Split. -/
namespace Go.Proofs.YtfefggcfeppeiaaGreat
open Go.RowKit
attribute [local go_sem ↓] Go.wp_at_zero Go.wp_at_succ

/-- Two nodes in new memory, apart. -/
def TwoNodes (lf : Bool) (w : World) (p : List It × List It) (e : Ending) (w' : World) : Prop := ∃ v1 v2, e = .returned (.tuple #[.agg #[.bool lf, v1], .agg #[.bool lf, v2]]) ∧ OwnS itLay 77 w' w.heap.size v1 p.1 ∧ OwnS itLay 77 w' w.heap.size v2 p.2 ∧ Apart v1 v2 ∧ Below w.heap.size w w'

set_option maxRecDepth 100000 in
set_option maxHeartbeats 1600000 in
theorem sSplit_any (lf : Bool) (la : Option Addr) (n cap : Nat) (xs : List It) (w : World) (h : RdS itLay w la n cap xs) (hn : n ≤ 1048576) :
    Calls Tryz.prog 103 #[.agg #[.bool lf, .slice la n cap]] w (TwoNodes lf w (partedV xs)) := by
  obtain ⟨W0, hW0⟩ : ∃ W0, W0 = ((w.alloc (.cells #[.bool lf, .slice la n cap] 59)).alloc (.cells #[.bool false, .slice none 0 0] 59)).alloc (.cells #[.bool false, .slice none 0 0] 59) := ⟨_, rfl⟩
  have B0 : Below w.heap.size w W0 := by subst hW0; exact (((Below.refl _ _).alloc (Nat.le_refl _) _).alloc (by simp) _).alloc (by simp; omega) _
  have K0 : Loc W0 w.heap.size #[.bool lf, .slice la n cap] := by subst hW0; exact ((Loc.new w _ _).alloc _).alloc _
  have K1 : Loc W0 (w.heap.size + 1) #[.bool false, .slice none 0 0] := by
    subst hW0
    have := (Loc.new (w.alloc (.cells #[.bool lf, .slice la n cap] 59)) #[.bool false, .slice none 0 0] 59).alloc (.cells #[.bool false, .slice none 0 0] 59)
    rw [show (w.alloc (.cells #[.bool lf, .slice la n cap] 59)).heap.size = w.heap.size + 1 by simp] at this
    exact this
  have K2 : Loc W0 (w.heap.size + 1 + 1) #[.bool false, .slice none 0 0] := by
    subst hW0
    have := Loc.new ((w.alloc (.cells #[.bool lf, .slice la n cap] 59)).alloc (.cells #[.bool false, .slice none 0 0] 59)) #[.bool false, .slice none 0 0] 59
    rw [show ((w.alloc (.cells #[.bool lf, .slice la n cap] 59)).alloc (.cells #[.bool false, .slice none 0 0] 59)).heap.size = w.heap.size + 1 + 1 by simp] at this
    exact this
  have C := Lib.hid (sParted_any la n cap xs W0 (h.below B0) hn)
  have s0 : W0.heap.size = w.heap.size + 1 + 1 + 1 := by subst hW0; simp
  have k0 := K0.2.1 0
  have k1 := K0.2.1 1
  simp at k0 k1
  clear h
  go_enter Tryz.func103, Tryz.ntmps103
  go_wp2_with fail
  rw [← hW0]
  clear hW0
  refine C.out.mono ?_
  rintro e w1 ⟨v1, v2, rfl, o1, o2, ha, b1⟩
  obtain ⟨a1, c1, rfl, -⟩ := o1.rd
  obtain ⟨a2, c2, rfl, -⟩ := o2.rd
  have HO1 := Lib.hid o1
  have HO2 := Lib.hid o2
  have HA := Lib.hid ha
  have HB := Lib.hid (B0.trans (b1.mono B0.size))
  obtain ⟨-, j0, -⟩ := K0.below b1
  obtain ⟨hs1, m0, f0⟩ := K1.below b1
  obtain ⟨hs2, m1, f1⟩ := K2.below b1
  have i0 := j0 0
  have i1 := j0 1
  simp at i0 i1
  clear o1 o2 ha b1 C K0 K1 K2 k0 k1 B0 j0
  have q01 : w.heap.size ≠ w.heap.size + 1 := by omega
  have q02 : w.heap.size ≠ w.heap.size + 1 + 1 := by omega
  have q12 : w.heap.size + 1 ≠ w.heap.size + 1 + 1 := by omega
  go_wp2_with fail
  go_big_region
  obtain ⟨W2, hW2⟩ : ∃ W2, W2 = (((w1.setCell ⟨w.heap.size + 1, 0, none⟩ (.bool lf)).setCell ⟨w.heap.size + 1, 1, none⟩ (.slice a1 (partedV xs).1.length c1)).setCell ⟨w.heap.size + 1 + 1, 0, none⟩ (.bool lf)).setCell ⟨w.heap.size + 1 + 1, 1, none⟩ (.slice a2 (partedV xs).2.length c2) := ⟨_, rfl⟩
  rw [← hW2]
  have L1 : Loc W2.drew (w.heap.size + 1) #[.bool lf, .slice a1 (partedV xs).1.length c1] := by
    rw [hW2]
    exact ((((Loc.set (cs := #[.bool false, .slice none 0 0]) ⟨hs1, m0, f0⟩ 0 (.bool lf) (by simp)).set 1 (.slice a1 (partedV xs).1.length c1) (by simp)).other 0 _ (Ne.symm q12)).other 1 _ (Ne.symm q12)).drew
  have L2 : Loc W2.drew (w.heap.size + 1 + 1) #[.bool lf, .slice a2 (partedV xs).2.length c2] := by
    rw [hW2]
    exact (((((Loc.other (cs := #[.bool false, .slice none 0 0]) ⟨hs2, m1, f1⟩ 0 (.bool lf) q12).other 1 (.slice a1 (partedV xs).1.length c1) q12)).set 0 (.bool lf) (by simp)).set 1 (.slice a2 (partedV xs).2.length c2) (by simp)).drew
  have P : ∀ (v : Value) (ys : List It), OwnS itLay 77 w1 W0.heap.size v ys → OwnS itLay 77 W2.drew w.heap.size v ys := fun v ys h => by
    rw [hW2]
    exact OwnS.mono (OwnS.below (ownS_set2 (ownS_set2 (ownS_set2 (ownS_set2 h (by omega) _ _) (by omega) _ _) (by omega) _ _) (by omega) _ _) (drew_below _)) (by omega)
  have BB : Below w.heap.size w W2.drew := by
    rw [hW2]
    exact ((((HB.out.setCell (p := ⟨w.heap.size + 1, 0, none⟩) (show w.heap.size ≤ w.heap.size + 1 by omega) _).setCell (p := ⟨w.heap.size + 1, 1, none⟩) (show w.heap.size ≤ w.heap.size + 1 by omega) _).setCell (p := ⟨w.heap.size + 1 + 1, 0, none⟩) (show w.heap.size ≤ w.heap.size + 1 + 1 by omega) _).setCell (p := ⟨w.heap.size + 1 + 1, 1, none⟩) (show w.heap.size ≤ w.heap.size + 1 + 1 by omega) _).drew
  have P1 := Lib.hid (P _ _ HO1.out)
  have P2 := Lib.hid (P _ _ HO2.out)
  have l1 := L1.2.1
  have l2 := L2.2.1
  clear hW2 P m0 m1 f0 f1 HO1 HO2 hs1 hs2 i0 i1
  go_wp2
  refine bodyPost_ret (v := .tuple #[.agg #[.bool lf, .slice a1 (partedV xs).1.length c1], .agg #[.bool lf, .slice a2 (partedV xs).2.length c2]]) (by simp [results, Tryz.results103, go_sem, l1, l2]) rfl ?_
  exact ⟨_, _, rfl, P1.out, P2.out, HA.out, BB⟩
end Go.Proofs.YtfefggcfeppeiaaGreat

/- What parts a list is dealt out to: how long, and of what. -/
namespace Go.Proofs.YtfefggcfeppeiaaGreat
open Go.RowKit

theorem getI_all {P : It → Prop} (h0 : P zeroIt) {xs : List It} (h : ∀ x ∈ xs, P x) (i : Int) : P (getI xs i) := by
  unfold getI
  cases e : xs[i.toNat]? with
  | none => exact h0
  | some x => exact h x (List.mem_of_getElem? e)
theorem partL_all {P : It → Prop} (h0 : P zeroIt) : ∀ (f : Nat) (left a b : List It), (∀ x ∈ left, P x) → (∀ x ∈ a, P x) → (∀ x ∈ b, P x) → (∀ x ∈ (partL f left a b).1, P x) ∧ ∀ x ∈ (partL f left a b).2, P x
  | 0, left, a, b, _, ha, hb => ⟨ha, hb⟩
  | f + 1, left, a, b, hl, ha, hb => by
    have app : ∀ (u v : List It), (∀ x ∈ u, P x) → (∀ x ∈ v, P x) → ∀ x ∈ u ++ v, P x := fun u v hu hv x hx => (List.mem_append.1 hx).elim (hu x) (hv x)
    have one : ∀ (y : It), P y → ∀ x ∈ [y], P x := fun y hy x hx => by rw [List.mem_singleton.1 hx]; exact hy
    unfold partL
    split
    · exact ⟨ha, hb⟩
    split
    · exact ⟨app _ _ ha hl, hb⟩
    split
    · exact ⟨ha, app _ _ hb hl⟩
    have hl2 : ∀ k : Nat, ∀ x ∈ left.take k ++ left.drop (k + 1), P x := fun k => app _ _ (fun x hx => hl x (List.mem_of_mem_take hx)) (fun x hx => hl x (List.mem_of_mem_drop hx))
    split
    · exact partL_all h0 f _ _ _ (hl2 _) (app _ _ ha (one _ (getI_all h0 hl _))) hb
    · exact partL_all h0 f _ _ _ (hl2 _) ha (app _ _ hb (one _ (getI_all h0 hl _)))
theorem leftV_all {P : It → Prop} (h0 : P zeroIt) {xs : List It} (h : ∀ x ∈ xs, P x) (i k : Nat) : ∀ x ∈ leftV xs i k, P x := by
  intro x hx
  obtain ⟨j, _, rfl⟩ := List.mem_map.1 hx
  exact getI_all h0 h _
theorem partedV_all {P : It → Prop} (h0 : P zeroIt) {xs : List It} (h : ∀ x ∈ xs, P x) : (∀ x ∈ (partedV xs).1, P x) ∧ ∀ x ∈ (partedV xs).2, P x := by
  unfold partedV
  split
  · exact ⟨h, fun x hx => by cases hx⟩
  · have one : ∀ (y : It), P y → ∀ x ∈ [y], P x := fun y hy x hx => by rw [List.mem_singleton.1 hx]; exact hy
    exact partL_all h0 _ _ _ _ (leftV_all h0 h _ _) (one _ (getI_all h0 h _)) (one _ (getI_all h0 h _))
theorem partL_len : ∀ (f : Nat) (left a b : List It), (partL f left a b).1.length + (partL f left a b).2.length ≤ a.length + b.length + left.length
  | 0, left, a, b => by show a.length + b.length ≤ _; omega
  | f + 1, left, a, b => by
    unfold partL
    split
    · show a.length + b.length ≤ _; omega
    split
    · show (a ++ left).length + b.length ≤ _; rw [List.length_append]; omega
    split
    · show a.length + (b ++ left).length ≤ _; rw [List.length_append]; omega
    rename_i h0 _ _
    have hne : left ≠ [] := fun e => h0 (by rw [e]; rfl)
    obtain ⟨h1, h2⟩ := nextV_range left (boxesV a) (boxesV b) hne
    generalize nextV left (boxesV a) (boxesV b) = nx at h1 h2
    have hl : (left.take nx.toNat ++ left.drop (nx.toNat + 1)).length + 1 = left.length := by
      rw [List.length_append, List.length_take, List.length_drop]
      omega
    split
    · have := partL_len f (left.take nx.toNat ++ left.drop (nx.toNat + 1)) (a ++ [getI left nx]) b
      rw [List.length_append, List.length_singleton] at this
      omega
    · have := partL_len f (left.take nx.toNat ++ left.drop (nx.toNat + 1)) a (b ++ [getI left nx])
      rw [List.length_append, List.length_singleton] at this
      omega
theorem partedV_len (xs : List It) : (partedV xs).1.length + (partedV xs).2.length ≤ xs.length + 2 := by
  unfold partedV
  split
  · simp
  · have h := partL_len (leftV xs (seedsV xs).1 (seedsV xs).2).length (leftV xs (seedsV xs).1 (seedsV xs).2) [getI xs (seedsV xs).1] [getI xs (seedsV xs).2]
    have h2 : (leftV xs (seedsV xs).1 (seedsV xs).2).length ≤ xs.length := by
      unfold leftV
      rw [List.length_map]
      refine Nat.le_trans (List.length_filter_le _ _) ?_
      rw [List.length_range]
      exact Nat.le_refl _
    simp only [List.length_singleton] at h
    omega
end Go.Proofs.YtfefggcfeppeiaaGreat

/- The model's l11Part: a page that has too many is parted, in the book that a pointer leads to. -/
namespace Go.Proofs.YtfefggcfeppeiaaGreat
open Go.RowKit
attribute [local go_sem ↓] Go.wp_at_zero Go.wp_at_succ

/-- The book in the block q: its pages are read. -/
structure BookAt (w : World) (q : Nat) (root : Int) (l : List Pg) (a : Option Addr) (n cap : Nat) (ps : List PgV) : Prop where
  loc : Loc w q #[.int .i64 root, .slice a n cap]
  tag : TagT 26 w q
  rd : RdP w a n cap ps
  eq : ps.map PgV.pg = l
/-- What P reads lies outside the blocks of Z. -/
def Off (w : World) (Z : Nat → Prop) (P : World → Prop) : Prop := ∀ W : World, (∀ k, k < w.heap.size → ¬ Z k → W.heap[k]? = w.heap[k]?) → P W
theorem Off.keep {w w' : World} {Z Z' : Nat → Prop} {P : World → Prop} (h : Off w Z P) (hs : w.heap.size ≤ w'.heap.size) (hZ : ∀ k, k < w.heap.size → Z' k → Z k) (hb : ∀ k, k < w.heap.size → ¬ Z k → w'.heap[k]? = w.heap[k]?) : Off w' Z' P :=
  fun W hW => h W (fun k hk hz => (hW k (by omega) (fun e => hz (hZ k hk e))).trans (hb k hk hz))
theorem Off.self {w : World} {Z : Nat → Prop} {P : World → Prop} (h : Off w Z P) : P w := h w (fun _ _ _ => rfl)
theorem OwnP.off {w : World} {base n cap : Nat} {a : Option Addr} {ps : List PgV} (h : OwnP w base (.slice a n cap) ps) {Z : Nat → Prop} (hz : ∀ k, Z k → k < base) : Off w Z (fun W => RdP W a n cap ps) :=
  fun W hW => (h.frame w W (fun k h1 h2 => hW k h2 (fun e => by have := hz k e; omega)) h).rd
/-- A book's pages: they are read; or (from B on) they are owned. -/
def Bk : Option Nat → World → Option Addr → Nat → Nat → List PgV → Prop
  | none, W, a, n, cap, ps => RdP W a n cap ps
  | some B, W, a, n, cap, ps => OwnP W B (.slice a n cap) ps
theorem OwnP.offB {w : World} {base n cap : Nat} {a : Option Addr} {ps : List PgV} (h : OwnP w base (.slice a n cap) ps) (o : Option Nat) (ho : ∀ B, o = some B → B ≤ base) {Z : Nat → Prop} (hz : ∀ k, Z k → k < base) : Off w Z (fun W => Bk o W a n cap ps) := by
  cases o with
  | none => exact h.off hz
  | some B => exact fun W hW => OwnP.mono (h.frame w W (fun k h1 h2 => hW k h2 (fun e => by have := hz k e; omega)) h) (ho B rfl)
/-- What a function leaves that writes a new book into the block q: the new one reads no block that the old one left alone; it is owned if the old one was. -/
def NewAt (w : World) (q : Nat) (root : Int) (a0 : Option Addr) (n0 cap0 : Nat) (ps0 : List PgV) (l : List Pg) (w' : World) : Prop :=
  ∃ a n cap ps, BookAt w' q root l a n cap ps ∧ w.grownBy w' (some q) ∧ ∀ o : Option Nat, (∀ B, o = some B → B ≤ w.heap.size) → ∀ Z : Nat → Prop, (∀ k, Z k → k < w.heap.size) → Off w Z (fun W => Bk o W a0 n0 cap0 ps0) → Off w' Z (fun W => Bk o W a n cap ps)
/-- The parted page's book, and the entry of the new page. -/
def partV (l : List Pg) (i : Int) : List Pg × It × Bool :=
  if (allocV l).2 < 0 then (l, zeroIt, false)
  else (putV (putV (allocV l).1 i ⟨true, (pageAt l i).leaf, (partedV (pageAt l i).xs).1⟩) (allocV l).2 ⟨true, (pageAt l i).leaf, (partedV (pageAt l i).xs).2⟩,
    ⟨(allocV l).2, (boxesV (partedV (pageAt l i).xs).2).x0, (boxesV (partedV (pageAt l i).xs).2).y0, (boxesV (partedV (pageAt l i).xs).2).x1, (boxesV (partedV (pageAt l i).xs).2).y1⟩, true)

theorem totG_cap : ∀ (l : List Pg) {B : Nat}, (∀ p ∈ l, p.xs.length ≤ B) → totG l ≤ l.length * B
  | [], _, _ => Nat.zero_le _
  | p :: l, B, h => by
    have h1 := totG_cap l (fun p hp => h p (List.mem_cons_of_mem _ hp))
    have h2 := h p List.mem_cons_self
    show p.xs.length + totG l ≤ (l.length + 1) * B
    rw [Nat.add_mul, Nat.one_mul]
    omega
theorem allocV_idx (l : List Pg) : (allocV l).2 ≤ (l.length : Int) := by
  unfold allocV
  split
  · rename_i i h
    have := (List.findIdx?_eq_some_iff_findIdx_eq.1 h).1
    show (i : Int) ≤ _
    omega
  · split
    · show (-1 : Int) ≤ _
      omega
    · exact Int.le_refl _
theorem BookAt.keep {w w' : World} {q : Nat} {root : Int} {l : List Pg} {a : Option Addr} {n cap : Nat} {ps : List PgV} (h : BookAt w q root l a n cap ps) (hb : Below w.heap.size w w') : BookAt w' q root l a n cap ps :=
  ⟨h.loc.below hb, h.tag.of (hb.block q h.loc.1), h.rd.below hb, h.eq⟩

set_option maxRecDepth 100000 in
set_option maxHeartbeats 3200000 in
theorem l11Part_any (q : Nat) (root i : Int) (l : List Pg) (a : Option Addr) (n cap : Nat) (ps : List PgV) (w : World) (h : BookAt w q root l a n cap ps) (hi : 0 ≤ i ∧ i < n) (hn : n ≤ 1000) (hps : ∀ p ∈ ps, p.n ≤ 1048576) :
    Calls Tryz.prog 97 #[.pointer (some ⟨q, 0, none⟩), .int .i64 i] w fun e w' => e = .returned (.tuple #[.agg #[.int .i64 (partV l i).2.1.id, .int .i64 (partV l i).2.1.x0, .int .i64 (partV l i).2.1.y0, .int .i64 (partV l i).2.1.x1, .int .i64 (partV l i).2.1.y1], .bool (partV l i).2.2]) ∧ NewAt w q root a n cap ps (partV l i).1 w' := by
  obtain ⟨h0, h1⟩ := hi
  obtain ⟨m, rfl⟩ := Int.eq_ofNat_of_zero_le h0
  have hmn : m < n := by omega
  have HL := Lib.hid h.rd.1.1.1
  have hnc := h.rd.1.1.2.1
  have hm := h.rd.1.1.2.2.1
  unfold maxLen at hm
  obtain ⟨W0, hW0⟩ : ∃ W0, W0 = w.alloc (.cells #[.int .i64 0, .int .i64 0, .int .i64 0, .int .i64 0, .int .i64 0] 77) := ⟨_, rfl⟩
  have B0 : Below w.heap.size w W0 := by subst hW0; exact new_below w _
  have Z0 : Loc W0 w.heap.size #[.int .i64 0, .int .i64 0, .int .i64 0, .int .i64 0, .int .i64 0] := by subst hW0; exact Loc.new w _ _
  have s0 := B0.size
  have K0 := h.loc.below B0
  have R0 := Lib.hid (h.rd.below B0)
  obtain ⟨b, off, p, rfl, hbl, hp, hrd', d0, d1, d2⟩ := rdP_at h.rd hmn
  have hrd := hrd'.below B0
  have hpa : pageAt l m = p.pg := by rw [← h.eq]; exact pageAt_yes hp
  have hpn := hps p (List.mem_of_getElem? hp)
  have C := sSplit_any p.leaf p.a p.n p.cap p.xs W0 hrd hpn
  have hlen := partedV_len p.xs
  have hpxl := hrd.1.1
  obtain ⟨⟨xa, xb⟩, hpr⟩ : ∃ pr, partedV p.xs = pr := ⟨_, rfl⟩
  rw [hpr] at C hlen
  replace C := Lib.hid C
  have hxa : xa.length ≤ 1099511627776 := by have : xa.length + xb.length ≤ p.xs.length + 2 := hlen; omega
  have hxb : xb.length ≤ 1099511627776 := by have : xa.length + xb.length ≤ p.xs.length + 2 := hlen; omega
  have hxal : xa.length ≤ 1048578 := by have : xa.length + xb.length ≤ p.xs.length + 2 := hlen; omega
  obtain ⟨nl, hnl⟩ : ∃ nl, allocV l = nl := ⟨_, rfl⟩
  have hpv : partV l m = if nl.2 < 0 then (l, zeroIt, false) else (putV (putV nl.1 m ⟨true, p.leaf, xa⟩) nl.2 ⟨true, p.leaf, xb⟩, ⟨nl.2, (boxesV xb).x0, (boxesV xb).y0, (boxesV xb).x1, (boxesV xb).y1⟩, true) := by
    unfold partV
    rw [hpa, show p.pg.xs = p.xs from rfl, show p.pg.leaf = p.leaf from rfl, hpr, hnl]
  obtain ⟨res, hres⟩ : ∃ res, partV l m = res := ⟨_, rfl⟩
  rw [hres] at hpv
  rw [hres]
  have HB := Lib.hid h
  have k0 := h.loc.2.1 0
  have k1 := h.loc.2.1 1
  simp at k0 k1
  have z1 : (m : Int) < n := h1
  have hqw := h.loc.1
  replace hpv := Lib.hid hpv
  clear h hrd hp hrd' hres hpr hlen hpxl hpa
  go_enter Tryz.func97, Tryz.ntmps97
  go_wp2_with fail
  rw [← hW0]
  clear hW0
  refine C.out.mono ?_
  rintro e w1 ⟨v1, v2, rfl, o1, o2, ha, b1⟩
  obtain ⟨a1, c1, rfl, -⟩ := o1.rd
  obtain ⟨a2, c2, rfl, -⟩ := o2.rd
  have s1 := b1.size
  have K1 := Lib.hid (K0.below b1)
  have R1 := Lib.hid (R0.out.below b1)
  have Z1 := Lib.hid (Z0.below b1)
  have B1 := Lib.hid (B0.trans (b1.mono B0.size))
  have O1 : Hid (OwnS itLay 77 w1 W0.heap.size (.slice a1 xa.length c1) xa) := Lib.hid o1
  have O2 : Hid (OwnS itLay 77 w1 W0.heap.size (.slice a2 xb.length c2) xb) := Lib.hid o2
  clear o1 o2 ha b1 C K0 R0 Z0 B0 k0 k1 d0 d1 d2
  have k0 := K1.out.2.1 0
  have k1 := K1.out.2.1 1
  simp at k0 k1
  have hq1 := K1.out.1
  obtain ⟨W2, hW2⟩ : ∃ W2, W2 = (w1.alloc (.cells #[.bool p.leaf, .slice a1 xa.length c1] 59)).alloc (.cells #[.bool p.leaf, .slice a2 xb.length c2] 59) := ⟨_, rfl⟩
  have b2 : Below w1.heap.size w1 W2 := by subst hW2; exact ((Below.refl _ _).alloc (Nat.le_refl _) _).alloc (by simp) _
  obtain ⟨qx, hqx⟩ : ∃ qx, qx = w1.heap.size := ⟨_, rfl⟩
  obtain ⟨qy, hqy⟩ : ∃ qy, qy = w1.heap.size + 1 := ⟨_, rfl⟩
  have KX : Loc W2 qx #[.bool p.leaf, .slice a1 xa.length c1] := by subst hW2; subst hqx; exact (Loc.new w1 _ _).alloc _
  have KY : Loc W2 qy #[.bool p.leaf, .slice a2 xb.length c2] := by
    subst hW2
    subst hqy
    have := Loc.new (w1.alloc (.cells #[.bool p.leaf, .slice a1 xa.length c1] 59)) #[.bool p.leaf, .slice a2 xb.length c2] 59
    rw [show (w1.alloc (.cells #[.bool p.leaf, .slice a1 xa.length c1] 59)).heap.size = w1.heap.size + 1 by simp] at this
    exact this
  have CA := sAlloc_any root (some ⟨b, off, none⟩) n cap ps W2 (R1.out.below b2) (by omega) (fun p hp => Nat.le_trans (hps p hp) (by decide))
  rw [show ps.map PgV.pg = l from HB.out.eq, hnl] at CA
  replace CA := Lib.hid CA
  have K2 := Lib.hid (K1.out.below b2)
  have Z2 := Lib.hid (Z1.out.below b2)
  have B2 := Lib.hid (B1.out.trans (b2.mono B1.out.size))
  have P1 := Lib.hid (O1.out.below b2)
  have P2 := Lib.hid (O2.out.below b2)
  replace KX := Lib.hid KX
  replace KY := Lib.hid KY
  replace hnl := Lib.hid hnl
  clear O1 O2 K1 Z1 B1 R1 b2
  have hqqy : q < qy := by omega
  replace hqx := Lib.hid hqx
  replace hqy := Lib.hid hqy
  go_wp2_with fail
  rw [← hW2, ← hqy.out, ← hqx.out]
  clear hW2 hqx hqy k0 k1
  refine CA.out.mono ?_
  rintro e w3 ⟨v3, qs, rfl, eqs, o3, b3⟩
  obtain ⟨a3, c3, rfl⟩ := o3.shape
  have s3 := b3.size
  have K3 := Lib.hid (K2.out.below b3)
  have Z3 := Lib.hid (Z2.out.below b3)
  have X3 := Lib.hid (KX.out.below b3)
  have Y3 := Lib.hid (KY.out.below b3)
  have B3 := Lib.hid (B2.out.trans (b3.mono B2.out.size))
  have P13 := Lib.hid (P1.out.below b3)
  have P23 := Lib.hid (P2.out.below b3)
  have Q3 := Lib.hid o3
  have E3 := Lib.hid (show qs.map PgV.pg = nl.1 from eqs)
  clear o3 b3 eqs CA K2 Z2 KX KY B2 P1 P2
  obtain ⟨-, y0, yf⟩ := Z3.out
  have hz3 := Z3.out.1
  by_cases hneg : nl.2 < 0
  · have hr : Hid (res = (l, zeroIt, false)) := Lib.hid (by rw [hpv.out, if_pos hneg])
    go_wp2_with fail
    obtain ⟨WF, hWF⟩ : ∃ WF, WF = ((((((w3.setCell ⟨w.heap.size, 0, none⟩ (.int .i64 0)).setCell ⟨w.heap.size, 1, none⟩ (.int .i64 0)).setCell ⟨w.heap.size, 2, none⟩ (.int .i64 0)).setCell ⟨w.heap.size, 3, none⟩ (.int .i64 0)).setCell ⟨w.heap.size, 4, none⟩ (.int .i64 0)).alloc (.cells #[.int .i64 root, .slice a3 qs.length c3] 26)) := ⟨_, rfl⟩
    have BF : Below w.heap.size w WF := by
      rw [hWF]
      exact (((((B3.out.setCell (p := ⟨w.heap.size, 0, none⟩) (Nat.le_refl _) _).setCell (p := ⟨w.heap.size, 1, none⟩) (Nat.le_refl _) _).setCell (p := ⟨w.heap.size, 2, none⟩) (Nat.le_refl _) _).setCell (p := ⟨w.heap.size, 3, none⟩) (Nat.le_refl _) _).setCell (p := ⟨w.heap.size, 4, none⟩) (Nat.le_refl _) _).alloc (by simp; omega) _
    have ZF : Loc WF w.heap.size #[.int .i64 0, .int .i64 0, .int .i64 0, .int .i64 0, .int .i64 0] := by
      rw [hWF]
      exact (((((Z3.out.set 0 (.int .i64 0) (by simp)).set 1 (.int .i64 0) (by simp)).set 2 (.int .i64 0) (by simp)).set 3 (.int .i64 0) (by simp)).set 4 (.int .i64 0) (by simp)).alloc _
    have zf := ZF.2.1
    rw [← hWF]
    refine bodyPost_ret (v := .tuple #[.agg #[.int .i64 0, .int .i64 0, .int .i64 0, .int .i64 0, .int .i64 0], .bool false]) (by simp [results, Tryz.results97, go_sem, zf]) rfl ?_
    rw [hr.out]
    exact ⟨rfl, _, _, _, _, HB.out.keep BF, Below.toGrown BF _, fun _ _ Z _ hz => hz.keep BF.size (fun _ _ e => e) (fun k hk _ => BF.block k hk)⟩
  · have hr : Hid (res = (putV (putV nl.1 m ⟨true, p.leaf, xa⟩) nl.2 ⟨true, p.leaf, xb⟩, ⟨nl.2, (boxesV xb).x0, (boxesV xb).y0, (boxesV xb).x1, (boxesV xb).y1⟩, true)) := Lib.hid (by rw [hpv.out, if_neg hneg])
    have hll : l.length = n := by rw [← HB.out.eq, List.length_map, HL.out]
    have htl : totG l ≤ 1048576000 := by
      have h5 := totG_cap l (B := 1048576) (fun g hg => by
        rw [← HB.out.eq] at hg
        obtain ⟨p, hp, rfl⟩ := List.mem_map.1 hg
        have h6 := hps p hp
        rw [← (HB.out.rd.2 p hp).1.1] at h6
        exact h6)
      rw [hll] at h5
      exact Nat.le_trans h5 (Nat.mul_le_mul_right 1048576 hn)
    obtain ⟨hal1, hal2⟩ := allocV_le l
    rw [hnl.out] at hal1 hal2
    have hqsl : qs.length ≤ 1001 := by rw [len_pgs E3.out]; omega
    have hqsn := pgs_le Q3.out E3.out (B := 1099511627776) (by omega)
    obtain ⟨L1, hL1⟩ : ∃ L1, putV nl.1 m ⟨true, p.leaf, xa⟩ = L1 := ⟨_, rfl⟩
    obtain ⟨hp1, hp2⟩ := putV_le nl.1 m ⟨true, p.leaf, xa⟩
    rw [hL1] at hp1 hp2 hr
    have hp2' : totG L1 ≤ totG nl.1 + xa.length := hp2
    obtain ⟨L2, hL2⟩ : ∃ L2, putV L1 nl.2 ⟨true, p.leaf, xb⟩ = L2 := ⟨_, rfl⟩
    rw [hL2] at hr
    have CP1 : Hid (∀ V, Below w3.heap.size w3 V → Calls Tryz.prog 92 #[.agg #[.int .i64 root, .slice a3 qs.length c3], .int .i64 (m : Int), .agg #[.bool p.leaf, .slice a1 xa.length c1]] V (NewBook root L1 V)) := Lib.hid (fun V bV => by
      have := sPut_any root m a3 qs.length c3 qs p.leaf a1 xa.length c1 xa V (Q3.out.rd.below bV) ((rdS_ownsP P13.out).below bV) (wf_small m (by omega) (by omega)) (by omega) hxa hqsn
      rw [E3.out, hL1] at this
      exact this)
    have CP2 : Hid (∀ V a5 c5 (rs : List PgV), Below w3.heap.size w3 V → RdP V a5 rs.length c5 rs → rs.map PgV.pg = L1 → (∀ p ∈ rs, p.n ≤ 1099511627776) → Calls Tryz.prog 92 #[.agg #[.int .i64 root, .slice a5 rs.length c5], .int .i64 nl.2, .agg #[.bool p.leaf, .slice a2 xb.length c2]] V (NewBook root L2 V)) := Lib.hid (fun V a5 c5 rs bV hrs ers hn5 => by
      have := sPut_any root nl.2 a5 rs.length c5 rs p.leaf a2 xb.length c2 xb V hrs ((rdS_ownsP P23.out).below bV) (wf_small nl.2 (by omega) (by have := allocV_idx l; rw [hnl.out] at this; omega)) (by have := len_pgs ers; omega) hxb hn5
      rw [ers, hL2] at this
      exact this)
    have KS : Hid (∀ V, Below w3.heap.size w3 V → (fun V => Below w3.heap.size w3 V ∧ V.cell? ⟨qx, 0, none⟩ = some (.bool p.leaf) ∧ V.cell? ⟨qx, 1, none⟩ = some (.slice a1 xa.length c1) ∧ V.cell? ⟨qy, 0, none⟩ = some (.bool p.leaf) ∧ V.cell? ⟨qy, 1, none⟩ = some (.slice a2 xb.length c2)) V) := Lib.hid (fun V b => ⟨b, ((X3.out.below b).2.1 0).trans rfl, ((X3.out.below b).2.1 1).trans rfl, ((Y3.out.below b).2.1 0).trans rfl, ((Y3.out.below b).2.1 1).trans rfl⟩)
    have b4 : Below w3.heap.size w3 (w3.alloc (.cells #[.int .i64 root, .slice a3 qs.length c3] 26)) := new_below w3 _
    have T4 : TagT 26 (w3.alloc (.cells #[.int .i64 root, .slice a3 qs.length c3] 26)) w3.heap.size := TagT.new _ _ _
    have G4 := Loc.new w3 #[.int .i64 root, .slice a3 qs.length c3] 26
    have hLb := Lib.hid (show totG L1 ≤ 1099511627776 by omega)
    clear y0 yf hqsn
    replace hL1 := Lib.hid hL1
    replace hL2 := Lib.hid hL2
    go_wp2_with fail
    refine wp_region_noPanic ?_
    refine wp_region_held_drew (S := fun V => Below w3.heap.size w3 V ∧ V.cell? ⟨qx, 0, none⟩ = some (.bool p.leaf) ∧ V.cell? ⟨qx, 1, none⟩ = some (.slice a1 xa.length c1) ∧ V.cell? ⟨qy, 0, none⟩ = some (.bool p.leaf) ∧ V.cell? ⟨qy, 1, none⟩ = some (.slice a2 xb.length c2)) (by kernel_rfl) (KS.out _ b4.drew) (fun hHeld => ?_)
    refine wpAnyH_take (i := 1) (v := ?v1) rfl (by kernel_rfl) (by kernel_rfl) (by kernel_rfl) (fun _ _ _ h => h) (Or.inl ⟨by rfl, ?hy1⟩) (by assumption) ?rest1
    case hy1 => intro w hSw; (try dsimp only at hSw); go_simp; (try with_reducible rfl)
    simp only [List.getElem_toArray, List.getElem_cons_zero, List.getElem_cons_succ, Act.put, List.setIfInBounds_toArray, List.set_cons_zero, List.set_cons_succ]
    refine wpAnyH_take (i := 2) (v := ?v2) rfl (by kernel_rfl) (by kernel_rfl) (by kernel_rfl) (fun _ _ _ h => h) (Or.inl ⟨by rfl, ?hy2⟩) (by assumption) ?rest2
    case hy2 => intro w hSw; (try dsimp only at hSw); go_simp; (try with_reducible rfl)
    simp only [List.getElem_toArray, List.getElem_cons_zero, List.getElem_cons_succ, Act.put, List.setIfInBounds_toArray, List.set_cons_zero, List.set_cons_succ]
    refine wpAnyH_take (i := 4) (v := ?v4) rfl (by kernel_rfl) (by kernel_rfl) (by kernel_rfl) (fun _ _ _ h => h) (Or.inl ⟨by rfl, ?hy4⟩) (by assumption) ?rest4
    case hy4 => intro w hSw; (try dsimp only at hSw); go_simp; (try with_reducible rfl)
    simp only [List.getElem_toArray, List.getElem_cons_zero, List.getElem_cons_succ, Act.put, List.setIfInBounds_toArray, List.set_cons_zero, List.set_cons_succ]
    refine wpAnyH_take (i := 5) (v := ?v5) rfl (by kernel_rfl) (by kernel_rfl) (by kernel_rfl) (fun _ _ _ h => h) (Or.inl ⟨by rfl, ?hy5⟩) (by assumption) ?rest5
    case hy5 => intro w hSw; (try dsimp only at hSw); go_simp; (try with_reducible rfl)
    simp only [List.getElem_toArray, List.getElem_cons_zero, List.getElem_cons_succ, Act.put, List.setIfInBounds_toArray, List.set_cons_zero, List.set_cons_succ]
    refine wpAnyH_ready (rs := [0]) (by kernel_rfl) (by simp) ?_
    refine AllReadyH.cons rfl (fun K hK => ?_) AllReadyH.nil
    go_simp
    refine hK.out _ _ (KS.out _ b4.drew) (fun hHeld => ?_)
    clear hK K
    refine wpAnyH_ready (rs := [3]) (by kernel_rfl) (by simp) ?_
    refine AllReadyH.cons rfl (fun K hK => ?_) AllReadyH.nil
    go_simp
    refine (CP1.out _ b4.drew).mono ?_
    rintro e w5 ⟨v5, rs, rfl, ers, o5, b5⟩
    obtain ⟨a5, c5, rfl⟩ := o5.shape
    have r5 := o5.rd
    have n5 := pgs_le o5 ers hLb.out
    have hz5 : w.heap.size + 1 ≤ w5.heap.size := by
      have h5 := b5.size
      have : (w3.alloc (.cells #[.int .i64 root, .slice a3 qs.length c3] 26)).drew.heap.size = w3.heap.size + 1 := (by simp)
      omega
    have B5 := b4.drew.trans (b5.mono (show w3.heap.size ≤ (w3.alloc (.cells #[.int .i64 root, .slice a3 qs.length c3] 26)).drew.heap.size from b4.drew.size))
    have G5 := (G4.drew).below b5
    have T5 : TagT 26 w5 w3.heap.size := (T4.of (V' := (w3.alloc (.cells #[.int .i64 root, .slice a3 qs.length c3] 26)).drew) rfl).of (b5.block _ (G4.drew).1)
    clear b5
    refine hK.out _ _ (KS.out _ B5) (fun hHeld => ?_)
    clear hK K
    refine wpAnyH_ready (rs := [6]) (by kernel_rfl) (by simp) ?_
    refine AllReadyH.cons rfl (fun K hK => ?_) AllReadyH.nil
    go_simp
    refine (CP2.out _ a5 c5 rs B5 r5 ers n5).mono ?_
    rintro e w6 ⟨v6, ts, rfl, ets, o6, b6⟩
    obtain ⟨a6, c6, rfl⟩ := o6.shape
    have B6 := B5.trans (b6.mono B5.size)
    have G6 := G5.below b6
    have T6 := T5.of (b6.block _ G5.1)
    have Q6 := Lib.hid o6
    have s6 := b6.size
    clear b6 r5 n5 o5 o6
    refine hK.out _ _ (KS.out _ B6) (fun hHeld => ?_)
    clear hK K
    obtain ⟨hg6, g6, gf6⟩ := G6
    have g60 := g6 0
    have g61 := g6 1
    simp at g60 g61
    refine wpAnyH_ready (rs := [7]) (by kernel_rfl) (by simp) ?_
    refine AllReadyH.cons rfl (fun K hK => ?_) AllReadyH.nil
    go_simp
    refine hK.out _ _ (KS.out _ ((B6.setCell (p := ⟨w3.heap.size, 0, none⟩) (Nat.le_refl _) _).setCell (p := ⟨w3.heap.size, 1, none⟩) (Nat.le_refl _) _)) (fun hHeld => ?_)
    clear hK K
    refine wpAnyH_done (by kernel_rfl) ?_ _
    refine NoPanic.normal ?_
    clear hHeld
    obtain ⟨w7, hw7⟩ : ∃ w7, w7 = (w6.setCell ⟨w3.heap.size, 0, none⟩ (.int .i64 root)).setCell ⟨w3.heap.size, 1, none⟩ (.slice a6 ts.length c6) := ⟨_, rfl⟩
    have B7 : Below w3.heap.size w3 w7 := by rw [hw7]; exact (B6.setCell (p := ⟨w3.heap.size, 0, none⟩) (Nat.le_refl _) _).setCell (p := ⟨w3.heap.size, 1, none⟩) (Nat.le_refl _) _
    have G7 : Loc w7 w3.heap.size #[.int .i64 root, .slice a6 ts.length c6] := by
      rw [hw7]
      exact ((Loc.set ⟨hg6, g6, gf6⟩ 0 (.int .i64 root) (by simp)).set 1 (.slice a6 ts.length c6) (by simp))
    have Q7 : Hid (OwnP w7 w5.heap.size (.slice a6 ts.length c6) ts) := Lib.hid (by
      rw [hw7]
      exact (Q6.out.store T6 0 _).store (T6.set _ _ _) 1 _)
    refine (by assumption : ∀ (a : Act) (w : World), _ → _) _ _ ?_
    rw [← hw7]
    clear hw7
    have K7 := Lib.hid (K3.out.below B7)
    have Y7 := Lib.hid (Y3.out.below B7)
    have P27 := Lib.hid ((rdS_ownsP P23.out).below B7)
    obtain ⟨hq7, kq, kqf⟩ := K7.out
    obtain ⟨-, gq, -⟩ := G7
    have kq0 := kq 0
    have kq1 := kq 1
    have kqf0 := kqf 0
    have kqf1 := kqf 1
    have gq0 := gq 0
    have gq1 := gq 1
    simp at kq0 kq1 gq0 gq1
    have hne : q ≠ w3.heap.size := by have := K3.out.1; omega
    clear kq kqf gq g60 g61
    obtain ⟨w8, hw8⟩ : ∃ w8, w8 = (w7.setCell ⟨q, 0, none⟩ (.int .i64 root)).setCell ⟨q, 1, none⟩ (.slice a6 ts.length c6) := ⟨_, rfl⟩
    have K8 : Loc w8 q #[.int .i64 root, .slice a6 ts.length c6] := by
      rw [hw8]
      exact (K7.out.set 0 (.int .i64 root) (by simp)).set 1 (.slice a6 ts.length c6) (by simp)
    have Y8 : Loc w8 qy #[.bool p.leaf, .slice a2 xb.length c2] := by
      rw [hw8]
      exact (Y7.out.other 0 _ (by omega)).other 1 _ (by omega)
    have yc0 := Y8.2.1 0
    have yc1 := Y8.2.1 1
    simp at yc0 yc1
    have TQ7 : TagT 26 w7 q := HB.out.tag.of (((B3.out.trans (B7.mono B3.out.size))).block q hqw)
    have Q8 : Hid (OwnP w8 w5.heap.size (.slice a6 ts.length c6) ts) := Lib.hid (by
      rw [hw8]
      exact (Q7.out.store TQ7 0 _).store (TQ7.set _ _ _) 1 _)
    have TQ8 : TagT 26 w8 q := by rw [hw8]; exact (TQ7.set _ _ _).set _ _ _
    have P28 : RdS itLay w8 a2 xb.length c2 xb := by
      rw [hw8]
      have h7 : OwnS itLay 77 w7 W0.heap.size (.slice a2 xb.length c2) xb := P23.out.below B7
      exact rdS_ownsP (ownS_set2 (ownS_set2 h7 (by omega) _ _) (by omega) _ _)
    have g8 : w.grownBy w8 (some q) := by
      rw [hw8]
      exact grown_setCell (grown_setCell (Below.toGrown (B3.out.trans (B7.mono B3.out.size)) _) _ _ _ rfl) _ _ _ rfl
    have z8 : w8.heap.size = w7.heap.size := by rw [hw8]; simp
    have Z8 : Hid (Loc w8 w.heap.size #[.int .i64 0, .int .i64 0, .int .i64 0, .int .i64 0, .int .i64 0]) := Lib.hid (by
      rw [hw8]
      exact ((Z3.out.below B7).other 0 _ (by omega)).other 1 _ (by omega))
    have CB : Hid (Calls Tryz.prog 90 #[.agg #[.bool p.leaf, .slice a2 xb.length c2]] w8 (RetBox (boxesV xb) w8)) := Lib.hid (sBoundOf_any p.leaf a2 xb.length c2 xb w8 P28 hxb)
    go_upto_region 7 with (fail)
    rw [← hw8]
    clear hw8 kq0 kq1 kqf0 kqf1 gq0 gq1
    go_wp2_with fail
    refine CB.out.mono ?_
    rintro e w9 ⟨rfl, b9⟩
    have Z9 := Z8.out.below b9
    obtain ⟨hz9, zc, zf⟩ := Z9
    have s9 := b9.size
    go_wp2_with fail
    obtain ⟨WF, hWF⟩ : ∃ WF, WF = (((((w9.setCell ⟨w.heap.size, 0, none⟩ (.int .i64 nl.2)).setCell ⟨w.heap.size, 1, none⟩ (.int .i64 (boxesV xb).x0)).setCell ⟨w.heap.size, 2, none⟩ (.int .i64 (boxesV xb).y0)).setCell ⟨w.heap.size, 3, none⟩ (.int .i64 (boxesV xb).x1)).setCell ⟨w.heap.size, 4, none⟩ (.int .i64 (boxesV xb).y1)) := ⟨_, rfl⟩
    have ZF : Loc WF w.heap.size #[.int .i64 nl.2, .int .i64 (boxesV xb).x0, .int .i64 (boxesV xb).y0, .int .i64 (boxesV xb).x1, .int .i64 (boxesV xb).y1] := by
      rw [hWF]
      exact ((((Loc.set ⟨hz9, zc, zf⟩ 0 (.int .i64 nl.2) (by simp)).set 1 (.int .i64 (boxesV xb).x0) (by simp)).set 2 (.int .i64 (boxesV xb).y0) (by simp)).set 3 (.int .i64 (boxesV xb).x1) (by simp)).set 4 (.int .i64 (boxesV xb).y1) (by simp)
    have cF : ChgIn w.heap.size (w.heap.size + 1) w9 WF := by
      rw [hWF]
      exact ChgIn.of_grown (row := some w.heap.size) (grown_setCell (grown_setCell (grown_setCell (grown_setCell (grown_setCell (World.grownBy.refl _ _) _ _ _ rfl) _ _ _ rfl) _ _ _ rfl) _ _ _ rfl) _ _ _ rfl) (fun g hg => by cases hg; omega)
    have gF : w.grownBy WF (some q) := by
      have h9 := grown_trans g8 (Below.toGrown b9 (some q))
      exact ⟨cF.os.trans h9.os, cF.tape.trans h9.tape, cF.output.trans h9.output, Nat.le_trans h9.size cF.size, fun k hk hn => (cF.block k (by have := h9.size; omega) (by omega)).trans (h9.block k hk hn)⟩
    have KF : Loc WF q #[.int .i64 root, .slice a6 ts.length c6] := (K8.below b9).of cF.size (cF.block q (K8.below b9).1 (by omega))
    have TF : TagT 26 WF q := (TQ8.of (b9.block q K8.1)).of (cF.block q (K8.below b9).1 (by omega))
    have QF : OwnP WF w5.heap.size (.slice a6 ts.length c6) ts := (Q8.out.below b9).frame.chg (Q8.out.below b9) cF (Nat.le_refl _) (Or.inr hz5)
    have zz := ZF.2.1
    rw [← hWF]
    refine bodyPost_ret (v := .tuple #[.agg #[.int .i64 nl.2, .int .i64 (boxesV xb).x0, .int .i64 (boxesV xb).y0, .int .i64 (boxesV xb).x1, .int .i64 (boxesV xb).y1], .bool true]) (by simp [results, Tryz.results97, go_sem, zz]) rfl ?_
    rw [hr.out]
    exact ⟨rfl, _, _, _, _, ⟨KF, TF, QF.rd, ets⟩, gF, fun o ho Z hz _ => QF.offB o (fun B e => by have := ho B e; omega) (fun k hk => by have := hz k hk; omega)⟩
end Go.Proofs.YtfefggcfeppeiaaGreat

/- What the model's l11In answers, and what it keeps: as many pages, few entries more. -/
namespace Go.Proofs.YtfefggcfeppeiaaGreat
open Go.RowKit

/-- No more pages than N, no page with more entries than B. -/
def Fits (N B : Nat) (l : List Pg) : Prop := l.length ≤ N ∧ ∀ p ∈ l, p.xs.length ≤ B
theorem Fits.mono {N B N' B' : Nat} {l : List Pg} (h : Fits N B l) (hN : N ≤ N') (hB : B ≤ B') : Fits N' B' l := ⟨Nat.le_trans h.1 hN, fun p hp => Nat.le_trans (h.2 p hp) hB⟩
theorem Fits.put {N B : Nat} {l : List Pg} (h : Fits N B l) (i : Int) {p : Pg} (hp : p.xs.length ≤ B) : Fits N B (putV l i p) := by
  unfold putV
  split
  · refine ⟨by rw [List.length_set]; exact h.1, fun q hq => ?_⟩
    rcases List.mem_or_eq_of_mem_set hq with h1 | h1
    · exact h.2 q h1
    · rw [h1]; exact hp
  · exact h
theorem Fits.alloc {N B : Nat} {l : List Pg} (h : Fits N B l) : Fits (N + 1) B (allocV l).1 := by
  refine ⟨Nat.le_trans (allocV_le l).1 (Nat.add_le_add_right h.1 1), ?_⟩
  unfold allocV
  split
  · intro q hq
    rcases List.mem_or_eq_of_mem_set hq with h1 | h1
    · exact h.2 q h1
    · rw [h1]; exact Nat.zero_le _
  · split
    · exact h.2
    · intro q hq
      rcases List.mem_append.1 hq with h1 | h1
      · exact h.2 q h1
      · rw [List.mem_singleton.1 h1]; exact Nat.zero_le _
theorem Fits.at_ {N B : Nat} {l : List Pg} (h : Fits N B l) (i : Int) : (pageAt l i).xs.length ≤ B := by
  unfold pageAt
  split
  · cases hq : l[i.toNat]? with
    | none => exact Nat.zero_le _
    | some q => exact h.2 q (List.mem_of_getElem? hq)
  · exact Nat.zero_le _
theorem allocV_ge (l : List Pg) : l.length ≤ (allocV l).1.length := by
  unfold allocV
  split
  · rw [List.length_set]; exact Nat.le_refl _
  · split
    · exact Nat.le_refl _
    · rw [List.length_append]; exact Nat.le_add_right _ _
theorem Fits.part {N B : Nat} {l : List Pg} (h : Fits N B l) (i : Int) : Fits (N + 1) (B + 2) (partV l i).1 := by
  unfold partV
  split
  · exact h.mono (Nat.le_succ _) (Nat.le_add_right _ _)
  · have h1 := partedV_len (pageAt l i).xs
    have h2 := h.at_ i
    exact ((h.alloc.mono (Nat.le_refl _) (Nat.le_add_right B 2)).put i (by show (partedV (pageAt l i).xs).1.length ≤ _; omega)).put _ (by show (partedV (pageAt l i).xs).2.length ≤ _; omega)
theorem partV_ge (l : List Pg) (i : Int) : l.length ≤ (partV l i).1.length := by
  unfold partV
  split
  · exact Nat.le_refl _
  · show _ ≤ (putV _ _ _).length
    rw [(putV_le _ _ _).1, (putV_le _ _ _).1]
    exact allocV_ge l

/-- The end of an insertion at a page: it is put, and parted if it has too many. -/
def fin11 (l : List Pg) (i : Int) (lf : Bool) (ys : List It) : List Pg × Bool × It × Bool :=
  if ys.length ≤ 4 then (putV l i ⟨true, lf, ys⟩, false, zeroIt, true)
  else ((partV (putV l i ⟨true, lf, ys⟩) i).1, true, (partV (putV l i ⟨true, lf, ys⟩) i).2.1, (partV (putV l i ⟨true, lf, ys⟩) i).2.2)
/-- The page that an item goes to from an inner page. -/
def kidV (xs : List It) (x : It) : Int := (xs.getD (chooseV xs (boxOf x)).toNat zeroIt).id
/-- The inner page's entries behind the insertion below it. -/
def upV (xs : List It) (x : It) (r : List Pg × Bool × It × Bool) : List It :=
  xs.set (chooseV xs (boxOf x)).toNat ⟨kidV xs x, (boxesV (pageAt r.1 (kidV xs x)).xs).x0, (boxesV (pageAt r.1 (kidV xs x)).xs).y0, (boxesV (pageAt r.1 (kidV xs x)).xs).x1, (boxesV (pageAt r.1 (kidV xs x)).xs).y1⟩ ++ if r.2.1 then [r.2.2.1] else []
/-- The book behind an insertion at page i, the fuel is 13 less the depth. -/
def inV (l : List Pg) (x : It) : Nat → Int → List Pg × Bool × It × Bool
  | 0, _ => (l, false, zeroIt, false)
  | f + 1, i =>
    if (pageAt l i).leaf then fin11 l i true ((pageAt l i).xs ++ [x])
    else if (inV l x f (kidV (pageAt l i).xs x)).2.2.2 then
      fin11 (inV l x f (kidV (pageAt l i).xs x)).1 i false (upV (pageAt l i).xs x (inV l x f (kidV (pageAt l i).xs x)))
    else ((inV l x f (kidV (pageAt l i).xs x)).1, false, zeroIt, false)
theorem inV_leaf {l : List Pg} {x : It} {f : Nat} {i : Int} (h : (pageAt l i).leaf = true) : inV l x (f + 1) i = fin11 l i true ((pageAt l i).xs ++ [x]) := by
  rw [inV, if_pos h]
theorem inV_inner {l : List Pg} {x : It} {f : Nat} {i : Int} {r : List Pg × Bool × It × Bool} (h : (pageAt l i).leaf = false) (hr : inV l x f (kidV (pageAt l i).xs x) = r) (hok : r.2.2.2 = true) : inV l x (f + 1) i = fin11 r.1 i false (upV (pageAt l i).xs x r) := by
  rw [inV, if_neg (by rw [h]; exact Bool.false_ne_true), hr, if_pos hok]
theorem inV_not {l : List Pg} {x : It} {f : Nat} {i : Int} {r : List Pg × Bool × It × Bool} (h : (pageAt l i).leaf = false) (hr : inV l x f (kidV (pageAt l i).xs x) = r) (hok : r.2.2.2 = false) : inV l x (f + 1) i = (r.1, false, zeroIt, false) := by
  rw [inV, if_neg (by rw [h]; exact Bool.false_ne_true), hr, if_neg (by rw [hok]; exact Bool.false_ne_true)]
theorem fin11_ge (l : List Pg) (i : Int) (lf : Bool) (ys : List It) : l.length ≤ (fin11 l i lf ys).1.length := by
  unfold fin11
  split
  · show _ ≤ (putV l i _).length
    rw [(putV_le _ _ _).1]
    exact Nat.le_refl _
  · refine Nat.le_trans ?_ (partV_ge _ i)
    rw [(putV_le _ _ _).1]
    exact Nat.le_refl _
theorem Fits.fin {N B : Nat} {l : List Pg} (h : Fits N B l) (i : Int) (lf : Bool) {ys : List It} (hy : ys.length ≤ B) : Fits (N + 1) (B + 2) (fin11 l i lf ys).1 := by
  have h1 : Fits N B (putV l i ⟨true, lf, ys⟩) := h.put i hy
  unfold fin11
  split
  · exact h1.mono (Nat.le_succ _) (Nat.le_add_right _ _)
  · exact h1.part i
theorem upV_len (xs : List It) (x : It) (r : List Pg × Bool × It × Bool) : (upV xs x r).length ≤ xs.length + 1 := by
  unfold upV
  rw [List.length_append, List.length_set]
  split
  · exact Nat.le_refl _
  · exact Nat.le_succ _
theorem inV_ge (l : List Pg) (x : It) : ∀ (f : Nat) (i : Int), l.length ≤ (inV l x f i).1.length
  | 0, _ => Nat.le_refl _
  | f + 1, i => by
    have ih := inV_ge l x f (kidV (pageAt l i).xs x)
    rw [inV]
    split
    · exact fin11_ge _ _ _ _
    · split
      · exact Nat.le_trans ih (fin11_ge _ _ _ _)
      · exact ih
theorem Fits.ins {N B : Nat} {l : List Pg} (h : Fits N B l) (x : It) : ∀ (f : Nat) (i : Int), Fits (N + f) (B + 4 * f) (inV l x f i).1
  | 0, _ => h
  | f + 1, i => by
    have ih := h.ins x f (kidV (pageAt l i).xs x)
    have h2 := h.at_ i
    rw [inV]
    split
    · exact ((h.mono (Nat.le_refl _) (Nat.le_add_right B 1)).fin i true (by rw [List.length_append]; show _ + 1 ≤ _; omega)).mono (by omega) (by omega)
    · split
      · have h3 := upV_len (pageAt l i).xs x (inV l x f (kidV (pageAt l i).xs x))
        exact ((ih.mono (Nat.le_refl _) (Nat.le_add_right _ 1)).fin i false (by omega)).mono (by omega) (by omega)
      · exact ih.mono (by omega) (by omega)

/-- From page i one comes down in the book, f steps deep at most: every page is there, every inner one has entries. -/
def Down (l : List Pg) : Nat → Int → Prop
  | 0, i => 0 ≤ i ∧ i < (l.length : Int)
  | f + 1, i => (0 ≤ i ∧ i < (l.length : Int)) ∧ ((pageAt l i).leaf = false → (pageAt l i).xs ≠ [] ∧ ∀ x ∈ (pageAt l i).xs, Down l f x.id)
theorem Down.in_ {l : List Pg} {f : Nat} {i : Int} (h : Down l f i) : 0 ≤ i ∧ i < (l.length : Int) := by
  cases f with
  | zero => exact h
  | succ f => exact h.1
theorem Down.kid {l : List Pg} {f : Nat} {i : Int} (h : Down l (f + 1) i) (hl : (pageAt l i).leaf = false) (x : It) :
    ∃ (k : Nat) (e : It), chooseV (pageAt l i).xs (boxOf x) = k ∧ k < (pageAt l i).xs.length ∧ (pageAt l i).xs[k]? = some e ∧ kidV (pageAt l i).xs x = e.id ∧ Down l f e.id := by
  obtain ⟨h1, h2⟩ := h.2 hl
  obtain ⟨c1, c2⟩ := chooseV_range _ (boxOf x) h1
  obtain ⟨k, hk⟩ := Int.eq_ofNat_of_zero_le c1
  have hk2 : k < (pageAt l i).xs.length := by omega
  refine ⟨k, (pageAt l i).xs[k], hk, hk2, List.getElem?_eq_getElem hk2, ?_, h2 _ (List.getElem_mem hk2)⟩
  unfold kidV
  rw [hk, Int.toNat_natCast, List.getD_eq_getElem?_getD, List.getElem?_eq_getElem hk2]
  rfl
end Go.Proofs.YtfefggcfeppeiaaGreat

/- A row of entries that a call owns: its cells, a store of one entry (XStabA's RowI for entries). -/
namespace Go.Proofs.YtfefggcfeppeiaaGreat
open Go.RowKit

/-- A row of entries that the call owns: n of them from block g on. -/
def RowE (g n cap base : Nat) (xs : List It) (w : World) : Prop := OwnS itLay 77 w base (.slice (some ⟨g, 0, none⟩) n cap) xs ∧ xs.length = n

theorem RowE.below {g n cap base : Nat} {xs : List It} {w w' : World} (h : RowE g n cap base xs w) (hB : Below w.heap.size w w') : RowE g n cap base xs w' := ⟨h.1.below hB, h.2⟩
theorem RowE.drew {g n cap base : Nat} {xs : List It} {w : World} (h : RowE g n cap base xs w) : RowE g n cap base xs w.drew := h.below ((Below.refl _ _).drew)
theorem RowE.lt {g n cap base : Nat} {xs : List It} {w : World} (h : RowE g n cap base xs w) : base ≤ g ∧ g < w.heap.size := World.ownsRow.lt h.1 g rfl
theorem RowE.get {g n cap base i : Nat} {xs : List It} {w : World} (h : RowE g n cap base xs w) (hi : i < n) {x : It} (hx : xs.getD i zeroIt = x) :
    w.cell? ⟨g, i * 5, none⟩ = some (.int .i64 x.id) ∧ w.cell? ⟨g, i * 5 + 1, none⟩ = some (.int .i64 x.x0) ∧ w.cell? ⟨g, i * 5 + 2, none⟩ = some (.int .i64 x.y0) ∧ w.cell? ⟨g, i * 5 + 3, none⟩ = some (.int .i64 x.x1) ∧ w.cell? ⟨g, i * 5 + 4, none⟩ = some (.int .i64 x.y1) := by
  obtain ⟨ho, rfl⟩ := h
  obtain ⟨a, c, hv, hr⟩ := ho.rd
  obtain ⟨b, off, y, e1, _, hy, d0, d1, d2, d3, d4⟩ := rdIt_at hr hi
  simp only [Value.slice.injEq] at hv
  obtain ⟨rfl, -, rfl⟩ := hv
  obtain ⟨rfl, rfl⟩ : g = b ∧ 0 = off := by simpa using e1
  simp only [Nat.zero_add] at d0 d1 d2 d3 d4
  obtain rfl : y = x := by rw [← hx, List.getD_eq_getElem?_getD, hy]; rfl
  exact ⟨d0, d1, d2, d3, d4⟩
theorem RowE.some {g n cap base i : Nat} {xs : List It} {w : World} (h : RowE g n cap base xs w) (hi : i < n) :
    ∃ x : It, w.cell? ⟨g, i * 5, none⟩ = some (.int .i64 x.id) ∧ w.cell? ⟨g, i * 5 + 1, none⟩ = some (.int .i64 x.x0) ∧ w.cell? ⟨g, i * 5 + 2, none⟩ = some (.int .i64 x.y0) ∧ w.cell? ⟨g, i * 5 + 3, none⟩ = some (.int .i64 x.x1) ∧ w.cell? ⟨g, i * 5 + 4, none⟩ = some (.int .i64 x.y1) := ⟨_, h.get hi rfl⟩
theorem RowE.froz {g n cap base : Nat} {xs : List It} {w : World} (h : RowE g n cap base xs w) (j : Nat) : w.frozen? ⟨g, j, none⟩ = false := by
  obtain ⟨ho, rfl⟩ := h
  exact World.ownsRow.frozenAt ho j
/-- An item is written over another. -/
theorem RowE.set {g n cap base : Nat} {xs : List It} {w : World} (h : RowE g n cap base xs w) (i : Nat) (hi : i < n) (x : It) :
    RowE g n cap base (xs.set i x) (((((w.setCell ⟨g, i * 5, none⟩ (.int .i64 x.id)).setCell ⟨g, i * 5 + 1, none⟩ (.int .i64 x.x0)).setCell ⟨g, i * 5 + 2, none⟩ (.int .i64 x.y0)).setCell ⟨g, i * 5 + 3, none⟩ (.int .i64 x.x1)).setCell ⟨g, i * 5 + 4, none⟩ (.int .i64 x.y1)) := by
  obtain ⟨ho, rfl⟩ := h
  refine ⟨?_, by simp⟩
  unfold OwnS at ho ⊢
  rw [List.length_set, ← flat_setI xs i x hi]
  exact (((((ho.stored (i * 5) _).1.stored (i * 5 + 1) _).1.stored (i * 5 + 2) _).1.stored (i * 5 + 3) _).1.stored (i * 5 + 4) _).1

end Go.Proofs.YtfefggcfeppeiaaGreat
