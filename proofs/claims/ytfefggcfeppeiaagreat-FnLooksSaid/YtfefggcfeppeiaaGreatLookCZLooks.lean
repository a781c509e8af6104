/- The model's Deep. -/
import Derived.Test.YtfefggcfeppeiaaGreatLookMZLooks
namespace Go.Proofs.YtfefggcfeppeiaaGreat
open Go.RowKit
attribute [local go_sem ↓] Go.wp_at_zero Go.wp_at_succ

theorem deep_no {l : List Pg} {f : Nat} {i : Int} (h : (pageAt l i).used = false) : deepV l (f + 1) i = 0 := by
  rw [deepV, if_neg (by rw [h]; exact Bool.false_ne_true)]
theorem deep_end {l : List Pg} {f : Nat} {i : Int} (h : (pageAt l i).used = true) (hk : kidsP (pageAt l i) = []) : deepV l (f + 1) i = 1 := by
  rw [deepV, if_pos h, hk]
theorem deep_on {l : List Pg} {f : Nat} {i : Int} {x : It} {r : List It} (h : (pageAt l i).used = true) (hk : kidsP (pageAt l i) = x :: r) : deepV l (f + 1) i = deepV l f x.id + 1 := by
  rw [deepV, if_pos h, hk]

set_option maxRecDepth 100000 in
set_option maxHeartbeats 1600000 in
theorem sDeep_any (root : Int) (a : Option Addr) (n cap : Nat) (ps : List PgV) (w : World) (h : RdP w a n cap ps) (hn : n ≤ 1099511627776) (hps : ∀ p ∈ ps, p.n ≤ 1099511627776) :
    Calls Tryz.prog 21 #[.agg #[.int .i64 root, .slice a n cap]] w fun e w' => e = .returned (.int .i64 ((deepV (ps.map PgV.pg) 12 root : Nat) : Int)) ∧ Below w.heap.size w w' := by
  have HL := Lib.hid h.1.1.1
  have hnc := h.1.1.2.1
  have hm := h.1.1.2.2.1
  unfold maxLen at hm
  obtain ⟨W0, hW0⟩ : ∃ W0, W0 = w.alloc (.cells #[.int .i64 root, .slice a n cap] 26) := ⟨_, rfl⟩
  have b0 : Below w.heap.size w W0 := by subst hW0; exact new_below w _
  have K0 : Loc W0 w.heap.size #[.int .i64 root, .slice a n cap] := by subst hW0; exact Loc.new w _ _
  have HR := Lib.hid (h.below b0)
  have HPS := Lib.hid hps
  have B0 := Lib.hid b0
  have k1 := K0.2.1 1
  simp at k1
  clear h b0 hps
  go_enter Tryz.func21, Tryz.ntmps21
  go_wp2_with fail
  rw [← hW0]
  clear hW0
  go_loopw [3, 4] (fun v c wr => ∃ (k : Nat) (i : Int), k ≤ 12 ∧ v = .int .i64 i ∧ c = .int .i64 (k : Int) ∧ Hid (deepV (ps.map PgV.pg) 12 root = k + deepV (ps.map PgV.pg) (12 - k) i) ∧ wr = W0) (fun _ c _ => 12 - (intOf c).toNat)
  case atStart => exact ⟨0, root, by omega, rfl, rfl, Lib.hid (by simp), rfl⟩
  case round =>
    obtain ⟨k, i, hk, rfl, rfl, HD, rfl⟩ := hrel
    by_cases hlt : k < 12
    · obtain ⟨f, hf⟩ : ∃ f, 12 - k = f + 1 := ⟨11 - k, by omega⟩
      have hf2 : 12 - (k + 1) = f := by omega
      have z1 : (k : Int) < 12 := by omega
      by_cases hin : 0 ≤ i ∧ i ≤ (n : Int) - 1
      · obtain ⟨h0, h1⟩ := hin
        obtain ⟨m, rfl⟩ := Int.eq_ofNat_of_zero_le h0
        have z2 : (m : Int) < n := by omega
        obtain ⟨b, off, p, rfl, hbl, hp, hrd, d0, d1, d2⟩ := rdP_at HR.out (show m < n by omega)
        have hv : pageAt (ps.map PgV.pg) m = p.pg := pageAt_yes hp
        cases hu : p.used with
        | false =>
          have HE : Hid (deepV (ps.map PgV.pg) 12 root = k) := by
            show _ = _
            rw [HD.out, hf, deep_no (by rw [hv]; exact hu)]
            omega
          rw [hu] at d0
          clear hv hp hrd hf hf2
          go_wp2_with fail
          refine (l1In_yes m 0 ((n : Int) - 1) _ h0 h1).mono ?_
          rintro e w2 ⟨rfl, rfl⟩
          go_wp2
          go_ret
          exact ⟨by rw [HE.out]; rfl, B0.out⟩
        | true =>
          rw [hu] at d0
          cases hlf : p.leaf with
          | true =>
            have HE : Hid (deepV (ps.map PgV.pg) 12 root = k + 1) := by
              show _ = _
              rw [HD.out, hf, deep_end (by rw [hv]; exact hu) (by rw [hv]; unfold kidsP; exact if_pos hlf)]
            rw [hlf] at d1
            clear hv hp hrd hf hf2
            go_wp2_with fail
            refine (l1In_yes m 0 ((n : Int) - 1) _ h0 h1).mono ?_
            rintro e w2 ⟨rfl, rfl⟩
            go_wp2
            go_ret
            exact ⟨by rw [HE.out]; rfl, B0.out⟩
          | false =>
            have hkk : kidsP (pageAt (ps.map PgV.pg) m) = p.xs := by
              rw [hv]
              unfold kidsP
              exact if_neg (by rw [show p.pg.leaf = p.leaf from rfl, hlf]; exact Bool.false_ne_true)
            have hu2 : (pageAt (ps.map PgV.pg) m).used = true := by rw [hv]; exact hu
            have hpn := HPS.out p (List.mem_of_getElem? hp)
            have hpl := hrd.1.1
            rw [hlf] at d1
            by_cases he : p.n = 0
            · have HE : Hid (deepV (ps.map PgV.pg) 12 root = k + 1) := by
                show _ = _
                rw [HD.out, hf, deep_end hu2 (by rw [hkk]; exact List.eq_nil_of_length_eq_zero (by omega))]
              rw [he] at d2
              clear hv hp hrd hf hf2 hkk hu2 hpl
              go_wp2_with fail
              refine (l1In_yes m 0 ((n : Int) - 1) _ h0 h1).mono ?_
              rintro e w2 ⟨rfl, rfl⟩
              go_wp2
              go_ret
              exact ⟨by rw [HE.out]; rfl, B0.out⟩
            · obtain ⟨bb, offb, x, hea, hbl2, hx, e0, -⟩ := rdIt_at hrd (show 0 < p.n by omega)
              have HE : Hid (deepV (ps.map PgV.pg) 12 root = (k + 1 : Nat) + deepV (ps.map PgV.pg) (12 - (k + 1)) x.id) := by
                obtain ⟨y, r, e⟩ : ∃ y r, p.xs = y :: r := by
                  cases hxs : p.xs with
                  | nil => rw [hxs] at hx; cases hx
                  | cons y r => exact ⟨y, r, rfl⟩
                rw [e] at hx
                obtain rfl : y = x := by simpa using hx
                show _ = _
                rw [HD.out, hf, deep_on hu2 (hkk.trans e), hf2]
                omega
              rw [hea] at d2
              have z3 : ((p.n : Int) == 0) = false := by simp; omega
              have z4 : (0 : Int) < p.n := by omega
              rw [Nat.zero_mul, Nat.add_zero] at e0
              clear hv hp hrd hf hf2 hkk hu2 hpl hx HD
              go_wp2_with fail
              refine (l1In_yes m 0 ((n : Int) - 1) _ h0 h1).mono ?_
              rintro e w2 ⟨rfl, rfl⟩
              go_wp2
              go_roundw
              case rel => exact ⟨k + 1, x.id, by omega, rfl, by go_num, HE, trivial⟩
              case measure => simp [intOf]; omega
      · have HE : Hid (deepV (ps.map PgV.pg) 12 root = k) := by
          show _ = _
          rw [HD.out, hf, deep_no (by rw [pageAt_no (by rw [List.length_map, HL.out]; exact hin)]; rfl)]
          omega
        clear hf hf2
        go_wp2_with fail
        refine (l1In_no i 0 ((n : Int) - 1) _ hin).mono ?_
        rintro e w2 ⟨rfl, rfl⟩
        go_wp2
        go_ret
        exact ⟨by rw [HE.out]; rfl, B0.out⟩
    · obtain rfl : k = 12 := by omega
      go_wp2
      go_ret
      exact ⟨by rw [HD.out]; rfl, B0.out⟩
end Go.Proofs.YtfefggcfeppeiaaGreat
