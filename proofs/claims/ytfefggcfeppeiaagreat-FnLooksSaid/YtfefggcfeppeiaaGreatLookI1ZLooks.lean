/- The program's Deep. -/
import Derived.Test.YtfefggcfeppeiaaGreatLookCZLooks
import Derived.Test.YtfefggcfeppeiaaGreatLookYZLooks
import Derived.Test.YtfefggcfeppeiaaGreatBookI7ZLooks
namespace Go.Proofs.YtfefggcfeppeiaaGreat
open Go.RowKit
attribute [local go_sem ↓] Go.wp_at_zero Go.wp_at_succ

set_option maxRecDepth 100000 in
set_option maxHeartbeats 1600000 in
theorem iDeep_any (root : Int) (a : Option Addr) (n cap : Nat) (ps : List PgV) (w : World) (h : RdP w a n cap ps) (_ : n ≤ 1099511627776) (hps : ∀ p ∈ ps, p.n ≤ 1099511627776) :
    Calls Tryz.prog 20 #[.agg #[.int .i64 root, .slice a n cap]] w fun e w' => e = .returned (.int .i64 ((deepV (ps.map PgV.pg) 12 root : Nat) : Int)) ∧ Below w.heap.size w w' := by
  have HL := Lib.hid h.1.1.1
  have hnc := h.1.1.2.1
  have hm := h.1.1.2.2.1
  unfold maxLen at hm
  obtain ⟨W0, hW0⟩ : ∃ W0, W0 = w.alloc (.cells #[.int .i64 root, .slice a n cap] 26) := ⟨_, rfl⟩
  have b0 : Below w.heap.size w W0 := by subst hW0; exact new_below w _
  have K0 : Loc W0 w.heap.size #[.int .i64 root, .slice a n cap] := by subst hW0; exact Loc.new w _ _
  have HR := Lib.hid h
  have HPS := Lib.hid hps
  have B0 := Lib.hid b0
  replace K0 := Lib.hid K0
  clear h b0 hps
  go_enter Tryz.func20, Tryz.ntmps20
  go_wp2_with fail
  rw [← hW0]
  clear hW0
  go_loopw [3, 8] (fun v c wr => ∃ (k : Nat) (i : Int), k ≤ 12 ∧ v = .int .i64 i ∧ c = .int .i64 (k : Int) ∧ Hid (deepV (ps.map PgV.pg) 12 root = k + deepV (ps.map PgV.pg) (12 - k) i) ∧ Hid (Loc wr w.heap.size #[.int .i64 root, .slice a n cap]) ∧ Hid (Below w.heap.size w wr)) (fun _ c _ => 12 - (intOf c).toNat)
  case atStart => exact ⟨0, root, by omega, rfl, rfl, Lib.hid (by simp), K0, B0⟩
  case round =>
    clear K0 B0
    obtain ⟨k, i, hk, rfl, rfl, HD, K0, B0⟩ := hrel
    have k0 := K0.out.2.1 0
    have k1 := K0.out.2.1 1
    simp at k0 k1
    have hq := K0.out.1
    by_cases hlt : k < 12
    · obtain ⟨f, hf⟩ : ∃ f, 12 - k = f + 1 := ⟨11 - k, by omega⟩
      have hf2 : 12 - (k + 1) = f := by omega
      have z1 : (k : Int) < 12 := by omega
      cases hu : (pageAt (ps.map PgV.pg) i).used with
      | false =>
        have C := Lib.hid (iUses_any root i a n cap ps wr (HR.out.below B0.out) false hu)
        have HE : Hid (deepV (ps.map PgV.pg) 12 root = k) := by
          show _ = _
          rw [HD.out, hf, deep_no hu]
          omega
        clear hf hf2 hu
        go_wp2_with fail
        refine C.out.mono ?_
        rintro e w2 ⟨rfl, b2⟩
        go_wp2
        go_ret
        exact ⟨by rw [HE.out]; rfl, B0.out.trans (b2.mono B0.out.size)⟩
      | true =>
        have C := Lib.hid (iUses_any root i a n cap ps wr (HR.out.below B0.out) true hu)
        have hin := used_in hu
        rw [List.length_map, HL.out] at hin
        obtain ⟨m, rfl⟩ := Int.eq_ofNat_of_zero_le hin.1
        have z2 : (m : Int) < n := hin.2
        have z0 : (0 : Int) ≤ m := by omega
        go_wp2_with fail
        refine C.out.mono ?_
        rintro e w2 ⟨rfl, b2⟩
        have K2 := Lib.hid (K0.out.below b2)
        have B2 := Lib.hid (B0.out.trans (b2.mono B0.out.size))
        replace k1 := K2.out.2.1 1
        simp at k1
        clear K0 B0 k0 hq b2 C
        obtain ⟨b, off, p, hpa, hbl, hp, hrd, d0, d1, d2⟩ := rdP_at (HR.out.below B2.out) (show m < n by omega)
        rw [hpa] at k1
        have hv : pageAt (ps.map PgV.pg) m = p.pg := pageAt_yes hp
        have CK := Lib.hid (iKids_any p.leaf p.a p.n p.cap p.xs w2 hrd (HPS.out p (List.mem_of_getElem? hp)))
        obtain ⟨ks, hks⟩ : ∃ ks, (kidsP ⟨true, p.leaf, p.xs⟩).map (fun x => x.id) = ks := ⟨_, rfl⟩
        rw [hks] at CK
        have hkp : (kidsP (pageAt (ps.map PgV.pg) m)).map (fun x => x.id) = ks := by rw [hv, ← hks]; rfl
        replace hpa := Lib.hid hpa
        clear hp hrd d0 hv hks
        go_wp2_with fail
        refine CK.out.mono ?_
        rintro e w3 ⟨v3, rfl, o3, b3⟩
        obtain ⟨a3, c3, rfl, r3⟩ := o3.rd
        have K3 := Lib.hid (K2.out.below b3)
        have B3 := Lib.hid (B2.out.trans (b3.mono B2.out.size))
        clear K2 B2 b3 o3 CK k1 d1 d2 hbl
        cases hkk : ks with
        | nil =>
          have HE : Hid (deepV (ps.map PgV.pg) 12 root = k + 1) := by
            show _ = _
            rw [hkk] at hkp
            rw [HD.out, hf, deep_end hu (List.map_eq_nil_iff.1 hkp)]
          subst hkk
          clear hkp hf hf2 hu
          go_wp2
          go_ret
          exact ⟨by rw [HE.out]; rfl, B3.out⟩
        | cons y r =>
          have HE : Hid (deepV (ps.map PgV.pg) 12 root = (k + 1 : Nat) + deepV (ps.map PgV.pg) (12 - (k + 1)) y) := by
            rw [hkk] at hkp
            obtain ⟨x, l, e, e1, -⟩ := List.map_eq_cons_iff.1 hkp
            show _ = _
            rw [HD.out, hf, deep_on hu e, hf2, e1]
            omega
          obtain ⟨rb, roff, rfl, hrc⟩ := r3.2 (by rw [hkk]; simp)
          have c0 := hrc 0 (by rw [hkk]; simp)
          rw [hkk] at c0
          simp at c0
          have hkl : Hid (ks.length = r.length + 1) := by rw [hkk]; exact Lib.hid rfl
          obtain ⟨kl, hkl2⟩ : ∃ kl, kl = ks.length := ⟨_, rfl⟩
          rw [← hkl2] at hkl
          rw [← hkk, ← hkl2]
          have hk1 := hkl.out
          have z3 : ((kl : Int) == 0) = false := by simp; omega
          have z4 : (0 : Int) < kl := by omega
          clear hkk hkp hf hf2 hu HD r3 hrc hkl2
          go_wp2
          go_roundw
          case rel => exact ⟨k + 1, y, by omega, rfl, by go_num, HE, K3, B3⟩
          case measure => simp [intOf]; omega
    · obtain rfl : k = 12 := by omega
      go_wp2
      go_ret
      exact ⟨by rw [HD.out]; rfl, B0.out⟩
theorem sDeep_c : CDeep 21 := fun root a n cap ps w h hn hp _ => sDeep_any root a n cap ps w h (by omega) (fun p hq => Nat.le_trans (hp p hq) (by decide))
theorem iDeep_c : CDeep 20 := fun root a n cap ps w h hn hp _ => iDeep_any root a n cap ps w h (by omega) (fun p hq => Nat.le_trans (hp p hq) (by decide))
end Go.Proofs.YtfefggcfeppeiaaGreat
