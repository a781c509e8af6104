/- The program's BookOk. -/
import Derived.Test.YtfefggcfeppeiaaGreatBookI8ZLooks
namespace Go.Proofs.YtfefggcfeppeiaaGreat
open Go.RowKit

set_option maxRecDepth 100000 in
set_option maxHeartbeats 3200000 in
theorem iBookOk_any : CBookOk 26 := by
  intro root a n cap ps w h hn hps hT
  show Calls _ _ _ _ _
  have hnc := h.1.1.2.1
  have hm := h.1.1.2.2.1
  unfold maxLen at hm
  have HL := Lib.hid h.1.1.1
  have B0 := new_below w (.cells #[.int .i64 root, .slice a n cap] 26)
  have HR := Lib.hid (h.below B0)
  have hV := Lib.hid (bookOk_refs (ps.map PgV.pg) root)
  have hll : (ps.map PgV.pg).length = n := by rw [List.length_map, HL.out]
  by_cases h48 : n ≤ 48
  · have hd : decide ((ps.map PgV.pg).length ≤ 48) = true := decide_eq_true (by rw [hll]; exact h48)
    have z48 : ¬ (n : Int) > 48 := by omega
    cases hu : (pageAt (ps.map PgV.pg) root).used with
    | false =>
      have hv : Hid (bookOkV (ps.map PgV.pg) root = false) := by
        show _ = _
        rw [hV.out, hd, hu]
        rfl
      have C := Lib.hid (iUses_any root root a n cap ps _ HR.out false hu)
      clear h hps hT hu hd hll
      go_enter Tryz.func26, Tryz.ntmps26
      go_wp2_with fail
      refine C.out.mono ?_
      rintro e w1 ⟨rfl, b1⟩
      go_wp2
      go_ret
      exact ⟨ret_bool hv.out.symm, B0.trans (b1.mono B0.size)⟩
    | true =>
      have hr : (Lit.int .i64 root).wf = true := by
        have h5 := used_in hu
        rw [hll] at h5
        obtain ⟨xm, rfl⟩ := Int.eq_ofNat_of_zero_le h5.1
        exact wf_idx (show xm < n by omega) hn
      have hv : Hid (bookOkV (ps.map PgV.pg) root = ((ps.map PgV.pg).all pgOk && refsOk (ps.map PgV.pg) root)) := by
        show _ = _
        rw [hV.out, hd, hu]
        rfl
      have C := Lib.hid (iUses_any root root a n cap ps _ HR.out true hu)
      have K := Lib.hid (Loc.new w #[.int .i64 root, .slice a n cap] 26)
      have CE := Lib.hid (fun (W : World) (hB : Below w.heap.size w W) => iEntries_any root a n cap ps W (h.below hB) hn hps hr hT)
      clear h hps hu hd hll
      go_enter Tryz.func26, Tryz.ntmps26
      go_wp2_with fail
      refine C.out.mono ?_
      rintro e w1 ⟨rfl, b1⟩
      have K1 := Lib.hid (K.out.below b1)
      have HB1 := B0.trans (b1.mono B0.size)
      have HR1 := Lib.hid (HR.out.below b1)
      have k1 := K1.out.2.1 1
      simp at k1
      clear b1 B0 K HR
      go_wp2
      go_loopw [19] (fun i wr => ∃ k : Nat, k ≤ n ∧ i = .int .i64 (k : Int) ∧ Hid (∀ j q, j < k → ps[j]? = some q → pgOk q.pg = true) ∧ Below w1.heap.size w1 wr) (fun i _ => n - (intOf i).toNat)
      case atStart => exact ⟨0, Nat.zero_le _, rfl, Lib.hid (fun j q hj => by omega), Below.refl _ _⟩
      case round =>
        clear k1
        obtain ⟨k, hk, rfl, HA, hB⟩ := hrel
        by_cases hlt : k < n
        · obtain ⟨b, off, p, rfl, hbl, hp, hrd, d0, d1, d2⟩ := rdP_at (HR1.out.below hB) hlt
          have HP := Lib.hid hp
          have z0 : (0 : Int) ≤ k := by omega
          have z1 : (k : Int) < n := by omega
          have bA := new_below wr (.cells #[.bool p.used, .bool p.leaf, .slice p.a p.n p.cap] 70)
          cases he : pgOk p.pg with
          | true =>
            have C2 := Lib.hid (iPageOk_any p.used p.leaf p.a p.n p.cap p.xs _ (hrd.below bA) true he)
            have HA2 : Hid (∀ j q, j < k + 1 → ps[j]? = some q → pgOk q.pg = true) := Lib.hid (fun j q hj hq => by
              by_cases hjk : j < k
              · exact HA.out j q hjk hq
              · obtain rfl : j = k := by omega
                obtain rfl : p = q := Option.some.inj (HP.out.symm.trans hq)
                exact he)
            clear hp hrd he
            go_wp2_with fail
            refine C2.out.mono ?_
            rintro e w2 ⟨rfl, b2⟩
            have hB2 := hB.trans ((bA.trans (b2.mono bA.size)).mono hB.size)
            clear b2
            go_wp2
            go_roundw
            case rel => exact ⟨k + 1, by omega, by go_num, HA2, hB2⟩
            case measure => simp [intOf]; omega
          | false =>
            have C2 := Lib.hid (iPageOk_any p.used p.leaf p.a p.n p.cap p.xs _ (hrd.below bA) false he)
            have hF : Hid (bookOkV (ps.map PgV.pg) root = false) := by
              show _ = _
              rw [hv.out, all_no HP.out he]
              rfl
            clear hp hrd he
            go_wp2_with fail
            refine C2.out.mono ?_
            rintro e w2 ⟨rfl, b2⟩
            have hB2 := hB.trans ((bA.trans (b2.mono bA.size)).mono hB.size)
            clear b2
            go_wp2
            go_ret
            exact ⟨ret_bool hF.out.symm, HB1.trans (hB2.mono HB1.size)⟩
        · obtain rfl : k = n := by omega
          have hall : (ps.map PgV.pg).all pgOk = true := by
            rw [List.all_eq_true]
            intro x hx
            obtain ⟨q, hq, rfl⟩ := List.mem_map.1 hx
            obtain ⟨j, hj⟩ := List.mem_iff_getElem?.1 hq
            exact HA.out j q (by have := (List.getElem?_eq_some_iff.1 hj).1; rw [HL.out] at this; exact this) hj
          have hF : Hid (refsOk (ps.map PgV.pg) root = bookOkV (ps.map PgV.pg) root) := by
            show _ = _
            rw [hv.out, hall]
            rfl
          have HBw := HB1.trans (hB.mono HB1.size)
          have C3 := Lib.hid (CE.out wr HBw)
          have kk := (K1.out.below hB).2.1
          have kk0 := kk 0
          have kk1 := kk 1
          simp at kk0 kk1
          clear hall kk
          go_wp2_with fail
          refine C3.out.mono ?_
          rintro e w2 ⟨rfl, b2⟩
          go_wp2
          go_ret
          exact ⟨ret_bool hF.out, HBw.trans (b2.mono HBw.size)⟩
  · have hd : decide ((ps.map PgV.pg).length ≤ 48) = false := decide_eq_false (by rw [hll]; exact h48)
    have hv : Hid (bookOkV (ps.map PgV.pg) root = false) := by
      show _ = _
      rw [hV.out, hd]
      rfl
    have z48 : (n : Int) > 48 := by omega
    clear h hps hT hd hll
    go_enter Tryz.func26, Tryz.ntmps26
    go_wp2
    go_ret
    exact ⟨ret_bool hv.out.symm, B0⟩
end Go.Proofs.YtfefggcfeppeiaaGreat
