/- The program's Free. -/
import Derived.Test.YtfefggcfeppeiaaBookI3ZPages
namespace Go.Proofs.Ytfefggcfeppeiaa
open Go.RowKit

set_option maxRecDepth 100000 in
set_option maxHeartbeats 3200000 in
theorem iFree_any : CFree 21 := by
  intro root a n cap ps al nl cl ids w h hl hn hps
  have hnl := hl.1.2.1
  have hml := hl.1.2.2.1
  unfold maxLen at hml
  have HI := Lib.hid hl
  have HIL := Lib.hid hl.1.1
  clear hl
  have hnc := h.1.1.2.1
  have hm := h.1.1.2.2.1
  unfold maxLen at hm
  have HL := Lib.hid h.1.1.1
  obtain ⟨W0, hW0⟩ : ∃ W0, W0 = ((w.alloc (.cells #[.int .i64 root, .slice a n cap] 26)).alloc (.cells #[.int .i64 0, .slice none 0 0] 26)) := ⟨_, rfl⟩
  have hs0 : W0.heap.size = w.heap.size + 1 + 1 := by subst hW0; simp
  have B0 : Below w.heap.size w W0 := by subst hW0; exact (((Below.refl _ _).alloc (Nat.le_refl _) _).alloc (by simp) _)
  have KA : Loc W0 (w.heap.size) #[.int .i64 root, .slice a n cap] := by subst hW0; exact (Loc.new w _ _).alloc _
  have KR : Loc W0 (w.heap.size + 1) #[.int .i64 0, .slice none 0 0] := by
    subst hW0
    have := Loc.new (w.alloc (.cells #[.int .i64 root, .slice a n cap] 26)) #[.int .i64 0, .slice none 0 0] 26
    rw [show (w.alloc (.cells #[.int .i64 root, .slice a n cap] 26)).heap.size = w.heap.size + 1 by simp] at this
    exact this
  have CC := Lib.hid (iCopyB_any root a n cap ps W0 (h.below B0) hn hps)
  have a0 := KA.2.1
  replace KR := Lib.hid KR
  replace B0 := Lib.hid B0
  have ka0 := a0 0
  have ka1 := a0 1
  simp at ka0 ka1
  clear h hps a0 KA
  go_enter Try.func21, Try.ntmps21
  go_wp2_with fail
  rw [← hW0]
  clear hW0
  refine CC.out.mono ?_
  rintro e w3 ⟨v3, qs, rfl, hq, ho, hb⟩
  obtain ⟨va, vc, rfl⟩ := ho.shape
  have hql := len_pg hq
  rw [HL.out] at hql
  rw [hql]
  rw [hql] at ho
  have s3 := hb.size
  have HQ := Lib.hid hq
  obtain ⟨W4, hW4⟩ : ∃ W4, W4 = w3.alloc (.cells #[.int .i64 root, .slice va n vc] 26) := ⟨_, rfl⟩
  have hs4 : W4.heap.size = w3.heap.size + 1 := by subst hW4; simp
  have b34 : Below w3.heap.size w3 W4 := by subst hW4; exact new_below _ _
  have KG : Hid (Loc W4 w3.heap.size #[.int .i64 root, .slice va n vc]) := by subst hW4; exact Lib.hid (Loc.new w3 _ _)
  have HOL := Lib.hid (show ∀ g, (Value.slice va n vc).ownBlock = some g → g < w3.heap.size from fun g hg => (World.ownsRow.lt ho.row g hg).2)
  have KR3 := Lib.hid ((KR.out.below hb).below b34)
  have HO := Lib.hid (ho.below b34)
  have HB := Lib.hid ((B0.out.trans (hb.mono (by omega))).trans (b34.mono (show w.heap.size ≤ w3.heap.size by omega)))
  clear ho hq hb CC B0 b34 KR ka0 ka1
  have hs1 : w.heap.size + 1 < W0.heap.size := by omega
  replace hs0 := Lib.hid hs0
  replace hql := Lib.hid hql
  go_wp2
  rw [← hW4]
  replace hW4 := Lib.hid hW4
  go_loopw [12] (fun i wr => ∃ (k : Nat) (rs : List PgV), k ≤ nl ∧ i = .int .i64 (k : Int) ∧ Hid (OwnP wr W0.heap.size (.slice va n vc) rs) ∧ Hid (rs.map PgV.pg = freeV (ps.map PgV.pg) (ids.take k)) ∧ Hid (Loc wr (w.heap.size + 1) #[.int .i64 0, .slice none 0 0]) ∧ Hid (Loc wr w3.heap.size #[.int .i64 root, .slice va n vc]) ∧ Hid (Below w.heap.size w wr)) (fun i _ => nl - (intOf i).toNat)
  case atStart => exact ⟨0, qs, Nat.zero_le _, rfl, HO, HQ, KR3, KG, HB⟩
  case round =>
    clear HO HQ KR3 KG HB
    obtain ⟨k, rs, hk, rfl, HO, HQ, KR3, KG, HB⟩ := hrel
    have g0 := KG.out.2.1
    have hrl : Hid (rs.length = n) := Lib.hid (ownP_len HO.out)
    by_cases hlt : k < nl
    · obtain ⟨b, off, rfl, hc⟩ := HI.out.2 (by omega)
      have hck := hc k hlt
      have hbw : b < w.heap.size := World.block_lt_of_cell? w ⟨b, off + k, none⟩ hck
      rw [← HB.out.cell (p := ⟨b, off + k, none⟩) hbw] at hck
      obtain ⟨i, hik⟩ : ∃ i, ids.getD k 0 = i := ⟨_, rfl⟩
      rw [hik] at hck
      have hat : Hid (ids[k]? = some i) := by
        have : k < ids.length := by rw [HIL.out]; exact hlt
        show ids[k]? = some i
        rw [← hik]
        simp [List.getD, this]
      have z0 : (0 : Int) ≤ k := by omega
      have z1 : (k : Int) < nl := by omega
      clear hc hik
      by_cases hin : 0 ≤ i ∧ i ≤ (n : Int) - 1
      · obtain ⟨h0, h1⟩ := hin
        obtain ⟨m, rfl⟩ := Int.eq_ofNat_of_zero_le h0
        have hmn : m < n := by omega
        have z2 : (m : Int) < n := by omega
        obtain ⟨gb, rfl⟩ : ∃ g, va = some ⟨g, 0, none⟩ := own_head (ownP_row HO.out (ownP_len HO.out)) (by omega)
        have C1 := Lib.hid (iHas_yes root (some ⟨gb, 0, none⟩) n vc m wr hmn)
        have hgb := HO.out.lt.1
        have hgl := HOL.out gb rfl
        go_wp2_with fail
        refine C1.out.mono ?_
        rintro e w5 ⟨rfl, b5⟩
        have s5 := b5.size
        have HO5 := Lib.hid (HO.out.below b5)
        have HB5 := Lib.hid (HB.out.trans (b5.mono HB.out.size))
        have KG5 := Lib.hid (KG.out.below b5)
        have KR5 := Lib.hid (KR3.out.below b5)
        clear HO HB KG KR3 b5 g0 C1 hck
        have g0 := KG5.out.2.1
        obtain ⟨y, hy, q0, q1, q2⟩ := ownP_at HO5.out hmn
        have fz := HO5.out.froz
        have P6 : Hid (OwnP (((w5.setCell ⟨gb, m * 3, none⟩ (.bool false)).setCell ⟨gb, m * 3 + 1, none⟩ (.bool false)).setCell ⟨gb, m * 3 + 1 + 1, none⟩ (.slice none 0 0)) W0.heap.size (.slice (some ⟨gb, 0, none⟩) n vc) (rs.set m zeroPgV)) :=
          Lib.hid (HO5.out.set m zeroPgV (by rw [hrl.out]; exact hmn) rfl (ownS_none _ _ _) (apart_none _ 0 0).1 (fun _ _ _ _ => (apart_none _ 0 0).1))
        have M6 : Hid ((rs.set m zeroPgV).map PgV.pg = freeV (ps.map PgV.pg) (ids.take (k + 1))) := by
          show _ = _
          rw [freeV_more hat.out, ← HQ.out, putV_yes (by rw [List.length_map, hrl.out]; exact hmn), List.map_set]
          rfl
        have h3 : w.heap.size ≤ gb := by omega
        have B6 := Lib.hid (((HB5.out.setCell (p := ⟨gb, m * 3, none⟩) h3 (.bool false)).setCell (p := ⟨gb, m * 3 + 1, none⟩) h3 (.bool false)).setCell (p := ⟨gb, m * 3 + 1 + 1, none⟩) h3 (.slice none 0 0))
        have G6 := Lib.hid (((KG5.out.other (m * 3) (.bool false) (show gb ≠ w3.heap.size by omega)).other (m * 3 + 1) (.bool false) (show gb ≠ w3.heap.size by omega)).other (m * 3 + 1 + 1) (.slice none 0 0) (show gb ≠ w3.heap.size by omega))
        have R6 := Lib.hid (((KR5.out.other (m * 3) (.bool false) (show gb ≠ w.heap.size + 1 by omega)).other (m * 3 + 1) (.bool false) (show gb ≠ w.heap.size + 1 by omega)).other (m * 3 + 1 + 1) (.slice none 0 0) (show gb ≠ w.heap.size + 1 by omega))
        have hgl5 := HO5.out.lt.2
        clear hy HO5 HB5 KG5 KR5
        go_wp2
        go_roundw
        case rel => exact ⟨k + 1, rs.set m zeroPgV, by omega, by go_num, P6, M6, R6, G6, B6⟩
        case measure => simp [intOf]; omega
      · have M6 : Hid (rs.map PgV.pg = freeV (ps.map PgV.pg) (ids.take (k + 1))) := by
          show _ = _
          rw [freeV_more hat.out, ← HQ.out, putV_no (by rw [List.length_map, hrl.out]; exact hin)]
        have C1 := Lib.hid (iHas_no root i va n vc wr hin)
        go_wp2_with fail
        refine C1.out.mono ?_
        rintro e w5 ⟨rfl, b5⟩
        have HO5 := Lib.hid (HO.out.below b5)
        have HB5 := Lib.hid (HB.out.trans (b5.mono HB.out.size))
        have KG5 := Lib.hid (KG.out.below b5)
        have KR5 := Lib.hid (KR3.out.below b5)
        clear b5 C1
        go_wp2
        go_roundw
        case rel => exact ⟨k + 1, rs, by omega, by go_num, HO5, M6, KR5, KG5, HB5⟩
        case measure => simp [intOf]; omega
    · have HF : Hid (rs.map PgV.pg = freeV (ps.map PgV.pg) ids) := by
        have := HQ.out
        rw [List.take_of_length_le (by rw [HIL.out]; omega)] at this
        exact Lib.hid this
      obtain ⟨hRl, r0, fr⟩ := KR3.out
      have hRG : w.heap.size + 1 ≠ w3.heap.size := by omega
      go_wp2
      refine bodyPost_ret (v := .agg #[.int .i64 root, .slice va n vc]) (by simp [results, Try.results21, go_sem, r0]) rfl ?_
      exact book_end HO.out HF.out HB.out (by omega) (by omega) (by omega)
end Go.Proofs.Ytfefggcfeppeiaa
