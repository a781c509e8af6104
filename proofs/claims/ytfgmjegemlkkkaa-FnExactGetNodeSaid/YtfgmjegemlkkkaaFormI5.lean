/- The program's GetNode. -/
import Derived.Test.YtfgmjegemlkkkaaFormI4
import Derived.Test.YtfgmjegemlkkkaaNodeI4
import Derived.Laws.BitsAllLaws
namespace Go.Proofs.Ytfgmjegemlkkkaa
open Go.RowKit

set_option maxRecDepth 100000 in
theorem not16 (q : Int) (h : 0 ≤ q) (h' : q ≤ 255) : bits .andNot .u8 q 16 = cntP q := by
  obtain ⟨a, rfl⟩ := Int.eq_ofNat_of_zero_le h
  have h2 : ∀ a : Fin 256, (a.val &&& (255 - 16)) = a.val - 16 * (a.val / 16 % 2) := by decide
  have h3 := h2 ⟨a, by omega⟩
  simp only at h3
  rw [u8_andNot (a : Int) 16 (by omega) (by omega) (by omega) (by omega)]
  unfold cntP
  simp only [Int.toNat_natCast]
  rw [show (16 : Int).toNat = 16 from rfl, h3]
  omega
set_option maxRecDepth 100000 in
theorem and16 (q : Int) (h : 0 ≤ q) (h' : q ≤ 255) : bits .and .u8 q 16 = 16 * (q / 16 % 2) := by
  obtain ⟨a, rfl⟩ := Int.eq_ofNat_of_zero_le h
  have h2 : ∀ a : Fin 256, (a.val &&& 16) = 16 * (a.val / 16 % 2) := by decide
  have h3 := h2 ⟨a, by omega⟩
  simp only at h3
  rw [u8_and (a : Int) 16 (by omega) (by omega) (by omega) (by omega)]
  simp only [Int.toNat_natCast]
  rw [show (16 : Int).toNat = 16 from rfl, h3]
  omega
theorem cntP_at (q : Int) (h : 0 ≤ q) (h' : q ≤ 255) : ∃ k : Nat, cntP q = k ∧ k ≤ 255 := ⟨(cntP q).toNat, by unfold cntP; omega, by unfold cntP; omega⟩

set_option maxHeartbeats 3200000 in
set_option maxRecDepth 100000 in
theorem iGetNode_any : CGetNode 11 := by
  intro a n c bs w h hz hn
  have HL := Lib.hid h.1.1
  have HR := Lib.hid h
  have K := Lib.hid (blk_new w #[.bool false, .slice none 0 0] 26)
  have B0 := Lib.hid (new_below w (.cells #[.bool false, .slice none 0 0] 26))
  by_cases h25 : n = 25
  · subst h25
    obtain ⟨b, off, rfl, hc⟩ := h.2 (by omega)
    have c0 := hc 0 (by omega)
    rw [Nat.add_zero] at c0
    have hbl : b < w.heap.size := World.block_lt_of_cell? w ⟨b, off, none⟩ c0
    obtain ⟨q, hq⟩ : ∃ q, bs.getD 0 0 = q := ⟨_, rfl⟩
    obtain ⟨q0, q1⟩ := hz 0
    rw [hq] at c0 q0 q1
    obtain ⟨kk, hk, hk2⟩ := cntP_at q q0 q1
    have hb1 := not16 q q0 q1
    rw [hk] at hb1
    have hb2 := and16 q q0 q1
    obtain ⟨mm, hmm⟩ : ∃ mm : Int, 16 * (q / 16 % 2) = mm := ⟨_, rfl⟩
    have hlf : (mm != 0) = leafP q := by
      unfold leafP
      by_cases e : q / 16 % 2 = 1
      · rw [decide_eq_true e, bne_iff_ne]; omega
      · rw [decide_eq_false e, bne_eq_false_iff_eq]; omega
    obtain ⟨lf, hlf2⟩ : ∃ lf, leafP q = lf := ⟨_, rfl⟩
    rw [hmm] at hb2
    rw [hlf2] at hlf
    have hnc := HR.out.1.2.1
    have hm := HR.out.1.2.2.1
    unfold maxLen at hm
    have z1 : ¬ c = 1 := by omega
    have hwr : wrap64 (kk : Int) = kk := by rw [← IntWalk.i64_left, IntKind.wrap_i64]; omega
    have HK := Lib.hid (show cntP (bs.getD 0 0) = kk by rw [hq]; exact hk)
    have HF := Lib.hid (show leafP (bs.getD 0 0) = lf by rw [hq]; exact hlf2)
    have R1 : Hid (RdI .u8 w (some ⟨b, off + 1, none⟩) 24 (c - 1) (bs.drop 1)) := by
      refine Lib.hid ⟨⟨by rw [List.length_drop, HL.out], by omega, by unfold maxLen; omega, fun e => by cases e⟩, fun _ => ⟨b, off + 1, rfl, fun i hi => ?_⟩⟩
      rw [List.getD_eq_getElem?_getD, List.getElem?_drop, ← List.getD_eq_getElem?_getD, Nat.add_assoc]
      exact hc (1 + i) (by omega)
    clear h hc hmm hlf2 hk hq
    have CF := Lib.hid (iFirst_any (some ⟨b, off + 1, none⟩) (c - 1) kk bs _ (R1.out.below B0.out) HL.out hz hk2)
    go_enter Try.func11, Try.ntmps11
    go_wp2_with fail
    refine CF.out.mono ?_
    rintro e w1 ⟨v, rfl, ho, hb⟩
    have B1 := Lib.hid (B0.out.trans (hb.mono B0.out.size))
    have s1 := hb.size
    simp at s1
    obtain ⟨k0, f0⟩ := below_keep hb (by simp) _ _ K.out
    have hbl1 : b < w1.heap.size := by omega
    have hbne : b ≠ w.heap.size := by omega
    clear CF B0 K R1
    cases ht : (decide (kk ≤ 4) && hasAll bs kk) with
    | false =>
      have hok : Hid (okN bs = false) := by
        show okN bs = false
        cases e : okN bs with
        | false => rfl
        | true =>
          obtain ⟨h1, h2, -⟩ := okN_told e HK.out
          rw [h2, decide_eq_true h1] at ht
          cases ht
      clear ho ht hb
      go_wp2
      refine bodyPost_ret (v := .tuple #[.agg #[.bool false, .slice none 0 0], .bool false]) (by simp [results, Try.results11, go_sem, k0]) rfl ?_
      exact retN_no hok.out ((B1.out.setCell (p := ⟨w.heap.size, 0, none⟩) (Nat.le_refl _) _).setCell (p := ⟨w.heap.size, 1, none⟩) (Nat.le_refl _) _)
    | true =>
      obtain ⟨va, vc, hv, -⟩ := OwnS.rd (ho ht)
      rw [rawAll_len] at hv
      subst hv
      have HO : Hid (OwnS itLay 35 w1 (w.heap.size + 1) (.slice va kk vc) (rawAll bs kk)) := Lib.hid (by have := ho ht; simpa using this)
      simp only [Bool.and_eq_true, decide_eq_true_eq] at ht
      obtain ⟨h4, hAll⟩ := ht
      have c1 : w1.cell? ⟨b, off, none⟩ = some (Value.int .u8 q) := (B1.out.cell (p := ⟨b, off, none⟩) hbl).trans c0
      have hnb : b ≠ w1.heap.size := by omega
      have hs1 : w.heap.size < w1.heap.size := by omega
      obtain ⟨k1, f1⟩ := blk_alloc (.cells #[.bool lf, .slice va kk vc] 26) hs1 _ _ ⟨k0, f0⟩
      clear ho hb c0 hAll
      by_cases h5 : kk = 4
      · subst h5
        have RR0 : Hid (RdI .u8 w (some ⟨b, off, none⟩) 0 0 (bs.drop (1 + 6 * 4))) := by
          refine Lib.hid ⟨⟨by rw [List.length_drop, HL.out], by omega, by unfold maxLen; omega, fun e => by cases e⟩, fun h => by omega⟩
        have RR : Hid (RdI .u8 (w1.alloc (.cells #[.bool lf, .slice va 4 vc] 26)) (some ⟨b, off, none⟩) 0 0 (bs.drop (1 + 6 * 4))) := Lib.hid (RdI.below RR0.out (B1.out.trans ((new_below w1 (.cells #[.bool lf, .slice va 4 vc] 26)).mono B1.out.size)))
        clear RR0
        have CZ := Lib.hid (iAllZero_any (some ⟨b, off, none⟩) _ _ (bs.drop (1 + 6 * 4)) _ RR.out (by omega))
        clear RR
        go_wp2_with fail
        refine CZ.out.mono ?_
        rintro e w2 ⟨rfl, b2⟩
        have s2 := b2.size
        simp at s2
        obtain ⟨j0, g0⟩ := below_keep b2 (by simp; omega) _ _ ⟨k1, f1⟩
        obtain ⟨m0, n0⟩ := below_keep b2 (by simp) _ _ (blk_new w1 #[.bool lf, .slice va 4 vc] 26)
        have B2 := Lib.hid (B1.out.trans ((new_below w1 (.cells #[.bool lf, .slice va 4 vc] 26)).mono B1.out.size |>.trans (b2.mono (Nat.le_trans B1.out.size (by simp)))))
        have HO2 := Lib.hid (OwnS.below (OwnS.below HO.out (new_below w1 (.cells #[.bool lf, .slice va 4 vc] 26))) b2)
        have hl1 : w.heap.size < w2.heap.size := by omega
        have hl2 : w1.heap.size < w2.heap.size := by omega
        clear CZ b2 k1 f1 k0 f0 HO
        cases hzr : zeros (bs.drop (1 + 6 * 4)) with
        | false =>
          have hok : Hid (okN bs = false) := by
            show okN bs = false
            cases e : okN bs with
            | false => rfl
            | true =>
              obtain ⟨-, -, h3, -⟩ := okN_told e HK.out
              rw [h3] at hzr
              cases hzr
          clear hzr
          go_wp2
          refine bodyPost_ret (v := .tuple #[.agg #[.bool false, .slice none 0 0], .bool false]) (by simp [results, Try.results11, go_sem, j0]) rfl ?_
          exact retN_no hok.out ((B2.out.setCell (p := ⟨w.heap.size, 0, none⟩) (Nat.le_refl _) _).setCell (p := ⟨w.heap.size, 1, none⟩) (Nat.le_refl _) _)
        | true =>
          have RD : Hid (RdS itLay w2 va 4 vc (rawAll bs 4)) := by
            have := rdS_owns HO2.out
            rw [rawAll_len] at this
            exact Lib.hid this
          have CN := iNodeOk_any lf va 4 vc (rawAll bs 4) w2 RD.out
          have m00 := m0 0
          have m01 := m0 1
          simp at m00 m01
          cases hno : nodeOkV lf (rawAll bs 4) with
          | false =>
            have hok : Hid (okN bs = false) := by
              show okN bs = false
              cases e : okN bs with
              | false => rfl
              | true =>
                obtain ⟨-, -, -, h3⟩ := okN_told e HK.out
                rw [HF.out, hno] at h3
                cases h3
            rw [hno] at CN
            replace CN := Lib.hid CN
            clear hzr hno
            go_wp2_with fail
            refine CN.out.mono ?_
            rintro e w3 ⟨rfl, b3⟩
            obtain ⟨j3, g3⟩ := below_keep b3 hl1 _ _ ⟨j0, g0⟩
            have B3 := Lib.hid (B2.out.trans (b3.mono B2.out.size))
            clear b3 j0 m0
            go_wp2
            refine bodyPost_ret (v := .tuple #[.agg #[.bool false, .slice none 0 0], .bool false]) (by simp [results, Try.results11, go_sem, j3]) rfl ?_
            exact retN_no hok.out ((B3.out.setCell (p := ⟨w.heap.size, 0, none⟩) (Nat.le_refl _) _).setCell (p := ⟨w.heap.size, 1, none⟩) (Nat.le_refl _) _)
          | true =>
            obtain ⟨y1, y2, y3⟩ := okN_read HL.out hz HK.out hzr (by rw [HF.out]; exact hno)
            have hok := Lib.hid y1
            have hlfN := Lib.hid (y2.trans HF.out)
            have hls := Lib.hid y3
            rw [hno] at CN
            replace CN := Lib.hid CN
            clear hzr hno y1 y2 y3
            go_wp2_with fail
            refine CN.out.mono ?_
            rintro e w3 ⟨rfl, b3⟩
            obtain ⟨j3, g3⟩ := below_keep b3 hl1 _ _ ⟨j0, g0⟩
            obtain ⟨m3, -⟩ := below_keep b3 hl2 _ _ ⟨m0, n0⟩
            have B3 := Lib.hid (B2.out.trans (b3.mono B2.out.size))
            have HO3 := Lib.hid (OwnS.below HO2.out b3)
            clear b3 j0 m0 m00 m01
            go_wp2
            refine bodyPost_ret (v := .tuple #[.agg #[.bool lf, .slice va 4 vc], .bool true]) (by simp [results, Try.results11, go_sem, j3]) rfl ?_
            refine ⟨.slice va 4 vc, by rw [hok.out, hlfN.out]; rfl, ?_, (B3.out.setCell (p := ⟨w.heap.size, 0, none⟩) (Nat.le_refl _) _).setCell (p := ⟨w.heap.size, 1, none⟩) (Nat.le_refl _) _⟩
            rw [hok.out, if_pos rfl, hls.out]
            have O := ownS_set (ownS_set HO3.out (g := w.heap.size) (fun hj => by have := (HO3.out.lt _ hj).1; omega) 0 (.bool lf)) (g := w.heap.size) (fun hj => by have := (HO3.out.lt _ hj).1; omega) 1 (.slice va 4 vc)
            exact OwnS.mono (L := itLay) O (by omega)
      · have h6 : kk < 4 := by omega
        have RR0 : Hid (RdI .u8 w (some ⟨b, off + (1 + kk * 6), none⟩) (25 - (1 + kk * 6)) (25 - (1 + kk * 6)) (bs.drop (1 + 6 * kk))) := by
          obtain ⟨b', off', e', hc⟩ := HR.out.2 (by omega)
          cases e'
          refine Lib.hid ⟨⟨by rw [List.length_drop, HL.out]; omega, by omega, by unfold maxLen; omega, fun e => by cases e⟩, fun _ => ⟨b, off + (1 + kk * 6), rfl, fun i hi => ?_⟩⟩
          rw [List.getD_eq_getElem?_getD, List.getElem?_drop, ← List.getD_eq_getElem?_getD, Nat.add_assoc, Nat.mul_comm 6 kk]
          exact hc (1 + kk * 6 + i) (by omega)
        have RR : Hid (RdI .u8 (w1.alloc (.cells #[.bool lf, .slice va kk vc] 26)) (some ⟨b, off + (1 + kk * 6), none⟩) (25 - (1 + kk * 6)) (25 - (1 + kk * 6)) (bs.drop (1 + 6 * kk))) := Lib.hid (RdI.below RR0.out (B1.out.trans ((new_below w1 (.cells #[.bool lf, .slice va kk vc] 26)).mono B1.out.size)))
        clear RR0
        have CZ := Lib.hid (iAllZero_any (some ⟨b, off + (1 + kk * 6), none⟩) _ _ (bs.drop (1 + 6 * kk)) _ RR.out (by omega))
        clear RR
        go_wp2_with fail
        refine CZ.out.mono ?_
        rintro e w2 ⟨rfl, b2⟩
        have s2 := b2.size
        simp at s2
        obtain ⟨j0, g0⟩ := below_keep b2 (by simp; omega) _ _ ⟨k1, f1⟩
        obtain ⟨m0, n0⟩ := below_keep b2 (by simp) _ _ (blk_new w1 #[.bool lf, .slice va kk vc] 26)
        have B2 := Lib.hid (B1.out.trans ((new_below w1 (.cells #[.bool lf, .slice va kk vc] 26)).mono B1.out.size |>.trans (b2.mono (Nat.le_trans B1.out.size (by simp)))))
        have HO2 := Lib.hid (OwnS.below (OwnS.below HO.out (new_below w1 (.cells #[.bool lf, .slice va kk vc] 26))) b2)
        have hl1 : w.heap.size < w2.heap.size := by omega
        have hl2 : w1.heap.size < w2.heap.size := by omega
        clear CZ b2 k1 f1 k0 f0 HO
        cases hzr : zeros (bs.drop (1 + 6 * kk)) with
        | false =>
          have hok : Hid (okN bs = false) := by
            show okN bs = false
            cases e : okN bs with
            | false => rfl
            | true =>
              obtain ⟨-, -, h3, -⟩ := okN_told e HK.out
              rw [h3] at hzr
              cases hzr
          clear hzr
          go_wp2
          refine bodyPost_ret (v := .tuple #[.agg #[.bool false, .slice none 0 0], .bool false]) (by simp [results, Try.results11, go_sem, j0]) rfl ?_
          exact retN_no hok.out ((B2.out.setCell (p := ⟨w.heap.size, 0, none⟩) (Nat.le_refl _) _).setCell (p := ⟨w.heap.size, 1, none⟩) (Nat.le_refl _) _)
        | true =>
          have RD : Hid (RdS itLay w2 va kk vc (rawAll bs kk)) := by
            have := rdS_owns HO2.out
            rw [rawAll_len] at this
            exact Lib.hid this
          have CN := iNodeOk_any lf va kk vc (rawAll bs kk) w2 RD.out
          have m00 := m0 0
          have m01 := m0 1
          simp at m00 m01
          cases hno : nodeOkV lf (rawAll bs kk) with
          | false =>
            have hok : Hid (okN bs = false) := by
              show okN bs = false
              cases e : okN bs with
              | false => rfl
              | true =>
                obtain ⟨-, -, -, h3⟩ := okN_told e HK.out
                rw [HF.out, hno] at h3
                cases h3
            rw [hno] at CN
            replace CN := Lib.hid CN
            clear hzr hno
            go_wp2_with fail
            refine CN.out.mono ?_
            rintro e w3 ⟨rfl, b3⟩
            obtain ⟨j3, g3⟩ := below_keep b3 hl1 _ _ ⟨j0, g0⟩
            have B3 := Lib.hid (B2.out.trans (b3.mono B2.out.size))
            clear b3 j0 m0
            go_wp2
            refine bodyPost_ret (v := .tuple #[.agg #[.bool false, .slice none 0 0], .bool false]) (by simp [results, Try.results11, go_sem, j3]) rfl ?_
            exact retN_no hok.out ((B3.out.setCell (p := ⟨w.heap.size, 0, none⟩) (Nat.le_refl _) _).setCell (p := ⟨w.heap.size, 1, none⟩) (Nat.le_refl _) _)
          | true =>
            obtain ⟨y1, y2, y3⟩ := okN_read HL.out hz HK.out hzr (by rw [HF.out]; exact hno)
            have hok := Lib.hid y1
            have hlfN := Lib.hid (y2.trans HF.out)
            have hls := Lib.hid y3
            rw [hno] at CN
            replace CN := Lib.hid CN
            clear hzr hno y1 y2 y3
            go_wp2_with fail
            refine CN.out.mono ?_
            rintro e w3 ⟨rfl, b3⟩
            obtain ⟨j3, g3⟩ := below_keep b3 hl1 _ _ ⟨j0, g0⟩
            obtain ⟨m3, -⟩ := below_keep b3 hl2 _ _ ⟨m0, n0⟩
            have B3 := Lib.hid (B2.out.trans (b3.mono B2.out.size))
            have HO3 := Lib.hid (OwnS.below HO2.out b3)
            clear b3 j0 m0 m00 m01
            go_wp2
            refine bodyPost_ret (v := .tuple #[.agg #[.bool lf, .slice va kk vc], .bool true]) (by simp [results, Try.results11, go_sem, j3]) rfl ?_
            refine ⟨.slice va kk vc, by rw [hok.out, hlfN.out]; rfl, ?_, (B3.out.setCell (p := ⟨w.heap.size, 0, none⟩) (Nat.le_refl _) _).setCell (p := ⟨w.heap.size, 1, none⟩) (Nat.le_refl _) _⟩
            rw [hok.out, if_pos rfl, hls.out]
            have O := ownS_set (ownS_set HO3.out (g := w.heap.size) (fun hj => by have := (HO3.out.lt _ hj).1; omega) 0 (.bool lf)) (g := w.heap.size) (fun hj => by have := (HO3.out.lt _ hj).1; omega) 1 (.slice va kk vc)
            exact OwnS.mono (L := itLay) O (by omega)
  · have hne : ((n : Int) != 25) = true := by rw [bne_iff_ne]; omega
    have hok : Hid (okN bs = false) := Lib.hid (okN_len (by rw [HL.out]; exact h25))
    clear h h25
    go_enter Try.func11, Try.ntmps11
    go_wp2
    refine bodyPost_ret (v := .tuple #[.agg #[.bool false, .slice none 0 0], .bool false]) (by simp [results, Try.results11, go_sem]) rfl ?_
    exact retN_no hok.out B0.out
end Go.Proofs.Ytfgmjegemlkkkaa
