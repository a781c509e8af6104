/- The program's BookNew, NodeAt, Put. -/
import Derived.Test.YtfefggcfeppeiaaBookI2ZPages
namespace Go.Proofs.Ytfefggcfeppeiaa
open Go.RowKit

set_option maxRecDepth 100000 in
set_option maxHeartbeats 1600000 in
theorem iBookNew_any : CBookNew 27 := by
  intro w
  have KR := Loc.new w #[.int .i64 0, .slice none 0 0] 26
  have B0 := new_below w (.cells #[.int .i64 0, .slice none 0 0] 26)
  go_enter Try.func27, Try.ntmps27
  go_wp2_with fail
  refine (iNewPage_any _).mono ?_
  rintro e w1 ⟨rfl, hb⟩
  have hs := hb.size
  simp at hs
  have L1 := KR.below hb
  have L2 := (L1.set 0 (.int .i64 0) (by show 0 < 2; decide)).set 1 (.slice (some ⟨w1.heap.size, 0, none⟩) 1 1) (by show 1 < 2; decide)
  obtain ⟨W2, hW2⟩ : ∃ W2, W2 = (w1.setCell ⟨w.heap.size, 0, none⟩ (.int .i64 0)).setCell ⟨w.heap.size, 1, none⟩ (.slice (some ⟨w1.heap.size, 0, none⟩) 1 1) := ⟨_, rfl⟩
  have hs2 : W2.heap.size = w1.heap.size := by subst hW2; simp
  rw [← hW2] at L2
  have R := World.ownsRow_lit (base := W2.heap.size) (size := 3) (e := 48) W2 #[.bool true, .bool true, .slice none 0 0] 1 (Nat.le_refl _) (by simp [maxLen]) rfl
  rw [hs2] at R
  have OP : Hid (OwnP (W2.alloc (.cells #[.bool true, .bool true, .slice none 0 0] 48)) w1.heap.size (.slice (some ⟨w1.heap.size, 0, none⟩) 1 1) [⟨true, true, none, 0, 0, []⟩]) := by
    refine Lib.hid ⟨R, fun p hp => ?_, fun p hp => ?_, fun i j p q hij hp hq => ?_⟩
    · obtain rfl := List.mem_singleton.1 hp
      exact ownS_none _ _ _
    · obtain rfl := List.mem_singleton.1 hp
      exact (apart_none _ 0 0).1
    · obtain rfl := List.mem_singleton.1 (List.mem_of_getElem? hp)
      exact (apart_none _ 0 0).2
  have B1 : Hid (Below w.heap.size w (W2.alloc (.cells #[.bool true, .bool true, .slice none 0 0] 48))) := by
    have h1 : Below w.heap.size w W2 := by
      rw [hW2]
      exact ((B0.trans (hb.mono B0.size)).setCell (p := ⟨w.heap.size, 0, none⟩) (Nat.le_refl _) _).setCell (p := ⟨w.heap.size, 1, none⟩) (Nat.le_refl _) _
    exact Lib.hid (h1.alloc h1.size _)
  obtain ⟨hl, k0, f0⟩ := L2.alloc (.cells #[.bool true, .bool true, .slice none 0 0] 48)
  obtain ⟨hl', k0', f0'⟩ := L1
  clear R B0 hb KR L2
  go_wp2
  rw [← hW2]
  exact bodyPost_ret (v := .agg #[.int .i64 0, .slice (some ⟨w1.heap.size, 0, none⟩) 1 1]) (by simp [results, Try.results27, go_sem, k0]) rfl ⟨_, [⟨true, true, none, 0, 0, []⟩], rfl, rfl, OP.out.mono (by omega), B1.out⟩

set_option maxRecDepth 100000 in
set_option maxHeartbeats 1600000 in
theorem iNodeAt_any : CNodeAt 25 := by
  intro root i a n cap ps w h hi hps
  have hnc := h.1.1.2.1
  have hm := h.1.1.2.2.1
  unfold maxLen at hm
  have HL := Lib.hid h.1.1.1
  have K := Lib.hid (blk_new1 w (.cells #[.int .i64 root, .slice a n cap] 26) #[.bool false, .slice none 0 0] 32)
  have KA := Lib.hid ((Loc.new w #[.int .i64 root, .slice a n cap] 26).alloc (.cells #[.bool false, .slice none 0 0] 32))
  have B0 : Below w.heap.size w ((w.alloc (.cells #[.int .i64 root, .slice a n cap] 26)).alloc (.cells #[.bool false, .slice none 0 0] 32)) := ((Below.refl _ _).alloc (Nat.le_refl _) _).alloc (by simp) _
  have HR := Lib.hid (h.below B0)
  replace B0 := Lib.hid B0
  clear h
  by_cases hin : 0 ≤ i ∧ i ≤ (n : Int) - 1
  · obtain ⟨h0, h1⟩ := hin
    obtain ⟨m, rfl⟩ := Int.eq_ofNat_of_zero_le h0
    have C1 := Lib.hid (iHas_yes root a n cap m ((w.alloc (.cells #[.int .i64 root, .slice a n cap] 26)).alloc (.cells #[.bool false, .slice none 0 0] 32)) (show m < n by omega))
    have z1 : (m : Int) < n := by omega
    go_enter Try.func25, Try.ntmps25
    go_wp2_with fail
    refine C1.out.mono ?_
    rintro e w2 ⟨rfl, b2⟩
    have s2 := b2.size
    simp at s2
    obtain ⟨b, off, p, rfl, hbl, hp, hrd, d0, d1, d2⟩ := rdP_at (HR.out.below b2) (show m < n by omega)
    have hv : Hid (pageAt (ps.map PgV.pg) m = p.pg) := Lib.hid (pageAt_yes hp)
    have CC := Lib.hid (iCopyN_any p.leaf p.a p.n p.cap p.xs _ hrd (hps p (List.mem_of_getElem? hp)))
    have ka := (KA.out.below b2).2.1 1
    simp at ka
    have b2' := Lib.hid b2
    clear hp hrd hps C1 b2
    go_wp2_with fail
    refine CC.out.mono ?_
    rintro e w3 ⟨v, rfl, ho, hb⟩
    obtain ⟨k0, f0⟩ := below_keep (b2'.out.trans (hb.mono b2'.out.size)) (by simp) _ _ K.out
    obtain ⟨av, cv, rfl, -⟩ := ho.rd
    have s3 := hb.size
    have HO := Lib.hid (OwnS.mono (base := w.heap.size + 2) ho (by omega))
    have HB := Lib.hid (B0.out.trans ((b2'.out.trans (hb.mono b2'.out.size)).mono B0.out.size))
    clear ho hb
    go_wp2
    refine bodyPost_ret (v := .agg #[.bool p.leaf, .slice av p.xs.length cv]) (by simp [results, Try.results25, go_sem, k0]) rfl ?_
    rw [hv.out]
    refine ⟨_, rfl, ?_, ?_⟩
    · exact OwnS.mono (L := itLay) (ownS_set2 (ownS_set2 HO.out (by omega) _ _) (by omega) _ _) (by omega)
    · exact (HB.out.setCell (p := ⟨w.heap.size + 1, 0, none⟩) (show w.heap.size ≤ w.heap.size + 1 by omega) _).setCell (p := ⟨w.heap.size + 1, 1, none⟩) (show w.heap.size ≤ w.heap.size + 1 by omega) _
  · have hv : Hid (pageAt (ps.map PgV.pg) i = zeroPg) := Lib.hid (pageAt_no (by rw [List.length_map, HL.out]; exact hin))
    have C1 := Lib.hid (iHas_no root i a n cap ((w.alloc (.cells #[.int .i64 root, .slice a n cap] 26)).alloc (.cells #[.bool false, .slice none 0 0] 32)) hin)
    go_enter Try.func25, Try.ntmps25
    go_wp2_with fail
    refine C1.out.mono ?_
    rintro e w2 ⟨rfl, b2⟩
    obtain ⟨k0, f0⟩ := below_keep b2 (by simp) _ _ K.out
    have HB := Lib.hid (B0.out.trans (b2.mono B0.out.size))
    clear b2
    go_wp2
    refine bodyPost_ret (v := .agg #[.bool false, .slice none 0 0]) (by simp [results, Try.results25, go_sem, k0]) rfl ?_
    rw [hv.out]
    exact ⟨_, rfl, ownS_none _ _ _, (HB.out.setCell (p := ⟨w.heap.size + 1, 0, none⟩) (show w.heap.size ≤ w.heap.size + 1 by omega) _).setCell (p := ⟨w.heap.size + 1, 1, none⟩) (show w.heap.size ≤ w.heap.size + 1 by omega) _⟩

set_option maxRecDepth 100000 in
set_option maxHeartbeats 3200000 in
theorem iPut_any : CPut 15 := by
  intro root i a n cap ps b a' n' cap' xs w h h' hi hn hn' hps
  obtain ⟨l0, u0⟩ := bounds_i64 hi
  have hnc := h.1.1.2.1
  have hm := h.1.1.2.2.1
  unfold maxLen at hm
  have HL := Lib.hid h.1.1.1
  obtain ⟨W0, hW0⟩ : ∃ W0, W0 = (((w.alloc (.cells #[.int .i64 root, .slice a n cap] 26)).alloc (.cells #[.bool b, .slice a' n' cap'] 32)).alloc (.cells #[.int .i64 0, .slice none 0 0] 26)) := ⟨_, rfl⟩
  have hs0 : W0.heap.size = w.heap.size + 1 + 1 + 1 := by subst hW0; simp
  have B0 : Below w.heap.size w W0 := by subst hW0; exact ((((Below.refl _ _).alloc (Nat.le_refl _) _).alloc (by simp) _).alloc (by simp; omega) _)
  have KA : Loc W0 (w.heap.size) #[.int .i64 root, .slice a n cap] := by subst hW0; exact ((Loc.new w _ _).alloc _).alloc _
  have KN : Loc W0 (w.heap.size + 1) #[.bool b, .slice a' n' cap'] := by
    subst hW0
    have := (Loc.new (w.alloc (.cells #[.int .i64 root, .slice a n cap] 26)) #[.bool b, .slice a' n' cap'] 32).alloc (.cells #[.int .i64 0, .slice none 0 0] 26)
    rw [show (w.alloc (.cells #[.int .i64 root, .slice a n cap] 26)).heap.size = w.heap.size + 1 by simp] at this
    exact this
  have KR : Loc W0 (w.heap.size + 1 + 1) #[.int .i64 0, .slice none 0 0] := by
    subst hW0
    have := Loc.new ((w.alloc (.cells #[.int .i64 root, .slice a n cap] 26)).alloc (.cells #[.bool b, .slice a' n' cap'] 32)) #[.int .i64 0, .slice none 0 0] 26
    rw [show ((w.alloc (.cells #[.int .i64 root, .slice a n cap] 26)).alloc (.cells #[.bool b, .slice a' n' cap'] 32)).heap.size = w.heap.size + 1 + 1 by simp] at this
    exact this
  have CC := Lib.hid (iCopyB_any root a n cap ps W0 (h.below B0) hn hps)
  have HX := Lib.hid (h'.below B0)
  obtain ⟨-, a0, fa⟩ := KA
  have K3 := Lib.hid (And.intro KN KR)
  replace B0 := Lib.hid B0
  clear h h' hps KN KR fa
  have ka0 := a0 0
  have ka1 := a0 1
  simp at ka0 ka1
  go_enter Try.func15, Try.ntmps15
  go_wp2_with fail
  rw [← hW0]
  clear hW0
  refine CC.out.mono ?_
  rintro e w3 ⟨v3, qs, rfl, hq, ho, hb⟩
  obtain ⟨va, vc, rfl⟩ := ho.shape
  have hql := len_pg hq
  rw [HL.out] at hql
  rw [hql]
  rw [hql] at ho
  have s3 := hb.size
  have HQ := Lib.hid hq
  obtain ⟨W4, hW4⟩ : ∃ W4, W4 = w3.alloc (.cells #[.int .i64 root, .slice va n vc] 26) := ⟨_, rfl⟩
  have hs4 : W4.heap.size = w3.heap.size + 1 := by subst hW4; simp
  have b34 : Below w3.heap.size w3 W4 := by subst hW4; exact new_below _ _
  have KG : Loc W4 w3.heap.size #[.int .i64 root, .slice va n vc] := by subst hW4; exact Loc.new w3 _ _
  have HOL := Lib.hid (show ∀ g, (Value.slice va n vc).ownBlock = some g → g < w3.heap.size from fun g hg => (World.ownsRow.lt ho.row g hg).2)
  have HEL := Lib.hid (show ∀ q ∈ qs, ∀ g, q.sl.ownBlock = some g → g < w3.heap.size from fun q hq g hg => (World.ownsRow.lt (ho.ent q hq) g hg).2)
  have KN4 := (K3.out.1.below hb).below b34
  have KR4 := (K3.out.2.below hb).below b34
  have HX4 := (HX.out.below hb).below b34
  have HO4 := ho.below b34
  have HB4 := (B0.out.trans (hb.mono (by omega))).trans (b34.mono (show w.heap.size ≤ w3.heap.size by omega))
  replace KG := Lib.hid KG
  replace KN4 := Lib.hid KN4
  replace KR4 := Lib.hid KR4
  replace HX4 := Lib.hid HX4
  replace HO4 := Lib.hid HO4
  replace HB4 := Lib.hid HB4
  replace b34 := Lib.hid b34
  clear ho hq hb CC K3 HX B0 a0 ka0 ka1
  by_cases hin : 0 ≤ i ∧ i ≤ (n : Int) - 1
  · obtain ⟨h0, h1⟩ := hin
    obtain ⟨m, rfl⟩ := Int.eq_ofNat_of_zero_le h0
    have hmn : m < n := by omega
    have hv : Hid (putV (ps.map PgV.pg) m ⟨true, b, xs⟩ = (ps.map PgV.pg).set m ⟨true, b, xs⟩) := by
      show putV _ _ _ = _
      unfold putV
      rw [if_pos (by rw [List.length_map, HL.out]; exact ⟨h0, h1⟩), Int.toNat_natCast]
    obtain ⟨gb, rfl⟩ : ∃ g, va = some ⟨g, 0, none⟩ := own_head (ownP_row HO4.out (ownP_len HO4.out)) (by omega)
    have hgb := HO4.out.lt.1
    have hgl := HOL.out gb rfl
    have C1 := Lib.hid (iHas_yes root (some ⟨gb, 0, none⟩) n vc m W4 hmn)
    have z1 : (m : Int) < n := by omega
    go_wp2_with fail
    rw [← hW4]
    clear hW4
    refine C1.out.mono ?_
    rintro e w4 ⟨rfl, b4⟩
    have s4 := b4.size
    have KG4 := Lib.hid (KG.out.below b4)
    have KN5 := Lib.hid (KN4.out.below b4)
    have KR5 := Lib.hid (KR4.out.below b4)
    have HX5 := Lib.hid (HX4.out.below b4)
    have HO5 := Lib.hid (HO4.out.below b4)
    have HB5 := Lib.hid (HB4.out.trans (b4.mono (by omega)))
    clear KG KN4 KR4 HX4 HO4 HB4 b4 C1
    have KR4 := KR5
    obtain ⟨-, g0, fg⟩ := KG4.out
    obtain ⟨hNl, n0, -⟩ := KN5.out
    obtain ⟨hRl, r0, fr⟩ := KR4.out
    have hRG : w.heap.size + 1 + 1 ≠ w3.heap.size := by omega
    have CC := Lib.hid (iCopyN_any b a' n' cap' xs w4.drew (HX5.out.below (drew_below _)) hn')
    have hrow := Lib.hid (HO5.out.below (drew_below _))
    have e1 := g0 1
    simp at e1
    have nn0 := n0 0
    have nn1 := n0 1
    simp at nn0 nn1
    go_wp2_with fail
    go_region_law (refine step_go rfl 64 _ _ rfl #[.agg #[.bool b, .slice a' n' cap']] (by first | (simp [Act.eval]; done) | (simp [Act.eval, Act.put]; done)) (enters_of Try.func64 (by kernel_rfl) rfl) (R := fun v w' => ∃ u, v = .agg #[.bool b, u] ∧ OwnS itLay 92 w' (w4).drew.heap.size u xs ∧ Below (w4).drew.heap.size (w4).drew w') (CC.out.mono (fun e w' ⟨u, he, o, bb⟩ => ⟨_, he, u, rfl, o, bb⟩)) ?_; rintro v w5 ⟨u5, rfl, o5, b5⟩; obtain ⟨a5, c5, rfl, -⟩ := OwnS.rd o5; have P5 := Lib.hid (hrow.out.below b5); obtain ⟨y, hy, q0, q1, q2⟩ := ownP_at P5.out hmn; have fz := P5.out.froz; have L5 := Lib.hid ((KG4.out.drew).below b5); have l5 := L5.out.2.1 1; simp at l5; have R5 := Lib.hid ((KR4.out.drew).below b5); have B5 := Lib.hid b5; have O5 := Lib.hid o5; have hgl5 := P5.out.lt.2; clear o5 b5 hy)
    all_goals
      have s5 := B5.out.size
      have e0 : w4.drew.heap.size = w4.heap.size := rfl
      have P6 : Hid (OwnP (((w5.setCell ⟨gb, m * 3, none⟩ (.bool true)).setCell ⟨gb, m * 3 + 1, none⟩ (.bool b)).setCell ⟨gb, m * 3 + 1 + 1, none⟩ (.slice a5 xs.length c5)) W0.heap.size (.slice (some ⟨gb, 0, none⟩) n vc) (qs.set m ⟨true, b, a5, xs.length, c5, xs⟩)) := by
        have ho : ∀ g, (PgV.sl ⟨true, b, a5, xs.length, c5, xs⟩).ownBlock = some g → w4.heap.size ≤ g := fun g hg => by
          have := (World.ownsRow.lt O5.out g hg).1
          omega
        refine Lib.hid (P5.out.set m ⟨true, b, a5, xs.length, c5, xs⟩ (by rw [ownP_len P5.out]; exact hmn) rfl (O5.out.mono (by omega)) (fun g h3 h4 => ?_) (fun j q _ hq g h3 h4 => ?_))
        · have h5 := ho g h4
          have e : gb = g := by simpa [Value.ownBlock] using h3
          omega
        · have h5 := ho g h4
          have h6 := HEL.out q (List.mem_of_getElem? hq) g h3
          omega
      have M6 : Hid ((qs.set m ⟨true, b, a5, xs.length, c5, xs⟩).map PgV.pg = (ps.map PgV.pg).set m ⟨true, b, xs⟩) := Lib.hid (map_setP HQ.out)
      have B6 : Hid (Below w.heap.size w (((w5.setCell ⟨gb, m * 3, none⟩ (.bool true)).setCell ⟨gb, m * 3 + 1, none⟩ (.bool b)).setCell ⟨gb, m * 3 + 1 + 1, none⟩ (.slice a5 xs.length c5))) := by
        have h3 : w.heap.size ≤ gb := by omega
        exact Lib.hid (((((HB5.out.drew).trans (B5.out.mono (by omega))).setCell (p := ⟨gb, m * 3, none⟩) h3 _).setCell (p := ⟨gb, m * 3 + 1, none⟩) h3 _).setCell (p := ⟨gb, m * 3 + 1 + 1, none⟩) h3 _)
      have G6 := ((L5.out.other (m * 3) (.bool true) (show gb ≠ w3.heap.size by omega)).other (m * 3 + 1) (.bool b) (show gb ≠ w3.heap.size by omega)).other (m * 3 + 1 + 1) (.slice a5 xs.length c5) (show gb ≠ w3.heap.size by omega)
      have R6 := ((R5.out.other (m * 3) (.bool true) (show gb ≠ w.heap.size + 1 + 1 by omega)).other (m * 3 + 1) (.bool b) (show gb ≠ w.heap.size + 1 + 1 by omega)).other (m * 3 + 1 + 1) (.slice a5 xs.length c5) (show gb ≠ w.heap.size + 1 + 1 by omega)
      obtain ⟨-, x0, -⟩ := G6
      obtain ⟨hR6, y0, fy⟩ := R6
      go_wp2
      refine bodyPost_ret (v := .agg #[.int .i64 root, .slice (some ⟨gb, 0, none⟩) n vc]) (by simp [results, Try.results15, go_sem, y0]) rfl ?_
      rw [hv.out]
      exact book_end P6.out M6.out B6.out (by omega) (by omega) (by omega)
  · have hv : Hid (putV (ps.map PgV.pg) i ⟨true, b, xs⟩ = ps.map PgV.pg) := Lib.hid (if_neg (by rw [List.length_map, HL.out]; exact hin))
    have C1 := Lib.hid (iHas_no root i va n vc W4 hin)
    go_wp2_with fail
    rw [← hW4]
    clear hW4
    refine C1.out.mono ?_
    rintro e w4 ⟨rfl, b4⟩
    have s4 := b4.size
    obtain ⟨-, g0, -⟩ := KG.out.below b4
    obtain ⟨hRl, r0, fr⟩ := KR4.out.below b4
    have HO5 := Lib.hid (HO4.out.below b4)
    have HB5 := Lib.hid (HB4.out.trans (b4.mono (by omega)))
    clear b4
    go_wp2
    refine bodyPost_ret (v := .agg #[.int .i64 root, .slice va n vc]) (by simp [results, Try.results15, go_sem, r0]) rfl ?_
    rw [hv.out]
    exact book_end HO5.out HQ.out HB5.out (by omega) (by omega) (by omega)
end Go.Proofs.Ytfefggcfeppeiaa
