/- The model's l11Any: a drawn book, or a bent one. -/
import Derived.Test.YtfefggcfeppeiaaGreatAnyL11ZLooks
namespace Go.Proofs.YtfefggcfeppeiaaGreat
open Go.RowKit

set_option maxRecDepth 100000 in
set_option maxHeartbeats 24000000 in
theorem l11Any_any (g : Nat) (zs : List Int) (most : Int) (w : World) (h : Cur g zs w) (hm : 0 ≤ most ∧ most ≤ 40) :
    Calls Tryz.prog 29 #[.pointer (some ⟨g, 0, none⟩), .int .i64 most] w (DrawnBook g zs 523 2000 w) := by
  obtain ⟨i0, hi, hz0, hz1, hz2⟩ := info_parts Tryz.infoPage
  replace hi := Lib.hid hi
  replace hz0 := Lib.hid hz0
  replace hz1 := Lib.hid hz1
  replace hz2 := Lib.hid hz2
  have hlt := cur_lt h
  have K0 := Lib.hid (Loc.new w #[.int .i64 0, .slice none 0 0] 26)
  have T0 := Lib.hid (TagT.new 26 w #[.int .i64 0, .slice none 0 0])
  have c0 := cur_alloc h (.cells #[.int .i64 0, .slice none 0 0] 26)
  have g0 := Lib.hid (World.grownBy_alloc w (.cells #[.int .i64 0, .slice none 0 0] 26) (some g))
  have CD := Lib.hid (l11Draw_any g zs most _ c0 hm)
  clear h c0
  go_enter Tryz.func29, Tryz.ntmps29
  go_wp2_with fail
  refine CD.out.mono ?_
  rintro e w1 ⟨⟨root, v1, ps, rfl, HF, o1, cu1, g1⟩, hone⟩
  obtain ⟨a, c, rfl⟩ := o1.shape
  have hn1 := hone root a _ c rfl
  obtain ⟨n, hn⟩ : ∃ n, n = ps.length := ⟨_, rfl⟩
  rw [← hn] at o1 hn1 ⊢
  have hpl : Hid (ps.length = n) := Lib.hid hn.symm
  have hnb : n ≤ 521 := by have := HF.1; rw [List.length_map] at this; omega
  have s1 := g1.size
  simp at s1
  obtain ⟨G, hG⟩ : ∃ G, G = w1.heap.size := ⟨_, rfl⟩
  obtain ⟨W2, hW2⟩ : ∃ W2, W2 = w1.alloc (.cells #[.int .i64 root, .slice a n c] 26) := ⟨_, rfl⟩
  have b2 : Below w1.heap.size w1 W2 := by subst hW2; exact new_below _ _
  have KG : Loc W2 G #[.int .i64 root, .slice a n c] := by subst hW2 hG; exact Loc.new _ _ _
  have TG : TagT 26 W2 G := by subst hW2 hG; exact TagT.new _ _ _
  have hgG : g < G := by omega
  have hwG : w.heap.size < G := by omega
  have KR := Lib.hid ((K0.out.grown g1 (fun k e => by cases e; omega)).below b2)
  have TR := Lib.hid ((T0.out.of (g1.block _ K0.out.1 (fun e => by have := Option.some.inj e; omega))).of (b2.block _ (by omega)))
  have HO := Lib.hid ((o1.below b2).mono (show w.heap.size ≤ (w.alloc (.cells #[.int .i64 0, .slice none 0 0] 26)).heap.size by simp))
  have CU := cur_kept cu1 (Below.toGrown b2 none) (fun k e => by cases e)
  have GR := Lib.hid (grown_trans (grown_trans g0.out g1) (Below.toGrown b2 (some g)))
  replace KG := Lib.hid KG
  replace TG := Lib.hid TG
  replace HF := Lib.hid HF
  have CB := Lib.hid (l1Below_any g zs n W2 CU (by omega))
  have kk := KG.out.2.1 1
  simp at kk
  replace hG := Lib.hid hG
  replace hn := Lib.hid hn
  clear b2 o1 K0 T0 g0 CU cu1 g1 CD hone
  go_wp2_with fail
  rw [← hW2]
  try rw [← hG.out]
  clear hW2 kk
  refine CB.out.mono ?_
  rintro e w3 ⟨x, rfl, x0, x1, cu3, g3⟩
  rw [if_pos (by omega)] at x1
  obtain ⟨i, rfl⟩ := Int.eq_ofNat_of_zero_le x0
  have hin : i < n := by omega
  have KG3 := Lib.hid (KG.out.grown g3 (fun k e => by cases e; omega))
  have TG3 := Lib.hid (TG.out.of (g3.block G KG.out.1 (fun e => by have := Option.some.inj e; omega)))
  have KR3 := Lib.hid (KR.out.grown g3 (fun k e => by cases e; omega))
  have TR3 := Lib.hid (TR.out.of (g3.block _ KR.out.1 (fun e => by have := Option.some.inj e; omega)))
  have HO3 := Lib.hid (ownP_grown HO.out g3 (fun k e => by cases e; omega))
  have GR3 := Lib.hid (grown_trans GR.out g3)
  have CB2 := Lib.hid (l1Below_any g zs 24 w3 cu3 (by omega))
  clear g3 KG TG KR TR HO GR CB x0 x1 cu3
  go_wp2_with fail
  refine CB2.out.mono ?_
  rintro e wr ⟨s, rfl, s0, sx, cu4, g4⟩
  have KG := Lib.hid (KG3.out.grown g4 (fun k e => by cases e; omega))
  have TG := Lib.hid (TG3.out.of (g4.block G KG3.out.1 (fun e => by have := Option.some.inj e; omega)))
  have KR := Lib.hid (KR3.out.grown g4 (fun k e => by cases e; omega))
  have TR := Lib.hid (TR3.out.of (g4.block _ KR3.out.1 (fun e => by have := Option.some.inj e; omega)))
  have HO := Lib.hid (ownP_grown HO3.out g4 (fun k e => by cases e; omega))
  have GR := Lib.hid (grown_trans GR3.out g4)
  have CU := Lib.hid cu4
  clear g4 KG3 TG3 KR3 TR3 HO3 GR3 CB2 cu4 sx
  obtain ⟨hGl, j0, e0⟩ := KG.out
  have j00 := j0 0
  have j01 := j0 1
  simp at j00 j01
  obtain ⟨gb, rfl⟩ : ∃ gb, a = some ⟨gb, 0, none⟩ := own_head (ownP_row HO.out hpl.out) (by omega)
  have hgb := HO.out.lt
  have hgbG : gb ≠ G := TG.out.ne HO.out.row (by decide) gb rfl
  have hgbR : gb ≠ w.heap.size := TR.out.ne HO.out.row (by decide) gb rfl
  have z0 : (0 : Int) ≤ i := by omega
  have z1 : (i : Int) < n := by omega
  have hsz := Lib.hid (show (∀ p ∈ ps, ∀ j, p.sl.ownBlock = some j → j < wr.drew.heap.size) ∧ w.heap.size ≤ wr.drew.heap.size from ⟨fun p hp j hj => (World.ownsRow.lt (HO.out.ent p hp) j hj).2, by have := GR.out.size; exact this⟩)
  rcases (by omega : s = 0 ∨ s = 1 ∨ s = 2 ∨ s = 3 ∨ s = 4 ∨ 5 ≤ s) with rfl | rfl | rfl | rfl | rfl | hs5
  · go_wp2_with fail
    refine (l1Int_any g zs [-1, 0, (n : Int)] (some ⟨wr.heap.size, 0, none⟩) 3 3 _ (cur_alloc CU.out _) (rdI_new wr .i64 [-1, 0, (n : Int)] _ _ 3 rfl rfl (by simp [maxLen])) (by omega) (by omega) (fun x hx => by cases hx; have := cur_lt CU.out; simp; omega)).mono ?_
    intro e w5 hd
    obtain ⟨y, rfl, -, cu5, g5⟩ := drawnOf_lit hd
    clear hd
    have KGA := Lib.hid (KG.out.grown g5 (fun k e => by cases e; omega))
    have TGA := TG.out.of (g5.block G KG.out.1 (fun e => by have := Option.some.inj e; omega))
    have KRA := KR.out.grown g5 (fun k e => by cases e; omega)
    have TRA := TR.out.of (g5.block _ KR.out.1 (fun e => by have := Option.some.inj e; omega))
    have HOA := ownP_grown HO.out g5 (fun k e => by cases e; omega)
    have GRA := grown_trans GR.out g5
    clear g5 j0 e0 j00 j01
    obtain ⟨hGl5, j0, e0⟩ := KGA.out
    have KGF := Lib.hid (KGA.out.set 0 (.int .i64 y) (by show 0 < 2; decide))
    have KRF := Lib.hid (KRA.other 0 (.int .i64 y) (show G ≠ w.heap.size by omega))
    have TRF := Lib.hid (TRA.set G 0 (.int .i64 y))
    have HOF := Lib.hid (HOA.store TGA 0 (.int .i64 y))
    have CUF := Lib.hid (cur_kept cu5 (grown_set w5 G 0 (.int .i64 y)) (fun k e => by cases e; exact hgG))
    have GRF := Lib.hid (grown_new GRA (show w.heap.size ≤ G by omega) 0 (.int .i64 y))
    clear cu5 KRA TRA TGA HOA GRA KGA
    go_upto_region 14 with (fail)
    clear j0 e0
    obtain ⟨hGl, j0, -⟩ := KGF.out
    obtain ⟨hRl, r0, fr⟩ := KRF.out
    have hRG : w.heap.size ≠ G := by omega
    clear KGF
    go_wp2
    refine bodyPost_ret (v := .agg #[.int .i64 y, .slice (some ⟨gb, 0, none⟩) n c]) (by simp [results, Tryz.results29, go_sem, r0]) rfl ⟨y, _, ps, rfl, HF.out.mono (by omega) (by omega), ?_, ?_, ?_⟩
    · exact (HOF.out.store TRF.out 0 _).store (TRF.out.set _ _ _) 1 _
    · exact cur_kept (cur_kept CUF.out (grown_set _ w.heap.size 0 _) (fun k e => by cases e; exact hlt)) (grown_set _ w.heap.size 1 _) (fun k e => by cases e; exact hlt)
    · exact grown_new (grown_new GRF.out (Nat.le_refl _) 0 _) (Nat.le_refl _) 1 _
  · obtain ⟨p, hp, q0, q1, q2⟩ := ownP_at HO.out hin
    have fz := HO.out.froz
    have HOF := Lib.hid (HO.out.used hp false)
    have KGF := Lib.hid (KG.out.other (i * 3) (.bool false) hgbG)
    have KRF := Lib.hid (KR.out.other (i * 3) (.bool false) hgbR)
    have TRF := Lib.hid (TR.out.set gb (i * 3) (.bool false))
    have hgg : g < gb := by omega
    have CUF := Lib.hid (cur_kept CU.out (grown_set wr gb (i * 3) (.bool false)) (fun k e => by cases e; exact hgg))
    have GRF := Lib.hid (grown_new GR.out hgb.1 (i * 3) (.bool false))
    have HF2 : Hid (Fits 523 2000 ((ps.set i ⟨false, p.leaf, p.a, p.n, p.cap, p.xs⟩).map PgV.pg)) := Lib.hid ⟨by rw [List.length_map, List.length_set]; have := HF.out.1; rw [List.length_map] at this; omega, fun q hq => by
      obtain ⟨q', hq', rfl⟩ := List.mem_map.1 hq
      rcases List.mem_or_eq_of_mem_set hq' with h1 | rfl
      · exact HF.out.2 q'.pg (List.mem_map_of_mem h1)
      · exact HF.out.2 p.pg (List.mem_map_of_mem (List.mem_of_getElem? hp))⟩
    clear hp
    go_upto_region 14 with (fail)
    clear j0 e0 j00 j01 q0 q1 q2 fz
    obtain ⟨hGl, j0, -⟩ := KGF.out
    obtain ⟨hRl, r0, fr⟩ := KRF.out
    have hRG : w.heap.size ≠ G := by omega
    clear KGF
    go_wp2
    refine bodyPost_ret (v := .agg #[.int .i64 root, .slice (some ⟨gb, 0, none⟩) n c]) (by simp [results, Tryz.results29, go_sem, r0]) rfl ⟨root, _, _, rfl, HF2.out, ?_, ?_, ?_⟩
    · exact (HOF.out.store TRF.out 0 _).store (TRF.out.set _ _ _) 1 _
    · exact cur_kept (cur_kept CUF.out (grown_set _ w.heap.size 0 _) (fun k e => by cases e; exact hlt)) (grown_set _ w.heap.size 1 _) (fun k e => by cases e; exact hlt)
    · exact grown_new (grown_new GRF.out (Nat.le_refl _) 0 _) (Nat.le_refl _) 1 _
  · have CN := Lib.hid (l5Any_any g zs wr.drew (cur_kept CU.out (Below.toGrown (drew_below wr) none) (fun k e => by cases e)))
    have e1 := j01
    go_upto_region 9 with (fail)
    go_region_law (refine step_go rfl 54 _ _ rfl #[.pointer (some ⟨g, 0, none⟩)] (by first | (simp [Act.eval]; done) | (simp [Act.eval, Act.put]; done)) (enters_of Tryz.func54 (by kernel_rfl) rfl) (R := fun v w' => ∃ b u ys, v = .agg #[.bool b, u] ∧ List.length ys ≤ 8 ∧ OwnS itLay 77 w' wr.drew.heap.size u ys ∧ Cur g zs w' ∧ wr.drew.grownBy w' (some g)) (CN.out.mono (fun e w' ⟨b, u, ys, he, hy, ho, hc, hg⟩ => ⟨_, he, b, u, ys, rfl, hy, ho, hc, hg⟩)) ?_; rintro v w5 ⟨b5, u5, ys, rfl, hy5, o5, cu5, g5⟩; obtain ⟨a5, c5, rfl, -⟩ := OwnS.rd o5; have P5 := Lib.hid (ownP_grown HO.out.drew g5 (fun k e => by cases e; omega)); have hpx := ownP_at P5.out hin; obtain ⟨p, hp, q0, q1, q2⟩ := hpx; have HP := Lib.hid hp; have fz := P5.out.froz; have L5 := Lib.hid ((KG.out.drew).grown g5 (fun k e => by cases e; omega)); have l5 := L5.out.2.1 1; simp at l5; have R5 := Lib.hid ((KR.out.drew).grown g5 (fun k e => by cases e; omega)); have TG5 := Lib.hid (TG.out.of (g5.block G KG.out.1 (fun e => by have := Option.some.inj e; omega))); have TR5 := Lib.hid (TR.out.of (g5.block _ KR.out.1 (fun e => by have := Option.some.inj e; omega))); have O5 := Lib.hid o5; have CU5 := Lib.hid cu5; have GR5 := Lib.hid (grown_trans GR.out.drew' g5); have HY5 := Lib.hid hy5; have hgl5 := P5.out.lt.2; clear o5 cu5 g5 hp hy5)
    all_goals
      have HOF := Lib.hid (P5.out.node HP.out ⟨p.used, b5, a5, ys.length, c5, ys⟩ rfl (O5.out.mono hsz.out.2) (fun q hq j h1 h2 => by have := hsz.out.1 q hq j h1; have := (World.ownsRow.lt O5.out j h2).1; omega))
      have KGF := Lib.hid ((L5.out.other (i * 3 + 1) (.bool b5) hgbG).other (i * 3 + 1 + 1) (.slice a5 ys.length c5) hgbG)
      have KRF := Lib.hid ((R5.out.other (i * 3 + 1) (.bool b5) hgbR).other (i * 3 + 1 + 1) (.slice a5 ys.length c5) hgbR)
      have TRF := Lib.hid ((TR5.out.set gb (i * 3 + 1) (.bool b5)).set gb (i * 3 + 1 + 1) (.slice a5 ys.length c5))
      have hgg : g < gb := by omega
      have CUF := Lib.hid (cur_kept (cur_kept CU5.out (grown_set w5 gb (i * 3 + 1) (.bool b5)) (fun k e => by cases e; exact hgg)) (grown_set _ gb (i * 3 + 1 + 1) (.slice a5 ys.length c5)) (fun k e => by cases e; exact hgg))
      have GRF := Lib.hid (grown_new (grown_new GR5.out hgb.1 (i * 3 + 1) (.bool b5)) hgb.1 (i * 3 + 1 + 1) (.slice a5 ys.length c5))
      have HF2 : Hid (Fits 523 2000 ((ps.set i ⟨p.used, b5, a5, ys.length, c5, ys⟩).map PgV.pg)) := Lib.hid ⟨by rw [List.length_map, List.length_set]; have := HF.out.1; rw [List.length_map] at this; omega, fun q hq => by
        obtain ⟨q', hq', rfl⟩ := List.mem_map.1 hq
        rcases List.mem_or_eq_of_mem_set hq' with h1 | rfl
        · exact HF.out.2 q'.pg (List.mem_map_of_mem h1)
        · show ys.length ≤ _
          have := HY5.out
          omega⟩
      go_upto_region 14 with (fail)
      clear j0 e0 j00 j01 q0 q1 q2 fz l5 e1
      obtain ⟨hGl, j0, -⟩ := KGF.out
      obtain ⟨hRl, r0, fr⟩ := KRF.out
      have hRG : w.heap.size ≠ G := by omega
      clear KGF
      go_wp2
      refine bodyPost_ret (v := .agg #[.int .i64 root, .slice (some ⟨gb, 0, none⟩) n c]) (by simp [results, Tryz.results29, go_sem, r0]) rfl ⟨root, _, _, rfl, HF2.out, ?_, ?_, ?_⟩
      · exact (HOF.out.store TRF.out 0 _).store (TRF.out.set _ _ _) 1 _
      · exact cur_kept (cur_kept CUF.out (grown_set _ w.heap.size 0 _) (fun k e => by cases e; exact hlt)) (grown_set _ w.heap.size 1 _) (fun k e => by cases e; exact hlt)
      · exact grown_new (grown_new GRF.out (Nat.le_refl _) 0 _) (Nat.le_refl _) 1 _
  · have CN := Lib.hid (l5Draw_any g zs wr.drew (cur_kept CU.out (Below.toGrown (drew_below wr) none) (fun k e => by cases e)))
    go_upto_region 11 with (fail)
    refine wp_last ?_
    intro KK hKK
    go_cut [] (fun wx => ∃ (a5 : Option Addr) (c5 : Nat) (xp : PgV), xp.xs.length ≤ 4 ∧ Hid (Loc wx G #[.int .i64 root, .slice a5 (n + 2) c5]) ∧ Hid (TagT 26 wx G) ∧ Hid (Loc wx w.heap.size #[.int .i64 0, .slice none 0 0]) ∧ Hid (TagT 26 wx w.heap.size) ∧ Hid (OwnP wx w.heap.size (.slice a5 (n + 2) c5) (ps ++ [zeroPgV, xp])) ∧ Hid (Cur g zs wx) ∧ Hid (w.grownBy wx (some g)))
    case first => as_aux_lemma =>
      refine wp_region_noPanic ?_
      refine wp_region_held_drew (S := fun _ => True) (by kernel_rfl) trivial (fun hHeld => ?_)
      refine wpAnyH_take (i := 0) (v := ?v0_6) rfl (by kernel_rfl) (by kernel_rfl) (by kernel_rfl) (fun _ _ _ h => h) (Or.inl ⟨by rfl, ?hy0_6⟩) (by assumption) ?rest0_6
      case hy0_6 => intro w hSw; go_simp; (try with_reducible rfl)
      simp only [List.getElem_toArray, List.getElem_cons_zero, Act.put, List.setIfInBounds_toArray, List.set_cons_zero, List.set_cons_succ]
      refine wpAnyH_take (i := 2) (v := ?v2_7) rfl (by kernel_rfl) (by kernel_rfl) (by kernel_rfl) (fun _ _ _ h => h) (Or.inl ⟨by rfl, ?hy2_7⟩) (by assumption) ?rest2_7
      case hy2_7 => intro w hSw; go_simp; (try with_reducible rfl)
      simp only [List.getElem_toArray, List.getElem_cons_zero, List.getElem_cons_succ, Act.put, List.setIfInBounds_toArray, List.set_cons_zero, List.set_cons_succ]
      refine wpAnyH_take (i := 3) (v := ?v3_8) rfl (by kernel_rfl) (by kernel_rfl) (by kernel_rfl) (fun _ _ _ h => h) (Or.inl ⟨by rfl, ?hy3_8⟩) (by assumption) ?rest3_8
      case hy3_8 => intro w hSw; go_simp; (try with_reducible rfl)
      simp only [List.getElem_toArray, List.getElem_cons_zero, List.getElem_cons_succ, Act.put, List.setIfInBounds_toArray, List.set_cons_zero, List.set_cons_succ]
      refine wpAnyH_ready (rs := [1, 4]) (by kernel_rfl) (by simp) ?_
      refine AllReadyH.cons rfl (fun K hK => ?_) (AllReadyH.cons rfl (fun K hK => ?_) AllReadyH.nil)
      · go_simp
        refine hK.out _ _ trivial (fun hHeld => ?_)
        clear hK K
        refine wpAnyH_ready (rs := [4]) (by kernel_rfl) (by simp) ?_
        refine AllReadyH.cons rfl (fun K hK => ?_) AllReadyH.nil
        go_simp
        refine CN.out.mono ?_
        rintro e w4 ⟨lf4, v4, ys, rfl, hy4, o4, cu4, g4⟩
        obtain ⟨a4, c4, rfl, -⟩ := OwnS.rd o4
        obtain ⟨n4, hn4⟩ : ∃ n4, n4 = ys.length := ⟨_, rfl⟩
        rw [← hn4] at o4 ⊢
        replace hn4 := Lib.hid hn4
        have s4 := g4.size
        have KG4 := Lib.hid ((KG.out.drew).grown g4 (fun k e => by cases e; omega))
        have TG4 := Lib.hid (TG.out.of (g4.block G KG.out.1 (fun e => by have := Option.some.inj e; omega)))
        have KR4 := Lib.hid ((KR.out.drew).grown g4 (fun k e => by cases e; omega))
        have TR4 := Lib.hid (TR.out.of (g4.block w.heap.size KR.out.1 (fun e => by have := Option.some.inj e; omega)))
        have HO4 := Lib.hid (ownP_grown HO.out.drew g4 (fun k e => by cases e; omega))
        have CU4 := Lib.hid cu4
        have GR4 := Lib.hid (grown_trans GR.out.drew' g4)
        have O4 := Lib.hid o4
        have j4 := KG4.out.2.1 1
        simp at j4
        have l4 := (World.cell?_alloc_lt w4 (.cells #[.bool false, .bool false, .slice none 0 0, .bool true, .bool lf4, .slice a4 n4 c4] 70) ⟨G, 1, none⟩ KG4.out.1).trans j4
        clear cu4 g4 o4
        refine hK.out _ _ trivial (fun hHeld => ?_)
        clear hK K
        refine wpAnyH_take (i := 5) (v := ?v5_1) rfl (by kernel_rfl) (by kernel_rfl) (by kernel_rfl) (fun _ _ _ h => h) (Or.inl ⟨by rfl, ?hy5_1⟩) (by assumption) ?rest5_1
        case hy5_1 => intro w hSw; go_simp; (try with_reducible rfl)
        simp only [List.getElem_toArray, List.getElem_cons_zero, List.getElem_cons_succ, Act.put, List.setIfInBounds_toArray, List.set_cons_zero, List.set_cons_succ]
        refine wpAnyH_ready (rs := [6]) (by kernel_rfl) (by simp) ?_
        refine AllReadyH.cons rfl (fun K hK => ?_) AllReadyH.nil
        refine step_build2 rfl (.tmp 46) (.tmp 49) 24 70 rfl i0 Tryz.underlying24 hi.out hz0.out hz1.out (.bool false) (.bool false) (.slice none 0 0) (.bool true) (.bool lf4) (.slice a4 n4 c4) rfl rfl ?_
        refine hK.out _ _ trivial (fun hHeld => ?_)
        clear hK K
        refine wpAnyH_ready (rs := [7]) (by kernel_rfl) (by simp) ?_
        refine AllReadyH.cons rfl (fun K hK => ?_) AllReadyH.nil
        refine step_append_src rfl (.tmp 45) (.tmp 50) 24 rfl w.heap.size 70 i0 _ 3 40 Tryz.underlying24 hi.out hz0.out hz1.out hz2.out rfl (by decide) (.slice (some ⟨gb, 0, none⟩) n c) n (ps.flatMap pgLay.cells) rfl (World.ownsRow.alloc (ownP_row HO4.out hpl.out) _) (some ⟨w4.heap.size, 0, none⟩) 2 2 (pgLay.cells zeroPgV ++ pgLay.cells ⟨true, lf4, a4, n4, c4, ys⟩) rfl rfl (fun h => by cases h) (fun q hq => by cases hq; exact World.news_of_block (cs := #[.bool false, .bool false, .slice none 0 0, .bool true, .bool lf4, .slice a4 n4 c4]) (t := 70) (fr := (0, 0)) (heap_alloc_new w4 _)) (fun u hu => by rcases List.mem_append.1 hu with h | h <;> exact pgLay.one _ u h) (by unfold maxLen; omega) (by omega) (by have := KR4.out.1; simp; omega) ?_
        intro v5 w5 o5 g5
        obtain ⟨a5, c5, rfl⟩ := owns_shape o5
        have L5 : Hid (Loc w5 G #[.int .i64 root, .slice (some ⟨gb, 0, none⟩) n c]) := Lib.hid ((KG4.out.alloc _).grown g5 (fun j hj => TG4.out.ne HO4.out.row (by decide) j hj))
        have j5 := L5.out.2.1
        have e5 := L5.out.2.2
        have G5 := Lib.hid g5
        have O5 := Lib.hid o5
        clear o5 g5
        refine hK.out _ _ trivial (fun hHeld => ?_)
        clear hK K
        refine wpAnyH_take (i := 8) (v := ?v8_2) rfl (by kernel_rfl) (by kernel_rfl) (by kernel_rfl) (fun _ _ _ h => h) (Or.inl ⟨by rfl, ?hy8_2⟩) (by assumption) ?rest8_2
        case hy8_2 => intro w hSw; go_simp; (try with_reducible rfl)
        simp only [List.getElem_toArray, List.getElem_cons_zero, List.getElem_cons_succ, Act.put, List.setIfInBounds_toArray, List.set_cons_zero, List.set_cons_succ]
        refine wpAnyH_ready (rs := [9]) (by kernel_rfl) (by simp) ?_
        refine AllReadyH.cons rfl (fun K hK => ?_) AllReadyH.nil
        go_simp
        refine hK.out _ _ trivial (fun hHeld => ?_)
        clear hK K
        refine wpAnyH_done (by kernel_rfl) ?_ _
        refine NoPanic.normal ?_
        clear hHeld
        have RR := Lib.hid (any_app hlt hgG hwG hsz.out KG4.out TG4.out KR4.out TR4.out HO4.out hpl.out CU4.out GR4.out O4.out O5.out G5.out L5.out)
        clear O5 G5 L5
        go_wp2_with fail
        go_meet
        exact ⟨a5, c5, ⟨true, lf4, a4, n4, c4, ys⟩, hy4, RR.out⟩
      · go_simp
        refine CN.out.mono ?_
        rintro e w4 ⟨lf4, v4, ys, rfl, hy4, o4, cu4, g4⟩
        obtain ⟨a4, c4, rfl, -⟩ := OwnS.rd o4
        obtain ⟨n4, hn4⟩ : ∃ n4, n4 = ys.length := ⟨_, rfl⟩
        rw [← hn4] at o4 ⊢
        replace hn4 := Lib.hid hn4
        have s4 := g4.size
        have KG4 := Lib.hid ((KG.out.drew).grown g4 (fun k e => by cases e; omega))
        have TG4 := Lib.hid (TG.out.of (g4.block G KG.out.1 (fun e => by have := Option.some.inj e; omega)))
        have KR4 := Lib.hid ((KR.out.drew).grown g4 (fun k e => by cases e; omega))
        have TR4 := Lib.hid (TR.out.of (g4.block w.heap.size KR.out.1 (fun e => by have := Option.some.inj e; omega)))
        have HO4 := Lib.hid (ownP_grown HO.out.drew g4 (fun k e => by cases e; omega))
        have CU4 := Lib.hid cu4
        have GR4 := Lib.hid (grown_trans GR.out.drew' g4)
        have O4 := Lib.hid o4
        have j4 := KG4.out.2.1 1
        simp at j4
        have l4 := (World.cell?_alloc_lt w4 (.cells #[.bool false, .bool false, .slice none 0 0, .bool true, .bool lf4, .slice a4 n4 c4] 70) ⟨G, 1, none⟩ KG4.out.1).trans j4
        clear cu4 g4 o4
        refine hK.out _ _ trivial (fun hHeld => ?_)
        clear hK K
        refine wpAnyH_take (i := 5) (v := ?v5_5) rfl (by kernel_rfl) (by kernel_rfl) (by kernel_rfl) (fun _ _ _ h => h) (Or.inl ⟨by rfl, ?hy5_5⟩) (by assumption) ?rest5_5
        case hy5_5 => intro w hSw; go_simp; (try with_reducible rfl)
        simp only [List.getElem_toArray, List.getElem_cons_zero, List.getElem_cons_succ, Act.put, List.setIfInBounds_toArray, List.set_cons_zero, List.set_cons_succ]
        refine wpAnyH_ready (rs := [1, 6]) (by kernel_rfl) (by simp) ?_
        refine AllReadyH.cons rfl (fun K hK => ?_) (AllReadyH.cons rfl (fun K hK => ?_) AllReadyH.nil)
        · go_simp
          refine hK.out _ _ trivial (fun hHeld => ?_)
          clear hK K
          refine wpAnyH_ready (rs := [6]) (by kernel_rfl) (by simp) ?_
          refine AllReadyH.cons rfl (fun K hK => ?_) AllReadyH.nil
          refine step_build2 rfl (.tmp 46) (.tmp 49) 24 70 rfl i0 Tryz.underlying24 hi.out hz0.out hz1.out (.bool false) (.bool false) (.slice none 0 0) (.bool true) (.bool lf4) (.slice a4 n4 c4) rfl rfl ?_
          refine hK.out _ _ trivial (fun hHeld => ?_)
          clear hK K
          refine wpAnyH_ready (rs := [7]) (by kernel_rfl) (by simp) ?_
          refine AllReadyH.cons rfl (fun K hK => ?_) AllReadyH.nil
          refine step_append_src rfl (.tmp 45) (.tmp 50) 24 rfl w.heap.size 70 i0 _ 3 40 Tryz.underlying24 hi.out hz0.out hz1.out hz2.out rfl (by decide) (.slice (some ⟨gb, 0, none⟩) n c) n (ps.flatMap pgLay.cells) rfl (World.ownsRow.alloc (ownP_row HO4.out hpl.out) _) (some ⟨w4.heap.size, 0, none⟩) 2 2 (pgLay.cells zeroPgV ++ pgLay.cells ⟨true, lf4, a4, n4, c4, ys⟩) rfl rfl (fun h => by cases h) (fun q hq => by cases hq; exact World.news_of_block (cs := #[.bool false, .bool false, .slice none 0 0, .bool true, .bool lf4, .slice a4 n4 c4]) (t := 70) (fr := (0, 0)) (heap_alloc_new w4 _)) (fun u hu => by rcases List.mem_append.1 hu with h | h <;> exact pgLay.one _ u h) (by unfold maxLen; omega) (by omega) (by have := KR4.out.1; simp; omega) ?_
          intro v5 w5 o5 g5
          obtain ⟨a5, c5, rfl⟩ := owns_shape o5
          have L5 : Hid (Loc w5 G #[.int .i64 root, .slice (some ⟨gb, 0, none⟩) n c]) := Lib.hid ((KG4.out.alloc _).grown g5 (fun j hj => TG4.out.ne HO4.out.row (by decide) j hj))
          have j5 := L5.out.2.1
          have e5 := L5.out.2.2
          have G5 := Lib.hid g5
          have O5 := Lib.hid o5
          clear o5 g5
          refine hK.out _ _ trivial (fun hHeld => ?_)
          clear hK K
          refine wpAnyH_take (i := 8) (v := ?v8_3) rfl (by kernel_rfl) (by kernel_rfl) (by kernel_rfl) (fun _ _ _ h => h) (Or.inl ⟨by rfl, ?hy8_3⟩) (by assumption) ?rest8_3
          case hy8_3 => intro w hSw; go_simp; (try with_reducible rfl)
          simp only [List.getElem_toArray, List.getElem_cons_zero, List.getElem_cons_succ, Act.put, List.setIfInBounds_toArray, List.set_cons_zero, List.set_cons_succ]
          refine wpAnyH_ready (rs := [9]) (by kernel_rfl) (by simp) ?_
          refine AllReadyH.cons rfl (fun K hK => ?_) AllReadyH.nil
          go_simp
          refine hK.out _ _ trivial (fun hHeld => ?_)
          clear hK K
          refine wpAnyH_done (by kernel_rfl) ?_ _
          refine NoPanic.normal ?_
          clear hHeld
          have RR := Lib.hid (any_app hlt hgG hwG hsz.out KG4.out TG4.out KR4.out TR4.out HO4.out hpl.out CU4.out GR4.out O4.out O5.out G5.out L5.out)
          clear O5 G5 L5
          go_wp2_with fail
          go_meet
          exact ⟨a5, c5, ⟨true, lf4, a4, n4, c4, ys⟩, hy4, RR.out⟩
        · refine step_build2 rfl (.tmp 46) (.tmp 49) 24 70 rfl i0 Tryz.underlying24 hi.out hz0.out hz1.out (.bool false) (.bool false) (.slice none 0 0) (.bool true) (.bool lf4) (.slice a4 n4 c4) rfl rfl ?_
          refine hK.out _ _ trivial (fun hHeld => ?_)
          clear hK K
          refine wpAnyH_ready (rs := [1]) (by kernel_rfl) (by simp) ?_
          refine AllReadyH.cons rfl (fun K hK => ?_) AllReadyH.nil
          go_simp
          refine hK.out _ _ trivial (fun hHeld => ?_)
          clear hK K
          refine wpAnyH_ready (rs := [7]) (by kernel_rfl) (by simp) ?_
          refine AllReadyH.cons rfl (fun K hK => ?_) AllReadyH.nil
          refine step_append_src rfl (.tmp 45) (.tmp 50) 24 rfl w.heap.size 70 i0 _ 3 40 Tryz.underlying24 hi.out hz0.out hz1.out hz2.out rfl (by decide) (.slice (some ⟨gb, 0, none⟩) n c) n (ps.flatMap pgLay.cells) rfl (World.ownsRow.alloc (ownP_row HO4.out hpl.out) _) (some ⟨w4.heap.size, 0, none⟩) 2 2 (pgLay.cells zeroPgV ++ pgLay.cells ⟨true, lf4, a4, n4, c4, ys⟩) rfl rfl (fun h => by cases h) (fun q hq => by cases hq; exact World.news_of_block (cs := #[.bool false, .bool false, .slice none 0 0, .bool true, .bool lf4, .slice a4 n4 c4]) (t := 70) (fr := (0, 0)) (heap_alloc_new w4 _)) (fun u hu => by rcases List.mem_append.1 hu with h | h <;> exact pgLay.one _ u h) (by unfold maxLen; omega) (by omega) (by have := KR4.out.1; simp; omega) ?_
          intro v5 w5 o5 g5
          obtain ⟨a5, c5, rfl⟩ := owns_shape o5
          have L5 : Hid (Loc w5 G #[.int .i64 root, .slice (some ⟨gb, 0, none⟩) n c]) := Lib.hid ((KG4.out.alloc _).grown g5 (fun j hj => TG4.out.ne HO4.out.row (by decide) j hj))
          have j5 := L5.out.2.1
          have e5 := L5.out.2.2
          have G5 := Lib.hid g5
          have O5 := Lib.hid o5
          clear o5 g5
          refine hK.out _ _ trivial (fun hHeld => ?_)
          clear hK K
          refine wpAnyH_take (i := 8) (v := ?v8_4) rfl (by kernel_rfl) (by kernel_rfl) (by kernel_rfl) (fun _ _ _ h => h) (Or.inl ⟨by rfl, ?hy8_4⟩) (by assumption) ?rest8_4
          case hy8_4 => intro w hSw; go_simp; (try with_reducible rfl)
          simp only [List.getElem_toArray, List.getElem_cons_zero, List.getElem_cons_succ, Act.put, List.setIfInBounds_toArray, List.set_cons_zero, List.set_cons_succ]
          refine wpAnyH_ready (rs := [9]) (by kernel_rfl) (by simp) ?_
          refine AllReadyH.cons rfl (fun K hK => ?_) AllReadyH.nil
          go_simp
          refine hK.out _ _ trivial (fun hHeld => ?_)
          clear hK K
          refine wpAnyH_done (by kernel_rfl) ?_ _
          refine NoPanic.normal ?_
          clear hHeld
          have RR := Lib.hid (any_app hlt hgG hwG hsz.out KG4.out TG4.out KR4.out TR4.out HO4.out hpl.out CU4.out GR4.out O4.out O5.out G5.out L5.out)
          clear O5 G5 L5
          go_wp2_with fail
          go_meet
          exact ⟨a5, c5, ⟨true, lf4, a4, n4, c4, ys⟩, hy4, RR.out⟩
    case rest =>
      obtain ⟨a5, c5, xp, hxp, KGF, TGF, KRF, TRF, HOF, CUF, GRF⟩ := hcut
      refine hKK _ _ ?_
      have HF2 : Hid (Fits 523 2000 ((ps ++ [zeroPgV, xp]).map PgV.pg)) := Lib.hid ⟨by rw [List.length_map, List.length_append]; have := HF.out.1; rw [List.length_map] at this; show _ + 2 ≤ _; omega, fun q hq => by
        obtain ⟨q', hq', rfl⟩ := List.mem_map.1 hq
        rcases List.mem_append.1 hq' with h1 | h1
        · exact HF.out.2 q'.pg (List.mem_map_of_mem h1)
        · rcases List.mem_cons.1 h1 with rfl | h1
          · exact Nat.zero_le _
          · rw [List.mem_singleton.1 h1]
            show xp.xs.length ≤ _
            omega⟩
      clear j0 e0 j00 j01
      go_upto_region 14 with (fail)
      obtain ⟨hGl, j0, -⟩ := KGF.out
      obtain ⟨hRl, r0, fr⟩ := KRF.out
      have hRG : w.heap.size ≠ G := by omega
      clear KGF
      go_wp2
      refine bodyPost_ret (v := .agg #[.int .i64 root, .slice a5 (n + 2) c5]) (by simp [results, Tryz.results29, go_sem, r0]) rfl ⟨root, _, _, rfl, HF2.out, ?_, ?_, ?_⟩
      · exact (HOF.out.store TRF.out 0 _).store (TRF.out.set _ _ _) 1 _
      · exact cur_kept (cur_kept CUF.out (grown_set _ w.heap.size 0 _) (fun k e => by cases e; exact hlt)) (grown_set _ w.heap.size 1 _) (fun k e => by cases e; exact hlt)
      · exact grown_new (grown_new GRF.out (Nat.le_refl _) 0 _) (Nat.le_refl _) 1 _
  · have hncap : n ≤ c := HO.out.rd.1.1.2.1
    have hcm := HO.out.rd.1.1.2.2.1
    unfold maxLen at hcm
    have z2 : (i : Int) ≤ c := by omega
    have P5 := HO.out.take (show i ≤ n by omega)
    have HOF := Lib.hid (P5.store TG.out 1 (.slice (some ⟨gb, 0, none⟩) i c))
    have KGF := Lib.hid (KG.out.set 1 (.slice (some ⟨gb, 0, none⟩) i c) (by show 1 < 2; decide))
    have KRF := Lib.hid (KR.out.other 1 (.slice (some ⟨gb, 0, none⟩) i c) (show G ≠ w.heap.size by omega))
    have TRF := Lib.hid (TR.out.set G 1 (.slice (some ⟨gb, 0, none⟩) i c))
    have CUF := Lib.hid (cur_kept CU.out (grown_set wr G 1 (.slice (some ⟨gb, 0, none⟩) i c)) (fun k e => by cases e; exact hgG))
    have GRF := Lib.hid (grown_new GR.out (show w.heap.size ≤ G by omega) 1 (.slice (some ⟨gb, 0, none⟩) i c))
    have HF2 : Hid (Fits 523 2000 ((ps.take i).map PgV.pg)) := Lib.hid ⟨by rw [List.length_map, List.length_take]; omega, fun q hq => by
      obtain ⟨q', hq', rfl⟩ := List.mem_map.1 hq
      exact HF.out.2 q'.pg (List.mem_map_of_mem (List.mem_of_mem_take hq'))⟩
    clear P5
    go_upto_region 14 with (fail)
    clear j0 e0 j00 j01
    obtain ⟨hGl, j0, -⟩ := KGF.out
    obtain ⟨hRl, r0, fr⟩ := KRF.out
    have hRG : w.heap.size ≠ G := by omega
    clear KGF
    go_wp2
    refine bodyPost_ret (v := .agg #[.int .i64 root, .slice (some ⟨gb, 0, none⟩) i c]) (by simp [results, Tryz.results29, go_sem, r0]) rfl ⟨root, _, _, rfl, HF2.out, ?_, ?_, ?_⟩
    · exact (HOF.out.store TRF.out 0 _).store (TRF.out.set _ _ _) 1 _
    · exact cur_kept (cur_kept CUF.out (grown_set _ w.heap.size 0 _) (fun k e => by cases e; exact hlt)) (grown_set _ w.heap.size 1 _) (fun k e => by cases e; exact hlt)
    · exact grown_new (grown_new GRF.out (Nat.le_refl _) 0 _) (Nat.le_refl _) 1 _
  · have n0 : s ≠ 0 := by omega
    have n1 : s ≠ 1 := by omega
    have n2 : s ≠ 2 := by omega
    have n3 : s ≠ 3 := by omega
    have n4 : s ≠ 4 := by omega
    have m0 : (s == 0) = false := by rw [beq_eq_false_iff_ne]; exact n0
    have m1 : (s == 1) = false := by rw [beq_eq_false_iff_ne]; exact n1
    have m2 : (s == 2) = false := by rw [beq_eq_false_iff_ne]; exact n2
    have m3 : (s == 3) = false := by rw [beq_eq_false_iff_ne]; exact n3
    have m4 : (s == 4) = false := by rw [beq_eq_false_iff_ne]; exact n4
    have KGF := KG
    have KRF := KR
    have TRF := TR
    have HOF := HO
    have CUF := CU
    have GRF := GR
    go_upto_region 14 with (fail)
    clear j0 e0 j00 j01 n0 n1 n2 n3 n4 m0 m1 m2 m3 m4
    obtain ⟨hGl, j0, -⟩ := KGF.out
    obtain ⟨hRl, r0, fr⟩ := KRF.out
    have hRG : w.heap.size ≠ G := by omega
    clear KGF
    go_wp2
    refine bodyPost_ret (v := .agg #[.int .i64 root, .slice (some ⟨gb, 0, none⟩) n c]) (by simp [results, Tryz.results29, go_sem, r0]) rfl ⟨root, _, ps, rfl, HF.out.mono (by omega) (by omega), ?_, ?_, ?_⟩
    · exact (HOF.out.store TRF.out 0 _).store (TRF.out.set _ _ _) 1 _
    · exact cur_kept (cur_kept CUF.out (grown_set _ w.heap.size 0 _) (fun k e => by cases e; exact hlt)) (grown_set _ w.heap.size 1 _) (fun k e => by cases e; exact hlt)
    · exact grown_new (grown_new GRF.out (Nat.le_refl _) 0 _) (Nat.le_refl _) 1 _
end Go.Proofs.YtfefggcfeppeiaaGreat
