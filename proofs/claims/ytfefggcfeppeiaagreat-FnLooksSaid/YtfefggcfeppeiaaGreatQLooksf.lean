/- Texts of this seat laid together: Draw11, DrawItems, DrawNode. -/
import Derived.Test.YtfefggcfeppeiaaGreatQLookse

/- The model's l11Draw: a book that some insertions make. -/
namespace Go.Proofs.YtfefggcfeppeiaaGreat
open Go.RowKit

theorem insV_fits {l : List Pg} {root : Int} {N B : Nat} (x : It) (h : Fits N B l) : Fits (N + 13) (B + 50) (insV l root x).2.1 := by
  have h0 : Fits (N + 13) (B + 50) l := h.mono (by omega) (by omega)
  have h1 := h.ins x 12 root
  unfold insV
  split
  · split
    · exact h0
    · split
      · exact h0
      · split
        · split
          · split
            · exact h0
            · exact ((h1.mono (Nat.le_refl _) (show B + 4 * 12 ≤ B + 50 by omega)).alloc.mono (by omega) (Nat.le_refl _)).put _ (show 2 ≤ B + 50 by omega)
          · exact h1.mono (by omega) (by omega)
        · exact h0
  · exact h0
theorem insV_ge (l : List Pg) (root : Int) (x : It) : l.length ≤ (insV l root x).2.1.length := by
  have h1 := inV_ge l x 12 root
  unfold insV
  split
  · split
    · exact Nat.le_refl _
    · split
      · exact Nat.le_refl _
      · split
        · split
          · split
            · exact Nat.le_refl _
            · show _ ≤ (putV _ _ _).length
              rw [(putV_le _ _ _).1]
              exact Nat.le_trans h1 (allocV_ge _)
          · exact h1
        · exact Nat.le_refl _
  · exact Nat.le_refl _
theorem ownP_grown {w w' : World} {base : Nat} {v : Value} {ps : List PgV} {row : Option Nat} (h : OwnP w base v ps) (hg : w.grownBy w' row) (hr : ∀ k, row = some k → k < base) : OwnP w' base v ps :=
  h.frame w w' (fun k h1 h2 => hg.block k h2 (fun e => by have := hr k e.symm; omega)) h
theorem _root_.Go.World.grownBy.drew' {w w' : World} {row : Option Nat} (h : w.grownBy w' row) : w.grownBy w'.drew row := grown_trans h ⟨rfl, rfl, rfl, Nat.le_refl _, fun _ _ _ => rfl⟩
/-- A book that was drawn. -/
def DrawnBook (g : Nat) (zs : List Int) (N B : Nat) (w : World) (e : Ending) (w' : World) : Prop :=
  ∃ (root : Int) (v : Value) (ps : List PgV), e = .returned (.agg #[.int .i64 root, v]) ∧ Fits N B (ps.map PgV.pg) ∧ OwnP w' w.heap.size v ps ∧ Cur g zs w' ∧ w.grownBy w' (some g)
theorem draw_round {w W : World} {g G : Nat} {zs : List Int} {u0 u1 v : Value} {ps : List PgV} (hgG : g < G) (KG : Loc W G #[u0, u1]) (TG : TagT 26 W G) (KR : Loc W w.heap.size #[.int .i64 0, .slice none 0 0]) (TR : TagT 26 W w.heap.size) (HO : OwnP W w.heap.size v ps) (CU : Cur g zs W) (GR : w.grownBy W (some g)) (h1 : w.heap.size ≠ G) (h2 : w.heap.size ≤ G) (r : Int) :
    Hid (Loc ((W.setCell ⟨G, 0, none⟩ (.int .i64 r)).setCell ⟨G, 1, none⟩ v) G #[.int .i64 r, v]) ∧ Hid (TagT 26 ((W.setCell ⟨G, 0, none⟩ (.int .i64 r)).setCell ⟨G, 1, none⟩ v) G) ∧ Hid (Loc ((W.setCell ⟨G, 0, none⟩ (.int .i64 r)).setCell ⟨G, 1, none⟩ v) w.heap.size #[.int .i64 0, .slice none 0 0]) ∧ Hid (TagT 26 ((W.setCell ⟨G, 0, none⟩ (.int .i64 r)).setCell ⟨G, 1, none⟩ v) w.heap.size) ∧ Hid (OwnP ((W.setCell ⟨G, 0, none⟩ (.int .i64 r)).setCell ⟨G, 1, none⟩ v) w.heap.size (v) ps) ∧ Hid (Cur g zs ((W.setCell ⟨G, 0, none⟩ (.int .i64 r)).setCell ⟨G, 1, none⟩ v)) ∧ Hid (w.grownBy ((W.setCell ⟨G, 0, none⟩ (.int .i64 r)).setCell ⟨G, 1, none⟩ v) (some g)) :=
  ⟨Lib.hid ((KG.set 0 (.int .i64 r) (by show 0 < 2; decide)).set 1 v (by show 1 < 2; decide)), Lib.hid ((TG.set _ _ _).set _ _ _), Lib.hid ((KR.other 0 _ h1.symm).other 1 _ h1.symm), Lib.hid ((TR.set _ _ _).set _ _ _), Lib.hid ((HO.store TG 0 _).store (TG.set _ _ _) 1 _),
    Lib.hid (cur_kept (cur_kept CU (grown_set W G 0 _) (fun k e => by cases e; exact hgG)) (grown_set _ G 1 _) (fun k e => by cases e; exact hgG)), Lib.hid (grown_new (grown_new GR h2 0 _) h2 1 _)⟩

set_option maxRecDepth 100000 in
set_option maxHeartbeats 3200000 in
theorem l11Draw_any (g : Nat) (zs : List Int) (most : Int) (w : World) (h : Cur g zs w) (hm : 0 ≤ most ∧ most ≤ 40) :
    Calls Tryz.prog 52 #[.pointer (some ⟨g, 0, none⟩), .int .i64 most] w fun e w' => DrawnBook g zs 521 2000 w e w' ∧ ∀ (root : Int) (a : Option Addr) (n c : Nat), e = .returned (.agg #[.int .i64 root, .slice a n c]) → 1 ≤ n := by
  have hlt := cur_lt h
  have K0 := Loc.new w #[.int .i64 0, .slice none 0 0] 26
  have T0 := TagT.new 26 w #[.int .i64 0, .slice none 0 0]
  have c0 := cur_alloc h (.cells #[.int .i64 0, .slice none 0 0] 26)
  have g0 := World.grownBy_alloc w (.cells #[.int .i64 0, .slice none 0 0] 26) (some g)
  replace K0 := Lib.hid K0
  replace T0 := Lib.hid T0
  replace c0 := Lib.hid c0
  replace g0 := Lib.hid g0
  clear h
  go_enter Tryz.func52, Tryz.ntmps52
  go_wp2_with fail
  refine (sBookNew_any _).mono ?_
  rintro e w1 ⟨v1, ps1, rfl, hp1, o1, b1⟩
  obtain ⟨a1, c1, rfl⟩ := o1.shape
  have s1 := b1.size
  simp at s1
  obtain ⟨G, hG⟩ : ∃ G, G = w1.heap.size := ⟨_, rfl⟩
  obtain ⟨W2, hW2⟩ : ∃ W2, W2 = w1.alloc (.cells #[.int .i64 0, .slice a1 ps1.length c1] 26) := ⟨_, rfl⟩
  have b2 : Below w1.heap.size w1 W2 := by subst hW2; exact new_below _ _
  have KG : Loc W2 G #[.int .i64 0, .slice a1 ps1.length c1] := by subst hW2 hG; exact Loc.new _ _ _
  have TG : TagT 26 W2 G := by subst hW2 hG; exact TagT.new _ _ _
  have hgG : g < G := by omega
  have hwG : w.heap.size < G := by omega
  have b12 := b1.trans (b2.mono b1.size)
  have KR := Lib.hid (K0.out.below b12)
  have TR := Lib.hid (T0.out.of (b12.block _ K0.out.1))
  have HO := Lib.hid ((o1.below b2).mono (show w.heap.size ≤ (w.alloc (.cells #[.int .i64 0, .slice none 0 0] 26)).heap.size by simp))
  have CU := cur_kept c0.out (Below.toGrown b12 none) (fun k e => by cases e)
  have GR := Lib.hid (grown_trans g0.out (Below.toGrown b12 (some g)))
  replace KG := Lib.hid KG
  replace TG := Lib.hid TG
  have HF : Hid (Fits 1 0 (ps1.map PgV.pg)) := by
    rw [hp1]
    exact Lib.hid ⟨by simp, fun p hp => by rw [List.mem_singleton.1 hp]; exact Nat.le_refl _⟩
  have hlen : Hid (1 ≤ ps1.length) := by
    have := congrArg List.length hp1
    rw [List.length_map] at this
    exact Lib.hid (by rw [this]; exact Nat.le_refl _)
  have CB := Lib.hid (l1Below_any g zs (most + 1) W2 CU (by omega))
  replace hG := Lib.hid hG
  clear b1 b2 b12 o1 hp1 K0 T0 c0 g0 CU
  go_wp2_with fail
  rw [← hG.out, ← hW2]
  clear hW2
  refine CB.out.mono ?_
  rintro e w3 ⟨x, rfl, x0, x1, cu3, g3⟩
  rw [if_pos (by omega)] at x1
  obtain ⟨k0, rfl⟩ := Int.eq_ofNat_of_zero_le x0
  have hk0 : k0 ≤ 40 := by omega
  have KG3 := Lib.hid (KG.out.grown g3 (fun k e => by cases e; omega))
  have TG3 := Lib.hid (TG.out.of (g3.block G KG.out.1 (fun e => by have := Option.some.inj e; omega)))
  have KR3 := Lib.hid (KR.out.grown g3 (fun k e => by cases e; omega))
  have TR3 := Lib.hid (TR.out.of (g3.block _ KR.out.1 (fun e => by have := Option.some.inj e; omega)))
  have HO3 := Lib.hid (ownP_grown HO.out g3 (fun k e => by cases e; omega))
  have GR3 := Lib.hid (grown_trans GR.out g3)
  replace cu3 := Lib.hid cu3
  clear g3 KG TG KR TR HO GR CB x0 x1
  go_wp2
  go_loopw [6] (fun i wr => ∃ (k : Nat) (root : Int) (a : Option Addr) (n c : Nat) (ps : List PgV), k ≤ 40 ∧ i = .int .i64 (k : Int) ∧ Hid (Fits (1 + 13 * (40 - k)) (50 * (40 - k)) (ps.map PgV.pg)) ∧ Hid (1 ≤ ps.length) ∧ Hid (Loc wr G #[.int .i64 root, .slice a n c]) ∧ Hid (TagT 26 wr G) ∧ Hid (Loc wr w.heap.size #[.int .i64 0, .slice none 0 0]) ∧ Hid (TagT 26 wr w.heap.size) ∧ Hid (OwnP wr w.heap.size (.slice a n c) ps) ∧ Hid (Cur g zs wr) ∧ Hid (w.grownBy wr (some g))) (fun i _ => (intOf i).toNat)
  case atStart => exact ⟨k0, 0, a1, _, c1, ps1, hk0, rfl, Lib.hid (HF.out.mono (by omega) (by omega)), hlen, KG3, TG3, KR3, TR3, HO3, cu3, GR3⟩
  case round =>
    clear KG3 TG3 KR3 TR3 HO3 GR3 cu3 HF hlen hk0
    obtain ⟨k, root, a, n, c, ps, hk, rfl, HF, hlen, KG, TG, KR, TR, HO, CU, GR⟩ := hrel
    obtain ⟨hGl, j0, e0⟩ := KG.out
    have c0 := j0 0
    have c1' := j0 1
    simp at c0 c1'
    by_cases hkz : 0 < k
    · obtain ⟨k', rfl⟩ : ∃ k', k = k' + 1 := ⟨k - 1, by omega⟩
      have hw30 : 40 - k' = (40 - (k' + 1)) + 1 := by omega
      have z0 : (0 : Int) < ((k' + 1 : Nat) : Int) := by omega
      have CD := Lib.hid (l4Draw_any g zs wr.drew (cur_kept CU.out (Below.toGrown (drew_below wr) none) (fun k e => by cases e)))
      have CI := Lib.hid (fun (x : It) (V : World) (hv : RdP V a n c ps) => sInsert_any root x a n c ps V hv _ _ HF.out (by omega) (by omega))
      go_upto_region 5 with (fail)
      refine wp_last ?_
      intro KK hKK
      go_cut [] (fun wx => ∃ (root : Int) (v : Value) (ps : List PgV), Fits (1 + 13 * (40 - k')) (50 * (40 - k')) (ps.map PgV.pg) ∧ 1 ≤ ps.length ∧ Hid (Loc wx G #[.int .i64 root, v]) ∧ Hid (TagT 26 wx G) ∧ Hid (Loc wx w.heap.size #[.int .i64 0, .slice none 0 0]) ∧ Hid (TagT 26 wx w.heap.size) ∧ Hid (OwnP wx w.heap.size (v) ps) ∧ Hid (Cur g zs wx) ∧ Hid (w.grownBy wx (some g)))
      case first => as_aux_lemma =>
        refine wp_region_noPanic ?_
        refine wp_region_held_drew (S := fun _ => True) (by kernel_rfl) trivial (fun hHeld => ?_)
        refine wpAnyH_take (i := 1) (v := ?v1_7) rfl (by kernel_rfl) (by kernel_rfl) (by kernel_rfl) (fun _ _ _ h => h) (Or.inl ⟨by rfl, ?hy1_7⟩) (by assumption) ?rest1_7
        case hy1_7 => intro w hSw; go_simp; (try with_reducible rfl)
        simp only [List.getElem_toArray, List.getElem_cons_zero, List.getElem_cons_succ, Act.put, List.setIfInBounds_toArray, List.set_cons_zero, List.set_cons_succ]
        refine wpAnyH_ready (rs := [0, 2]) (by kernel_rfl) (by simp) ?_
        refine AllReadyH.cons rfl (fun K hK => ?_) (AllReadyH.cons rfl (fun K hK => ?_) AllReadyH.nil)
        · go_simp
          refine hK.out _ _ trivial (fun hHeld => ?_)
          clear hK K
          refine wpAnyH_ready (rs := [2]) (by kernel_rfl) (by simp) ?_
          refine AllReadyH.cons rfl (fun K hK => ?_) AllReadyH.nil
          go_simp
          refine CD.out.mono ?_
          rintro e wA ⟨x, rfl, cuA, gA⟩
          have sA := gA.size
          have KGA := Lib.hid ((KG.out.drew).grown gA (fun k e => by cases e; omega))
          have TGA := Lib.hid (TG.out.of (gA.block G (show G < wr.heap.size from KG.out.1) (fun e => by have := Option.some.inj e; omega)))
          have KRA := Lib.hid ((KR.out.drew).grown gA (fun k e => by cases e; omega))
          have TRA := Lib.hid (TR.out.of (gA.block w.heap.size (show w.heap.size < wr.heap.size from KR.out.1) (fun e => by have := Option.some.inj e; omega)))
          have HOA := Lib.hid (ownP_grown HO.out.drew gA (fun k e => by cases e; omega))
          have CUA := Lib.hid cuA
          have GA := Lib.hid (grown_trans GR.out.drew' gA)
          obtain ⟨-, ja, -⟩ := KGA.out
          have ja0 := ja 0
          have ja1 := ja 1
          simp at ja0 ja1
          clear cuA gA ja
          refine hK.out _ _ trivial (fun hHeld => ?_)
          clear hK K
          refine wpAnyH_ready (rs := [3]) (by kernel_rfl) (by simp) ?_
          refine AllReadyH.cons rfl (fun K hK => ?_) AllReadyH.nil
          go_simp
          refine (CI.out x wA HOA.out.rd).mono ?_
          rintro e wB ⟨v', ps', rfl, hps', oB, bB⟩
          obtain ⟨aB, cB, rfl⟩ := oB.shape
          have sB := bB.size
          have KGB := Lib.hid (KGA.out.below bB)
          have TGB := Lib.hid (TGA.out.of (bB.block G KGA.out.1))
          have KRB := Lib.hid (KRA.out.below bB)
          have TRB := Lib.hid (TRA.out.of (bB.block w.heap.size KRA.out.1))
          have OB := Lib.hid (oB.mono (show w.heap.size ≤ wA.heap.size by have := GA.out.size; omega))
          have HPS := Lib.hid hps'
          have CUB := Lib.hid (cur_kept CUA.out (Below.toGrown bB none) (fun k e => by cases e))
          have GB := Lib.hid (grown_trans GA.out (Below.toGrown bB (some g)))
          obtain ⟨hGB, jb, eb⟩ := KGB.out
          clear oB bB hps'
          refine hK.out _ _ trivial (fun hHeld => ?_)
          clear hK K
          refine wpAnyH_take (i := 4) (v := ?v4_1) rfl (by kernel_rfl) (by kernel_rfl) (by kernel_rfl) (fun _ _ _ h => h) (Or.inl ⟨by rfl, ?hy4_1⟩) (by assumption) ?rest4_1
          case hy4_1 => intro w hSw; go_simp; (try with_reducible rfl)
          simp only [List.getElem_toArray, List.getElem_cons_zero, List.getElem_cons_succ, Act.put, List.setIfInBounds_toArray, List.set_cons_zero, List.set_cons_succ]
          refine wpAnyH_take (i := 5) (v := ?v5_2) rfl (by kernel_rfl) (by kernel_rfl) (by kernel_rfl) (fun _ _ _ h => h) (Or.inl ⟨by rfl, ?hy5_2⟩) (by assumption) ?rest5_2
          case hy5_2 => intro w hSw; go_simp; (try with_reducible rfl)
          simp only [List.getElem_toArray, List.getElem_cons_zero, List.getElem_cons_succ, Act.put, List.setIfInBounds_toArray, List.set_cons_zero, List.set_cons_succ]
          refine wpAnyH_take (i := 6) (v := ?v6_3) rfl (by kernel_rfl) (by kernel_rfl) (by kernel_rfl) (fun _ _ _ h => h) (Or.inl ⟨by rfl, ?hy6_3⟩) (by assumption) ?rest6_3
          case hy6_3 => intro w hSw; go_simp; (try with_reducible rfl)
          simp only [List.getElem_toArray, List.getElem_cons_zero, List.getElem_cons_succ, Act.put, List.setIfInBounds_toArray, List.set_cons_zero, List.set_cons_succ]
          refine wpAnyH_ready (rs := [7]) (by kernel_rfl) (by simp) ?_
          refine AllReadyH.cons rfl (fun K hK => ?_) AllReadyH.nil
          go_simp
          refine hK.out _ _ trivial (fun hHeld => ?_)
          clear hK K
          refine wpAnyH_done (by kernel_rfl) ?_ _
          refine NoPanic.normal ?_
          clear hHeld
          have hgG : g < G := by omega
          have RR := Lib.hid (draw_round hgG KGB.out TGB.out KRB.out TRB.out OB.out CUB.out GB.out (by omega) (by omega) (insV (ps.map PgV.pg) root x).1)
          go_wp2_with fail
          go_meet
          exact ⟨_, _, ps', by rw [HPS.out]; exact (insV_fits x HF.out).mono (by omega) (by omega), by rw [← List.length_map (f := PgV.pg), HPS.out]; exact Nat.le_trans (by rw [List.length_map]; exact hlen.out) (insV_ge _ _ _), RR.out⟩
        · go_simp
          refine CD.out.mono ?_
          rintro e wA ⟨x, rfl, cuA, gA⟩
          have sA := gA.size
          have KGA := Lib.hid ((KG.out.drew).grown gA (fun k e => by cases e; omega))
          have TGA := Lib.hid (TG.out.of (gA.block G (show G < wr.heap.size from KG.out.1) (fun e => by have := Option.some.inj e; omega)))
          have KRA := Lib.hid ((KR.out.drew).grown gA (fun k e => by cases e; omega))
          have TRA := Lib.hid (TR.out.of (gA.block w.heap.size (show w.heap.size < wr.heap.size from KR.out.1) (fun e => by have := Option.some.inj e; omega)))
          have HOA := Lib.hid (ownP_grown HO.out.drew gA (fun k e => by cases e; omega))
          have CUA := Lib.hid cuA
          have GA := Lib.hid (grown_trans GR.out.drew' gA)
          obtain ⟨-, ja, -⟩ := KGA.out
          have ja0 := ja 0
          have ja1 := ja 1
          simp at ja0 ja1
          clear cuA gA ja
          refine hK.out _ _ trivial (fun hHeld => ?_)
          clear hK K
          refine wpAnyH_ready (rs := [0]) (by kernel_rfl) (by simp) ?_
          refine AllReadyH.cons rfl (fun K hK => ?_) AllReadyH.nil
          go_simp
          refine hK.out _ _ trivial (fun hHeld => ?_)
          clear hK K
          refine wpAnyH_ready (rs := [3]) (by kernel_rfl) (by simp) ?_
          refine AllReadyH.cons rfl (fun K hK => ?_) AllReadyH.nil
          go_simp
          refine (CI.out x wA HOA.out.rd).mono ?_
          rintro e wB ⟨v', ps', rfl, hps', oB, bB⟩
          obtain ⟨aB, cB, rfl⟩ := oB.shape
          have sB := bB.size
          have KGB := Lib.hid (KGA.out.below bB)
          have TGB := Lib.hid (TGA.out.of (bB.block G KGA.out.1))
          have KRB := Lib.hid (KRA.out.below bB)
          have TRB := Lib.hid (TRA.out.of (bB.block w.heap.size KRA.out.1))
          have OB := Lib.hid (oB.mono (show w.heap.size ≤ wA.heap.size by have := GA.out.size; omega))
          have HPS := Lib.hid hps'
          have CUB := Lib.hid (cur_kept CUA.out (Below.toGrown bB none) (fun k e => by cases e))
          have GB := Lib.hid (grown_trans GA.out (Below.toGrown bB (some g)))
          obtain ⟨hGB, jb, eb⟩ := KGB.out
          clear oB bB hps'
          refine hK.out _ _ trivial (fun hHeld => ?_)
          clear hK K
          refine wpAnyH_take (i := 4) (v := ?v4_4) rfl (by kernel_rfl) (by kernel_rfl) (by kernel_rfl) (fun _ _ _ h => h) (Or.inl ⟨by rfl, ?hy4_4⟩) (by assumption) ?rest4_4
          case hy4_4 => intro w hSw; go_simp; (try with_reducible rfl)
          simp only [List.getElem_toArray, List.getElem_cons_zero, List.getElem_cons_succ, Act.put, List.setIfInBounds_toArray, List.set_cons_zero, List.set_cons_succ]
          refine wpAnyH_take (i := 5) (v := ?v5_5) rfl (by kernel_rfl) (by kernel_rfl) (by kernel_rfl) (fun _ _ _ h => h) (Or.inl ⟨by rfl, ?hy5_5⟩) (by assumption) ?rest5_5
          case hy5_5 => intro w hSw; go_simp; (try with_reducible rfl)
          simp only [List.getElem_toArray, List.getElem_cons_zero, List.getElem_cons_succ, Act.put, List.setIfInBounds_toArray, List.set_cons_zero, List.set_cons_succ]
          refine wpAnyH_take (i := 6) (v := ?v6_6) rfl (by kernel_rfl) (by kernel_rfl) (by kernel_rfl) (fun _ _ _ h => h) (Or.inl ⟨by rfl, ?hy6_6⟩) (by assumption) ?rest6_6
          case hy6_6 => intro w hSw; go_simp; (try with_reducible rfl)
          simp only [List.getElem_toArray, List.getElem_cons_zero, List.getElem_cons_succ, Act.put, List.setIfInBounds_toArray, List.set_cons_zero, List.set_cons_succ]
          refine wpAnyH_ready (rs := [7]) (by kernel_rfl) (by simp) ?_
          refine AllReadyH.cons rfl (fun K hK => ?_) AllReadyH.nil
          go_simp
          refine hK.out _ _ trivial (fun hHeld => ?_)
          clear hK K
          refine wpAnyH_done (by kernel_rfl) ?_ _
          refine NoPanic.normal ?_
          clear hHeld
          have hgG : g < G := by omega
          have RR := Lib.hid (draw_round hgG KGB.out TGB.out KRB.out TRB.out OB.out CUB.out GB.out (by omega) (by omega) (insV (ps.map PgV.pg) root x).1)
          go_wp2_with fail
          go_meet
          exact ⟨_, _, ps', by rw [HPS.out]; exact (insV_fits x HF.out).mono (by omega) (by omega), by rw [← List.length_map (f := PgV.pg), HPS.out]; exact Nat.le_trans (by rw [List.length_map]; exact hlen.out) (insV_ge _ _ _), RR.out⟩
      case rest =>
        obtain ⟨root2, v2, ps2, hf2, hl2, hst⟩ := hcut
        obtain ⟨a2, c2, rfl⟩ := hst.2.2.2.2.1.out.shape
        have ek : ((k' + 1 : Nat) : Int) - 1 = k' := by omega
        refine hKK _ _ ?_
        go_wp2
        go_roundw
        case rel => exact ⟨k', root2, a2, _, c2, ps2, by omega, by go_num, Lib.hid hf2, Lib.hid hl2, hst⟩
        case measure => simp [intOf]
    · obtain rfl : k = 0 := by omega
      obtain ⟨hRl, r0, fr⟩ := KR.out
      have hRG : w.heap.size ≠ G := by omega
      have hpl := ownP_len HO.out
      have hl1 := hlen.out
      go_wp2
      refine bodyPost_ret (v := .agg #[.int .i64 root, .slice a n c]) (by simp [results, Tryz.results52, go_sem, r0]) rfl ⟨⟨root, _, ps, rfl, HF.out.mono (by omega) (by omega), ?_, ?_, ?_⟩, ?_⟩
      · exact (HO.out.store TR.out 0 _).store (TR.out.set _ _ _) 1 _
      · exact cur_kept (cur_kept CU.out (grown_set _ w.heap.size 0 _) (fun k e => by cases e; exact hlt)) (grown_set _ w.heap.size 1 _) (fun k e => by cases e; exact hlt)
      · exact grown_new (grown_new GR.out (Nat.le_refl _) 0 _) (Nat.le_refl _) 1 _
      · intro root' a' n' c' e
        simp only [Ending.returned.injEq, Value.agg.injEq] at e
        have e2 := congrArg (fun z => z[1]?) e
        simp at e2
        omega
end Go.Proofs.YtfefggcfeppeiaaGreat

/- The model's draws of lists of items. -/
namespace Go.Proofs.YtfefggcfeppeiaaGreat
open Go.RowKit

/-- What the draw of a list of items leaves: some items in new memory. -/
def DrawnItems (g : Nat) (zs : List Int) (m : Nat) (w : World) (e : Ending) (w' : World) : Prop :=
  ∃ v ys, e = .returned v ∧ ys.length ≤ m ∧ OwnS itLay 47 w' w.heap.size v ys ∧ Cur g zs w' ∧ w.grownBy w' (some g)

theorem ownS_far {w w' : World} {e : TypeId} {base g : Nat} {v : Value} {xs : List It} (h : OwnS itLay e w base v xs) (hg : w.grownBy w' (some g)) (hb : g < base) : OwnS itLay e w' base v xs := by
  refine OwnS.kept h hg ?_
  cases hv : v.ownBlock with
  | none => exact .inl rfl
  | some j => exact .inr fun e => by have := (h.lt j hv).1; simp at e; omega

theorem ownS_snoc {w : World} {e : TypeId} {base : Nat} {v : Value} {ys : List It} {y : It} (h : w.ownsRow base e 5 v (ys.length + 1) (ys.flatMap itLay.cells ++ itLay.cells y)) : OwnS itLay e w base v (ys ++ [y]) := by
  show w.ownsRow base e 5 v _ _
  rw [List.length_append, List.flatMap_append]
  simpa using h
theorem ownS_snoc2 {w : World} {e : TypeId} {base : Nat} {v : Value} {ys : List It} {y z : It} (h : w.ownsRow base e 5 v (ys.length + 2) (ys.flatMap itLay.cells ++ (itLay.cells y ++ itLay.cells z))) : OwnS itLay e w base v (ys ++ [y, z]) := by
  show w.ownsRow base e 5 v _ _
  rw [List.length_append, List.flatMap_append]
  simpa using h

set_option maxHeartbeats 1600000 in
set_option maxRecDepth 100000 in
theorem l4List_any (g : Nat) (zs : List Int) (m : Nat) (w : World) (h : Cur g zs w) (hm : m ≤ 1000) :
    Calls Tryz.prog 76 #[.pointer (some ⟨g, 0, none⟩), .int .i64 m] w (DrawnItems g zs m w) := by
  obtain ⟨i0, hi, hz0, hz1, hz2⟩ := info_parts Tryz.infoItem
  have HZ2 := Lib.hid hz2
  clear hz2
  have hlt := cur_lt h
  have hO := Lib.hid (own_nil w 47 5 w.heap.size w.heap.size rfl (Nat.le_refl _))
  go_enter Tryz.func76, Tryz.ntmps76
  go_wp2_with fail
  refine (l1Below_any g zs (m + 1) _ (cur_alloc h _) (by omega)).mono ?_
  rintro e w1 ⟨x, rfl, x0, x1, cu, G⟩
  simp at x1
  have hO2 : Hid (OwnS itLay 47 w1 w.heap.size (.slice (some ⟨w.heap.size, 0, none⟩) 0 0) []) := ownS_far (xs := []) hO.out G hlt
  replace G := Lib.hid (grown_trans (World.grownBy_alloc w _ (some g)) G)
  clear hO h
  go_wp2
  go_loopw [5, 6] (fun v i wr => ∃ (t : Int) (ys : List It), 0 ≤ t ∧ i = .int .i64 t ∧ (ys.length : Int) + t ≤ m ∧ OwnS itLay 47 wr w.heap.size v ys ∧ Cur g zs wr ∧ w.grownBy wr (some g))
    (fun _ i _ => (intOf i).toNat)
  case atStart => exact ⟨x, [], x0, rfl, by simp; omega, hO2.out, cu, G.out⟩
  case round =>
    obtain ⟨t, ys, ht, rfl, hl, ho, hc, hgr⟩ := hrel
    obtain ⟨a', c', rfl, hr⟩ := OwnS.rd ho
    have HO := Lib.hid ho
    have HG := Lib.hid hgr
    have hsz := hgr.size
    clear ho hgr hO2 G hr
    by_cases hlt2 : 0 < t
    · go_wp2_with fail
      refine (l4Draw_any g zs _ hc).mono ?_
      rintro e w3 ⟨y, rfl, c3, g3⟩
      have HO1 := Lib.hid (OwnS.below (ownS_far HO.out g3 hlt) (new_below w3 (.cells #[.int .i64 y.id, .int .i64 y.x0, .int .i64 y.y0, .int .i64 y.x1, .int .i64 y.y1] 47)))
      have HG1 := Lib.hid (grown_alloc (grown_trans HG.out g3) (.cells #[.int .i64 y.id, .int .i64 y.x0, .int .i64 y.y0, .int .i64 y.x1, .int .i64 y.y1] 47))
      have hsz1 := g3.size
      have K := blk_new w3 #[.int .i64 y.id, .int .i64 y.x0, .int .i64 y.y0, .int .i64 y.x1, .int .i64 y.y1] 47
      have C3 := Lib.hid (cur_alloc c3 (.cells #[.int .i64 y.id, .int .i64 y.x0, .int .i64 y.y0, .int .i64 y.x1, .int .i64 y.y1] 47))
      clear g3 hc HO HG c3
      have hr := Lib.hid (rdS_owns HO1.out)
      obtain ⟨k0, f0⟩ := K
      go_wp2_with fail
      refine (sItemAt_any _ _ _ ys y.id _ hr.out).mono ?_
      rintro e w4 ⟨rfl, hb⟩
      have K := below_keep hb (by simp) _ _ ⟨k0, f0⟩
      have HO2 := Lib.hid (HO1.out.below hb)
      have HG2 := Lib.hid (grown_trans HG1.out (Below.toGrown hb (some g)))
      have C4 := Lib.hid (cur_kept C3.out (Below.toGrown hb none) (fun k hk => by cases hk))
      have hsz2 := hb.size
      simp at hsz2
      clear hb k0 f0 HO1 HG1 C3 hr
      obtain ⟨k0, f0⟩ := K
      generalize atV y.id ys 0 = p
      by_cases hp : p < 0
      · go_wp2_with (at_builtin; refine append_src rfl (.tmp 24) (.tmp 26) 31 rfl w.heap.size 47 i0 _ 5 40 Tryz.underlying31 hi hz0 hz1 HZ2.out rfl (by decide) (.slice a' ys.length c') ys.length (ys.flatMap itLay.cells) rfl (World.ownsRow.alloc HO2.out _) (some ⟨w4.heap.size, 0, none⟩) 1 1 (itLay.cells y) rfl rfl (fun h => by cases h) ?_ (itLay.one _) ?_ ?_ ?_ ?_)
        case refine_1 =>
          intro p hp
          cases hp
          exact World.news_of_block (cs := #[.int .i64 y.id, .int .i64 y.x0, .int .i64 y.y0, .int .i64 y.x1, .int .i64 y.y1]) (t := 47) (fr := (0, 0)) (heap_alloc_new w4 _)
        case refine_2 => unfold maxLen; omega
        case refine_3 => omega
        case refine_4 => simp; omega
        intro v' w5 hown2 hgrow2
        have hrow : ∀ j, (Value.slice a' ys.length c').ownBlock = some j → g < j := fun j hj => by have := (HO2.out.lt j hj).1; omega
        have HC2 := Lib.hid (cur_kept (cur_kept C4.out (World.grownBy_alloc w4 _ none) (fun k hk => by cases hk)) hgrow2 hrow)
        have HG3 := Lib.hid (grown_own HG2.out (World.grownBy_alloc w4 _ none) hgrow2 (fun j hj => (HO2.out.lt j hj).1))
        have HO3 := Lib.hid hown2
        clear hown2 hgrow2
        go_wp2
        go_roundw
        case rel =>
          refine ⟨t - 1, ys ++ [y], by omega, rfl, by simp; omega, ?_, HC2.out, HG3.out⟩
          exact ownS_snoc HO3.out
        case measure => simp [intOf]; omega
      · go_wp2
        go_roundw
        case rel => exact ⟨t - 1, ys, by omega, rfl, by omega, HO2.out, C4.out, HG2.out⟩
        case measure => simp [intOf]; omega
    · go_wp2
      go_ret
      exact ⟨_, ys, rfl, by omega, HO.out, hc, HG.out⟩

/-- A list of items drawn by a law. -/
def DrawnList (m : Nat) (w : World) (e : Ending) (w' : World) : Prop :=
  ∃ v ys, e = .returned v ∧ ys.length ≤ m ∧ OwnS itLay 47 w' w.heap.size v ys ∧ Below w.heap.size w w'
end Go.Proofs.YtfefggcfeppeiaaGreat

/- The model's draws of nodes. -/
namespace Go.Proofs.YtfefggcfeppeiaaGreat
open Go.RowKit

/-- What the draw of a node leaves: some entries in new memory. -/
def DrawnNode (g : Nat) (zs : List Int) (m : Nat) (w : World) (e : Ending) (w' : World) : Prop :=
  ∃ b v ys, e = .returned (.agg #[.bool b, v]) ∧ ys.length ≤ m ∧ OwnS itLay 77 w' w.heap.size v ys ∧ Cur g zs w' ∧ w.grownBy w' (some g)

theorem cur_set' {g : Nat} {zs : List Int} {W : World} (h : Cur g zs W) {b : Nat} (hb : g < b) (j : Nat) (u : Value) : Cur g zs (W.setCell ⟨b, j, none⟩ u) := cur_kept h (grown_set W b j u) (fun k hk => by cases hk; exact hb)

theorem node_end {g : Nat} {zs : List Int} {m : Nat} {w W : World} {b : Bool} {v : Value} {ys : List It} (hlt : g < w.heap.size) (hl : ys.length ≤ m) (HO : OwnS itLay 77 W (w.heap.size + 1) v ys) (CU : Cur g zs W) (HG : w.grownBy W (some g)) :
    DrawnNode g zs m w (.returned (.agg #[.bool b, v])) ((W.setCell ⟨w.heap.size, 0, none⟩ (.bool b)).setCell ⟨w.heap.size, 1, none⟩ v) :=
  ⟨b, v, ys, rfl, hl, OwnS.mono (L := itLay) (ownS_set2 (ownS_set2 HO (by omega) _ _) (by omega) _ _) (by omega), cur_set' (cur_set' CU hlt _ _) hlt _ _, grown_new (grown_new HG (Nat.le_refl _) _ _) (Nat.le_refl _) _ _⟩

set_option maxHeartbeats 1600000 in
set_option maxRecDepth 100000 in
theorem l5Draw_any (g : Nat) (zs : List Int) (w : World) (h : Cur g zs w) :
    Calls Tryz.prog 55 #[.pointer (some ⟨g, 0, none⟩)] w (DrawnNode g zs 4 w) := by
  have hlt := cur_lt h
  have K := Lib.hid (Loc.new w #[.bool false, .slice none 0 0] 59)
  go_enter Tryz.func55, Tryz.ntmps55
  go_wp2_with fail
  refine (l4List_any g zs 4 _ (cur_alloc h _) (by omega)).mono ?_
  rintro e w1 ⟨v, ys, rfl, hl, ho, cu, G⟩
  obtain ⟨a', c', rfl, hr⟩ := OwnS.rd ho
  replace K := Lib.hid (K.out.far G hlt)
  have HG := Lib.hid (grown_trans (World.grownBy_alloc w _ (some g)) G)
  have s1 := G.size
  simp at s1
  clear ho G h
  go_wp2_with fail
  refine (sLeafOf_any a' ys.length c' ys _ hr (by omega)).mono ?_
  rintro e w2 ⟨v2, rfl, o2, b2⟩
  obtain ⟨a2, c2, rfl, -⟩ := OwnS.rd o2
  have HN : Hid (∀ k, (Value.slice a2 ys.length c2).ownBlock = some k → k < w2.heap.size) := fun k hk => (World.ownsRow.lt o2 k hk).2
  have J := Lib.hid (Loc.new w2 #[.bool true, .slice a2 ys.length c2] 59)
  replace K := Lib.hid ((K.out.below b2).alloc (.cells #[.bool true, .slice a2 ys.length c2] 59))
  replace HG := Lib.hid (grown_alloc (grown_trans HG.out (Below.toGrown b2 (some g))) (.cells #[.bool true, .slice a2 ys.length c2] 59))
  have HO := Lib.hid (OwnS.mono (base := w.heap.size + 1) (o2.below (new_below w2 (.cells #[.bool true, .slice a2 ys.length c2] 59))) s1)
  have CU := Lib.hid (cur_alloc (cur_kept cu (Below.toGrown b2 none) (fun k hk => by cases hk)) (.cells #[.bool true, .slice a2 ys.length c2] 59))
  have s2 := b2.size
  clear o2 b2 cu hr
  have N2 : ∀ k, (Value.slice a2 ys.length c2).ownBlock = some k → k < w2.heap.size := fun k hk => HN.out k hk
  have hq : w.heap.size ≠ w2.heap.size := by omega
  have hq2 : w.heap.size < (w2.alloc (.cells #[.bool true, .slice a2 ys.length c2] 59)).heap.size := by simp; omega
  by_cases h0 : ys.length = 0
  · have hz : ¬ ((0 : Int) < (ys.length : Int)) := by omega
    have HX := Lib.hid h0
    obtain ⟨-, k0, f0⟩ := K.out
    obtain ⟨-, j0, e0⟩ := J.out
    clear h0
    go_wp2
    exact bodyPost_ret (v := .agg #[.bool true, .slice a2 ys.length c2]) (by simp [results, Tryz.results55, go_sem, k0]) rfl (node_end hlt hl HO.out CU.out HG.out)
  · have hz : (0 : Int) < (ys.length : Int) := by omega
    clear h0
    go_wp2_with fail
    refine (l1Once_any g zs 3 _ CU.out (by omega)).mono ?_
    rintro e w3 ⟨bb, rfl, cu, g3⟩
    replace K := Lib.hid (K.out.far g3 hlt)
    replace J := Lib.hid (J.out.far g3 (by omega))
    replace HG := Lib.hid (grown_trans HG.out g3)
    replace HO := Lib.hid (ownS_far HO.out g3 (by omega))
    replace CU := Lib.hid cu
    clear g3 cu hq2
    cases bb with
    | true =>
      have J2 := Lib.hid (J.out.set 0 (.bool false) (by simp))
      have K2 := Lib.hid (K.out.other (p := w2.heap.size) 0 (.bool false) (fun e => hq e.symm))
      have HO2 := Lib.hid (ownS_set HO.out (g := w2.heap.size) (fun hj => by have := N2 _ hj; omega) 0 (.bool false))
      have CU2 := Lib.hid (cur_set' CU.out (b := w2.heap.size) (by omega) 0 (.bool false))
      have HG2 := Lib.hid (grown_new HG.out (b := w2.heap.size) (by omega) 0 (.bool false))
      obtain ⟨-, k0, f0⟩ := K2.out
      obtain ⟨-, j1, e1⟩ := J2.out
      obtain ⟨-, j0, e0⟩ := J.out
      have hi : #[Value.bool true, .slice a2 ys.length c2].setIfInBounds 0 (.bool false) = #[.bool false, .slice a2 ys.length c2] := rfl
      rw [hi] at j1
      clear N2 hi
      go_wp2
      exact bodyPost_ret (v := .agg #[.bool false, .slice a2 ys.length c2]) (by simp [results, Tryz.results55, go_sem, k0]) rfl (node_end hlt hl HO2.out CU2.out HG2.out)
    | false =>
      obtain ⟨-, k0, f0⟩ := K.out
      obtain ⟨-, j0, e0⟩ := J.out
      clear N2
      go_wp2
      exact bodyPost_ret (v := .agg #[.bool true, .slice a2 ys.length c2]) (by simp [results, Tryz.results55, go_sem, k0]) rfl (node_end hlt hl HO.out CU.out HG.out)
end Go.Proofs.YtfefggcfeppeiaaGreat
