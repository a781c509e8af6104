/- The model's l11Draw: a book that some insertions make. -/
import Derived.Test.YtfefggcfeppeiaaInsertZPages
import Derived.Test.YtfefggcfeppeiaaDrawItemZPages
namespace Go.Proofs.Ytfefggcfeppeiaa
open Go.RowKit

theorem insV_fits {l : List Pg} {root : Int} {N B : Nat} (x : It) (h : Fits N B l) : Fits (N + 13) (B + 50) (insV l root x).2.1 := by
  have h0 : Fits (N + 13) (B + 50) l := h.mono (by omega) (by omega)
  have h1 := h.ins x 12 root
  unfold insV
  split
  · split
    · exact h0
    · split
      · exact h0
      · split
        · split
          · split
            · exact h0
            · exact ((h1.mono (Nat.le_refl _) (show B + 4 * 12 ≤ B + 50 by omega)).alloc.mono (by omega) (Nat.le_refl _)).put _ (show 2 ≤ B + 50 by omega)
          · exact h1.mono (by omega) (by omega)
        · exact h0
  · exact h0
theorem insV_ge (l : List Pg) (root : Int) (x : It) : l.length ≤ (insV l root x).2.1.length := by
  have h1 := inV_ge l x 12 root
  unfold insV
  split
  · split
    · exact Nat.le_refl _
    · split
      · exact Nat.le_refl _
      · split
        · split
          · split
            · exact Nat.le_refl _
            · show _ ≤ (putV _ _ _).length
              rw [(putV_le _ _ _).1]
              exact Nat.le_trans h1 (allocV_ge _)
          · exact h1
        · exact Nat.le_refl _
  · exact Nat.le_refl _
theorem ownP_grown {w w' : World} {base : Nat} {v : Value} {ps : List PgV} {row : Option Nat} (h : OwnP w base v ps) (hg : w.grownBy w' row) (hr : ∀ k, row = some k → k < base) : OwnP w' base v ps :=
  h.frame w w' (fun k h1 h2 => hg.block k h2 (fun e => by have := hr k e.symm; omega)) h
theorem _root_.Go.World.grownBy.drew' {w w' : World} {row : Option Nat} (h : w.grownBy w' row) : w.grownBy w'.drew row := grown_trans h ⟨rfl, rfl, rfl, Nat.le_refl _, fun _ _ _ => rfl⟩
/-- A book that was drawn. -/
def DrawnBook (g : Nat) (zs : List Int) (N B : Nat) (w : World) (e : Ending) (w' : World) : Prop :=
  ∃ (root : Int) (v : Value) (ps : List PgV), e = .returned (.agg #[.int .i64 root, v]) ∧ Fits N B (ps.map PgV.pg) ∧ OwnP w' w.heap.size v ps ∧ Cur g zs w' ∧ w.grownBy w' (some g)
theorem draw_round {w W : World} {g G : Nat} {zs : List Int} {u0 u1 v : Value} {ps : List PgV} (hgG : g < G) (KG : Loc W G #[u0, u1]) (TG : TagT 26 W G) (KR : Loc W w.heap.size #[.int .i64 0, .slice none 0 0]) (TR : TagT 26 W w.heap.size) (HO : OwnP W w.heap.size v ps) (CU : Cur g zs W) (GR : w.grownBy W (some g)) (h1 : w.heap.size ≠ G) (h2 : w.heap.size ≤ G) (r : Int) :
    Hid (Loc ((W.setCell ⟨G, 0, none⟩ (.int .i64 r)).setCell ⟨G, 1, none⟩ v) G #[.int .i64 r, v]) ∧ Hid (TagT 26 ((W.setCell ⟨G, 0, none⟩ (.int .i64 r)).setCell ⟨G, 1, none⟩ v) G) ∧ Hid (Loc ((W.setCell ⟨G, 0, none⟩ (.int .i64 r)).setCell ⟨G, 1, none⟩ v) w.heap.size #[.int .i64 0, .slice none 0 0]) ∧ Hid (TagT 26 ((W.setCell ⟨G, 0, none⟩ (.int .i64 r)).setCell ⟨G, 1, none⟩ v) w.heap.size) ∧ Hid (OwnP ((W.setCell ⟨G, 0, none⟩ (.int .i64 r)).setCell ⟨G, 1, none⟩ v) w.heap.size (v) ps) ∧ Hid (Cur g zs ((W.setCell ⟨G, 0, none⟩ (.int .i64 r)).setCell ⟨G, 1, none⟩ v)) ∧ Hid (w.grownBy ((W.setCell ⟨G, 0, none⟩ (.int .i64 r)).setCell ⟨G, 1, none⟩ v) (some g)) :=
  ⟨Lib.hid ((KG.set 0 (.int .i64 r) (by show 0 < 2; decide)).set 1 v (by show 1 < 2; decide)), Lib.hid ((TG.set _ _ _).set _ _ _), Lib.hid ((KR.other 0 _ h1.symm).other 1 _ h1.symm), Lib.hid ((TR.set _ _ _).set _ _ _), Lib.hid ((HO.store TG 0 _).store (TG.set _ _ _) 1 _),
    Lib.hid (cur_kept (cur_kept CU (grown_set W G 0 _) (fun k e => by cases e; exact hgG)) (grown_set _ G 1 _) (fun k e => by cases e; exact hgG)), Lib.hid (grown_new (grown_new GR h2 0 _) h2 1 _)⟩

set_option maxRecDepth 100000 in
set_option maxHeartbeats 3200000 in
theorem l11Draw_any (g : Nat) (zs : List Int) (most : Int) (w : World) (h : Cur g zs w) (hm : 0 ≤ most ∧ most ≤ 30) :
    Calls Try.prog 91 #[.pointer (some ⟨g, 0, none⟩), .int .i64 most] w fun e w' => DrawnBook g zs 400 2000 w e w' ∧ ∀ (root : Int) (a : Option Addr) (n c : Nat), e = .returned (.agg #[.int .i64 root, .slice a n c]) → 1 ≤ n := by
  have hlt := cur_lt h
  have K0 := Loc.new w #[.int .i64 0, .slice none 0 0] 26
  have T0 := TagT.new 26 w #[.int .i64 0, .slice none 0 0]
  have c0 := cur_alloc h (.cells #[.int .i64 0, .slice none 0 0] 26)
  have g0 := World.grownBy_alloc w (.cells #[.int .i64 0, .slice none 0 0] 26) (some g)
  replace K0 := Lib.hid K0
  replace T0 := Lib.hid T0
  replace c0 := Lib.hid c0
  replace g0 := Lib.hid g0
  clear h
  go_enter Try.func91, Try.ntmps91
  go_wp2_with fail
  refine (sBookNew_any _).mono ?_
  rintro e w1 ⟨v1, ps1, rfl, hp1, o1, b1⟩
  obtain ⟨a1, c1, rfl⟩ := o1.shape
  have s1 := b1.size
  simp at s1
  obtain ⟨G, hG⟩ : ∃ G, G = w1.heap.size := ⟨_, rfl⟩
  obtain ⟨W2, hW2⟩ : ∃ W2, W2 = w1.alloc (.cells #[.int .i64 0, .slice a1 ps1.length c1] 26) := ⟨_, rfl⟩
  have b2 : Below w1.heap.size w1 W2 := by subst hW2; exact new_below _ _
  have KG : Loc W2 G #[.int .i64 0, .slice a1 ps1.length c1] := by subst hW2 hG; exact Loc.new _ _ _
  have TG : TagT 26 W2 G := by subst hW2 hG; exact TagT.new _ _ _
  have hgG : g < G := by omega
  have hwG : w.heap.size < G := by omega
  have b12 := b1.trans (b2.mono b1.size)
  have KR := Lib.hid (K0.out.below b12)
  have TR := Lib.hid (T0.out.of (b12.block _ K0.out.1))
  have HO := Lib.hid ((o1.below b2).mono (show w.heap.size ≤ (w.alloc (.cells #[.int .i64 0, .slice none 0 0] 26)).heap.size by simp))
  have CU := cur_kept c0.out (Below.toGrown b12 none) (fun k e => by cases e)
  have GR := Lib.hid (grown_trans g0.out (Below.toGrown b12 (some g)))
  replace KG := Lib.hid KG
  replace TG := Lib.hid TG
  have HF : Hid (Fits 1 0 (ps1.map PgV.pg)) := by
    rw [hp1]
    exact Lib.hid ⟨by simp, fun p hp => by rw [List.mem_singleton.1 hp]; exact Nat.le_refl _⟩
  have hlen : Hid (1 ≤ ps1.length) := by
    have := congrArg List.length hp1
    rw [List.length_map] at this
    exact Lib.hid (by rw [this]; exact Nat.le_refl _)
  have CB := Lib.hid (l1Below_any g zs (most + 1) W2 CU (by omega))
  replace hG := Lib.hid hG
  clear b1 b2 b12 o1 hp1 K0 T0 c0 g0 CU
  go_wp2_with fail
  rw [← hG.out, ← hW2]
  clear hW2
  refine CB.out.mono ?_
  rintro e w3 ⟨x, rfl, x0, x1, cu3, g3⟩
  rw [if_pos (by omega)] at x1
  obtain ⟨k0, rfl⟩ := Int.eq_ofNat_of_zero_le x0
  have hk0 : k0 ≤ 30 := by omega
  have KG3 := Lib.hid (KG.out.grown g3 (fun k e => by cases e; omega))
  have TG3 := Lib.hid (TG.out.of (g3.block G KG.out.1 (fun e => by have := Option.some.inj e; omega)))
  have KR3 := Lib.hid (KR.out.grown g3 (fun k e => by cases e; omega))
  have TR3 := Lib.hid (TR.out.of (g3.block _ KR.out.1 (fun e => by have := Option.some.inj e; omega)))
  have HO3 := Lib.hid (ownP_grown HO.out g3 (fun k e => by cases e; omega))
  have GR3 := Lib.hid (grown_trans GR.out g3)
  replace cu3 := Lib.hid cu3
  clear g3 KG TG KR TR HO GR CB x0 x1
  go_wp2
  go_loopw [6] (fun i wr => ∃ (k : Nat) (root : Int) (a : Option Addr) (n c : Nat) (ps : List PgV), k ≤ 30 ∧ i = .int .i64 (k : Int) ∧ Hid (Fits (1 + 13 * (30 - k)) (50 * (30 - k)) (ps.map PgV.pg)) ∧ Hid (1 ≤ ps.length) ∧ Hid (Loc wr G #[.int .i64 root, .slice a n c]) ∧ Hid (TagT 26 wr G) ∧ Hid (Loc wr w.heap.size #[.int .i64 0, .slice none 0 0]) ∧ Hid (TagT 26 wr w.heap.size) ∧ Hid (OwnP wr w.heap.size (.slice a n c) ps) ∧ Hid (Cur g zs wr) ∧ Hid (w.grownBy wr (some g))) (fun i _ => (intOf i).toNat)
  case atStart => exact ⟨k0, 0, a1, _, c1, ps1, hk0, rfl, Lib.hid (HF.out.mono (by omega) (by omega)), hlen, KG3, TG3, KR3, TR3, HO3, cu3, GR3⟩
  case round =>
    clear KG3 TG3 KR3 TR3 HO3 GR3 cu3 HF hlen hk0
    obtain ⟨k, root, a, n, c, ps, hk, rfl, HF, hlen, KG, TG, KR, TR, HO, CU, GR⟩ := hrel
    obtain ⟨hGl, j0, e0⟩ := KG.out
    have c0 := j0 0
    have c1' := j0 1
    simp at c0 c1'
    by_cases hkz : 0 < k
    · obtain ⟨k', rfl⟩ : ∃ k', k = k' + 1 := ⟨k - 1, by omega⟩
      have hw30 : 30 - k' = (30 - (k' + 1)) + 1 := by omega
      have z0 : (0 : Int) < ((k' + 1 : Nat) : Int) := by omega
      have CD := Lib.hid (l4Draw_any g zs wr.drew (cur_kept CU.out (Below.toGrown (drew_below wr) none) (fun k e => by cases e)))
      have CI := Lib.hid (fun (x : It) (V : World) (hv : RdP V a n c ps) => sInsert_any root x a n c ps V hv _ _ HF.out (by omega) (by omega))
      go_upto_region 5 with (fail)
      refine wp_last ?_
      intro KK hKK
      go_cut [] (fun wx => ∃ (root : Int) (v : Value) (ps : List PgV), Fits (1 + 13 * (30 - k')) (50 * (30 - k')) (ps.map PgV.pg) ∧ 1 ≤ ps.length ∧ Hid (Loc wx G #[.int .i64 root, v]) ∧ Hid (TagT 26 wx G) ∧ Hid (Loc wx w.heap.size #[.int .i64 0, .slice none 0 0]) ∧ Hid (TagT 26 wx w.heap.size) ∧ Hid (OwnP wx w.heap.size (v) ps) ∧ Hid (Cur g zs wx) ∧ Hid (w.grownBy wx (some g)))
      case first => as_aux_lemma =>
        refine wp_region_noPanic ?_
        refine wp_region_held_drew (S := fun _ => True) (by kernel_rfl) trivial (fun hHeld => ?_)
        refine wpAnyH_take (i := 1) (v := ?v1_7) rfl (by kernel_rfl) (by kernel_rfl) (by kernel_rfl) (fun _ _ _ h => h) (Or.inl ⟨by rfl, ?hy1_7⟩) (by assumption) ?rest1_7
        case hy1_7 => intro w hSw; go_simp; (try with_reducible rfl)
        simp only [List.getElem_toArray, List.getElem_cons_zero, List.getElem_cons_succ, Act.put, List.setIfInBounds_toArray, List.set_cons_zero, List.set_cons_succ]
        refine wpAnyH_ready (rs := [0, 2]) (by kernel_rfl) (by simp) ?_
        refine AllReadyH.cons rfl (fun K hK => ?_) (AllReadyH.cons rfl (fun K hK => ?_) AllReadyH.nil)
        · go_simp
          refine hK.out _ _ trivial (fun hHeld => ?_)
          clear hK K
          refine wpAnyH_ready (rs := [2]) (by kernel_rfl) (by simp) ?_
          refine AllReadyH.cons rfl (fun K hK => ?_) AllReadyH.nil
          go_simp
          refine CD.out.mono ?_
          rintro e wA ⟨x, rfl, cuA, gA⟩
          have sA := gA.size
          have KGA := Lib.hid ((KG.out.drew).grown gA (fun k e => by cases e; omega))
          have TGA := Lib.hid (TG.out.of (gA.block G (show G < wr.heap.size from KG.out.1) (fun e => by have := Option.some.inj e; omega)))
          have KRA := Lib.hid ((KR.out.drew).grown gA (fun k e => by cases e; omega))
          have TRA := Lib.hid (TR.out.of (gA.block w.heap.size (show w.heap.size < wr.heap.size from KR.out.1) (fun e => by have := Option.some.inj e; omega)))
          have HOA := Lib.hid (ownP_grown HO.out.drew gA (fun k e => by cases e; omega))
          have CUA := Lib.hid cuA
          have GA := Lib.hid (grown_trans GR.out.drew' gA)
          obtain ⟨-, ja, -⟩ := KGA.out
          have ja0 := ja 0
          have ja1 := ja 1
          simp at ja0 ja1
          clear cuA gA ja
          refine hK.out _ _ trivial (fun hHeld => ?_)
          clear hK K
          refine wpAnyH_ready (rs := [3]) (by kernel_rfl) (by simp) ?_
          refine AllReadyH.cons rfl (fun K hK => ?_) AllReadyH.nil
          go_simp
          refine (CI.out x wA HOA.out.rd).mono ?_
          rintro e wB ⟨v', ps', rfl, hps', oB, bB⟩
          obtain ⟨aB, cB, rfl⟩ := oB.shape
          have sB := bB.size
          have KGB := Lib.hid (KGA.out.below bB)
          have TGB := Lib.hid (TGA.out.of (bB.block G KGA.out.1))
          have KRB := Lib.hid (KRA.out.below bB)
          have TRB := Lib.hid (TRA.out.of (bB.block w.heap.size KRA.out.1))
          have OB := Lib.hid (oB.mono (show w.heap.size ≤ wA.heap.size by have := GA.out.size; omega))
          have HPS := Lib.hid hps'
          have CUB := Lib.hid (cur_kept CUA.out (Below.toGrown bB none) (fun k e => by cases e))
          have GB := Lib.hid (grown_trans GA.out (Below.toGrown bB (some g)))
          obtain ⟨hGB, jb, eb⟩ := KGB.out
          clear oB bB hps'
          refine hK.out _ _ trivial (fun hHeld => ?_)
          clear hK K
          refine wpAnyH_take (i := 4) (v := ?v4_1) rfl (by kernel_rfl) (by kernel_rfl) (by kernel_rfl) (fun _ _ _ h => h) (Or.inl ⟨by rfl, ?hy4_1⟩) (by assumption) ?rest4_1
          case hy4_1 => intro w hSw; go_simp; (try with_reducible rfl)
          simp only [List.getElem_toArray, List.getElem_cons_zero, List.getElem_cons_succ, Act.put, List.setIfInBounds_toArray, List.set_cons_zero, List.set_cons_succ]
          refine wpAnyH_take (i := 5) (v := ?v5_2) rfl (by kernel_rfl) (by kernel_rfl) (by kernel_rfl) (fun _ _ _ h => h) (Or.inl ⟨by rfl, ?hy5_2⟩) (by assumption) ?rest5_2
          case hy5_2 => intro w hSw; go_simp; (try with_reducible rfl)
          simp only [List.getElem_toArray, List.getElem_cons_zero, List.getElem_cons_succ, Act.put, List.setIfInBounds_toArray, List.set_cons_zero, List.set_cons_succ]
          refine wpAnyH_take (i := 6) (v := ?v6_3) rfl (by kernel_rfl) (by kernel_rfl) (by kernel_rfl) (fun _ _ _ h => h) (Or.inl ⟨by rfl, ?hy6_3⟩) (by assumption) ?rest6_3
          case hy6_3 => intro w hSw; go_simp; (try with_reducible rfl)
          simp only [List.getElem_toArray, List.getElem_cons_zero, List.getElem_cons_succ, Act.put, List.setIfInBounds_toArray, List.set_cons_zero, List.set_cons_succ]
          refine wpAnyH_ready (rs := [7]) (by kernel_rfl) (by simp) ?_
          refine AllReadyH.cons rfl (fun K hK => ?_) AllReadyH.nil
          go_simp
          refine hK.out _ _ trivial (fun hHeld => ?_)
          clear hK K
          refine wpAnyH_done (by kernel_rfl) ?_ _
          refine NoPanic.normal ?_
          clear hHeld
          have hgG : g < G := by omega
          have RR := Lib.hid (draw_round hgG KGB.out TGB.out KRB.out TRB.out OB.out CUB.out GB.out (by omega) (by omega) (insV (ps.map PgV.pg) root x).1)
          go_wp2_with fail
          go_meet
          exact ⟨_, _, ps', by rw [HPS.out]; exact (insV_fits x HF.out).mono (by omega) (by omega), by rw [← List.length_map (f := PgV.pg), HPS.out]; exact Nat.le_trans (by rw [List.length_map]; exact hlen.out) (insV_ge _ _ _), RR.out⟩
        · go_simp
          refine CD.out.mono ?_
          rintro e wA ⟨x, rfl, cuA, gA⟩
          have sA := gA.size
          have KGA := Lib.hid ((KG.out.drew).grown gA (fun k e => by cases e; omega))
          have TGA := Lib.hid (TG.out.of (gA.block G (show G < wr.heap.size from KG.out.1) (fun e => by have := Option.some.inj e; omega)))
          have KRA := Lib.hid ((KR.out.drew).grown gA (fun k e => by cases e; omega))
          have TRA := Lib.hid (TR.out.of (gA.block w.heap.size (show w.heap.size < wr.heap.size from KR.out.1) (fun e => by have := Option.some.inj e; omega)))
          have HOA := Lib.hid (ownP_grown HO.out.drew gA (fun k e => by cases e; omega))
          have CUA := Lib.hid cuA
          have GA := Lib.hid (grown_trans GR.out.drew' gA)
          obtain ⟨-, ja, -⟩ := KGA.out
          have ja0 := ja 0
          have ja1 := ja 1
          simp at ja0 ja1
          clear cuA gA ja
          refine hK.out _ _ trivial (fun hHeld => ?_)
          clear hK K
          refine wpAnyH_ready (rs := [0]) (by kernel_rfl) (by simp) ?_
          refine AllReadyH.cons rfl (fun K hK => ?_) AllReadyH.nil
          go_simp
          refine hK.out _ _ trivial (fun hHeld => ?_)
          clear hK K
          refine wpAnyH_ready (rs := [3]) (by kernel_rfl) (by simp) ?_
          refine AllReadyH.cons rfl (fun K hK => ?_) AllReadyH.nil
          go_simp
          refine (CI.out x wA HOA.out.rd).mono ?_
          rintro e wB ⟨v', ps', rfl, hps', oB, bB⟩
          obtain ⟨aB, cB, rfl⟩ := oB.shape
          have sB := bB.size
          have KGB := Lib.hid (KGA.out.below bB)
          have TGB := Lib.hid (TGA.out.of (bB.block G KGA.out.1))
          have KRB := Lib.hid (KRA.out.below bB)
          have TRB := Lib.hid (TRA.out.of (bB.block w.heap.size KRA.out.1))
          have OB := Lib.hid (oB.mono (show w.heap.size ≤ wA.heap.size by have := GA.out.size; omega))
          have HPS := Lib.hid hps'
          have CUB := Lib.hid (cur_kept CUA.out (Below.toGrown bB none) (fun k e => by cases e))
          have GB := Lib.hid (grown_trans GA.out (Below.toGrown bB (some g)))
          obtain ⟨hGB, jb, eb⟩ := KGB.out
          clear oB bB hps'
          refine hK.out _ _ trivial (fun hHeld => ?_)
          clear hK K
          refine wpAnyH_take (i := 4) (v := ?v4_4) rfl (by kernel_rfl) (by kernel_rfl) (by kernel_rfl) (fun _ _ _ h => h) (Or.inl ⟨by rfl, ?hy4_4⟩) (by assumption) ?rest4_4
          case hy4_4 => intro w hSw; go_simp; (try with_reducible rfl)
          simp only [List.getElem_toArray, List.getElem_cons_zero, List.getElem_cons_succ, Act.put, List.setIfInBounds_toArray, List.set_cons_zero, List.set_cons_succ]
          refine wpAnyH_take (i := 5) (v := ?v5_5) rfl (by kernel_rfl) (by kernel_rfl) (by kernel_rfl) (fun _ _ _ h => h) (Or.inl ⟨by rfl, ?hy5_5⟩) (by assumption) ?rest5_5
          case hy5_5 => intro w hSw; go_simp; (try with_reducible rfl)
          simp only [List.getElem_toArray, List.getElem_cons_zero, List.getElem_cons_succ, Act.put, List.setIfInBounds_toArray, List.set_cons_zero, List.set_cons_succ]
          refine wpAnyH_take (i := 6) (v := ?v6_6) rfl (by kernel_rfl) (by kernel_rfl) (by kernel_rfl) (fun _ _ _ h => h) (Or.inl ⟨by rfl, ?hy6_6⟩) (by assumption) ?rest6_6
          case hy6_6 => intro w hSw; go_simp; (try with_reducible rfl)
          simp only [List.getElem_toArray, List.getElem_cons_zero, List.getElem_cons_succ, Act.put, List.setIfInBounds_toArray, List.set_cons_zero, List.set_cons_succ]
          refine wpAnyH_ready (rs := [7]) (by kernel_rfl) (by simp) ?_
          refine AllReadyH.cons rfl (fun K hK => ?_) AllReadyH.nil
          go_simp
          refine hK.out _ _ trivial (fun hHeld => ?_)
          clear hK K
          refine wpAnyH_done (by kernel_rfl) ?_ _
          refine NoPanic.normal ?_
          clear hHeld
          have hgG : g < G := by omega
          have RR := Lib.hid (draw_round hgG KGB.out TGB.out KRB.out TRB.out OB.out CUB.out GB.out (by omega) (by omega) (insV (ps.map PgV.pg) root x).1)
          go_wp2_with fail
          go_meet
          exact ⟨_, _, ps', by rw [HPS.out]; exact (insV_fits x HF.out).mono (by omega) (by omega), by rw [← List.length_map (f := PgV.pg), HPS.out]; exact Nat.le_trans (by rw [List.length_map]; exact hlen.out) (insV_ge _ _ _), RR.out⟩
      case rest =>
        obtain ⟨root2, v2, ps2, hf2, hl2, hst⟩ := hcut
        obtain ⟨a2, c2, rfl⟩ := hst.2.2.2.2.1.out.shape
        have ek : ((k' + 1 : Nat) : Int) - 1 = k' := by omega
        refine hKK _ _ ?_
        go_wp2
        go_roundw
        case rel => exact ⟨k', root2, a2, _, c2, ps2, by omega, by go_num, Lib.hid hf2, Lib.hid hl2, hst⟩
        case measure => simp [intOf]
    · obtain rfl : k = 0 := by omega
      obtain ⟨hRl, r0, fr⟩ := KR.out
      have hRG : w.heap.size ≠ G := by omega
      have hpl := ownP_len HO.out
      have hl1 := hlen.out
      go_wp2
      refine bodyPost_ret (v := .agg #[.int .i64 root, .slice a n c]) (by simp [results, Try.results91, go_sem, r0]) rfl ⟨⟨root, _, ps, rfl, HF.out.mono (by omega) (by omega), ?_, ?_, ?_⟩, ?_⟩
      · exact (HO.out.store TR.out 0 _).store (TR.out.set _ _ _) 1 _
      · exact cur_kept (cur_kept CU.out (grown_set _ w.heap.size 0 _) (fun k e => by cases e; exact hlt)) (grown_set _ w.heap.size 1 _) (fun k e => by cases e; exact hlt)
      · exact grown_new (grown_new GR.out (Nat.le_refl _) 0 _) (Nat.le_refl _) 1 _
      · intro root' a' n' c' e
        simp only [Ending.returned.injEq, Value.agg.injEq] at e
        have e2 := congrArg (fun z => z[1]?) e
        simp at e2
        omega
end Go.Proofs.Ytfefggcfeppeiaa
