/- The program's copy of a book. -/
import Derived.Test.YtfefggcfeppeiaaBookI1ZPages
import Derived.Deep.DeepCutAuto
import Derived.Deep.RegionHeld3
namespace Go.Proofs.Ytfefggcfeppeiaa
open Go.RowKit

/-- 'make([]T, 0, n)' at a step of a region that draws. -/
theorem step_make_own {P : Program} {w : World} {ops : Array Oper} {o : Oper} {a : Act} {K : Act → World → Prop} {Q : Exit → Act → World → Prop} {E : Prop} (hgd : o.guard = none) (l c : Operand) (t : TypeId) (hop : o.op = Op.makeSlice t l c)
    (base : Nat) (e : TypeId) (i : TypeInfo) (z : Value) (size : Nat) (h1 : P.underlying t = some (.slice e)) (h2 : P.info? e = some i) (h3 : i.zero = some z) (h4 : i.size = size)
    (kl kc : IntKind) (n : Nat) (hl : a.eval l = .int kl 0) (hc : a.eval c = .int kc (n : Int)) (b2 : i.bytes * n ≤ 281474976710656) (b3 : n ≤ maxLen) (b4 : base ≤ w.heap.size)
    (h : ∀ w', w'.ownsRow base e size (.slice (some ⟨w.heap.size, 0, none⟩) 0 n) 0 [] → w.grownBy w' none → K (a.put o.dst (.slice (some ⟨w.heap.size, 0, none⟩) 0 n)) w') :
    if Region.wanted o (yielded ops a.tmps) = true then Oper.wp P o a w K Q else E := by
  have hw : Region.wanted o (yielded ops a.tmps) = true := by simp [Region.wanted, hgd]
  rw [if_pos hw]
  obtain ⟨w', hrun, r1, r2⟩ := run_make_own (P := P) w base t e i z size h1 h2 h3 h4 kl kc n b2 b3 b4
  unfold Oper.wp
  simp [execOp, hop, hl, hc, hrun, Result.andThen]
  exact h w' r1 r2
theorem copy_round2 {w wr w4 w5 : World} {G k : Nat} {root : Int} {a a4 a5 : Option Addr} {n cap c4 c5 vc : Nat} {va : Option Addr} {qs ps : List PgV} {p : PgV} (hGl : G < wr.heap.size) (hG2 : w.heap.size + 1 < G)
    (KA : Loc wr w.heap.size #[.int .i64 root, .slice a n cap]) (KR : Loc wr (w.heap.size + 1) #[.int .i64 0, .slice none 0 0]) (TG : TagT 26 wr G) (HO : OwnP wr (w.heap.size + 2) (.slice va k vc) qs) (HQ : qs.length = k) (HP : ps[k]? = some p)
    (HT : qs.map PgV.pg = (ps.take k).map PgV.pg) (HB : Below w.heap.size w wr) (B4 : Below wr.drew.heap.size wr.drew w4) (O4 : OwnS itLay 92 w4 wr.drew.heap.size (.slice a4 p.xs.length c4) p.xs)
    (O5 : w5.ownsRow (w.heap.size + 2) 48 3 (.slice a5 (k + 1) c5) (k + 1) (qs.flatMap pgLay.cells ++ pgLay.cells ⟨p.used, p.leaf, a4, p.xs.length, c4, p.xs⟩)) (G5 : (w4.alloc (.cells #[.bool p.used, .bool p.leaf, .slice a4 p.xs.length c4] 48)).grownBy w5 (Value.slice va k vc).ownBlock) (L5 : Loc w5 G #[.int .i64 root, .slice va k vc]) :
    Hid (Loc (w5.setCell ⟨G, 1, none⟩ (.slice a5 (k + 1) c5)) w.heap.size #[.int .i64 root, .slice a n cap]) ∧ Hid (Loc (w5.setCell ⟨G, 1, none⟩ (.slice a5 (k + 1) c5)) (w.heap.size + 1) #[.int .i64 0, .slice none 0 0]) ∧ Hid (Loc (w5.setCell ⟨G, 1, none⟩ (.slice a5 (k + 1) c5)) G #[.int .i64 root, .slice a5 (k + 1) c5]) ∧
      Hid (TagT 26 (w5.setCell ⟨G, 1, none⟩ (.slice a5 (k + 1) c5)) G) ∧ Hid (OwnP (w5.setCell ⟨G, 1, none⟩ (.slice a5 (k + 1) c5)) (w.heap.size + 2) (.slice a5 (k + 1) c5) (qs ++ [(⟨p.used, p.leaf, a4, p.xs.length, c4, p.xs⟩ : PgV)])) ∧
      Hid ((qs ++ [(⟨p.used, p.leaf, a4, p.xs.length, c4, p.xs⟩ : PgV)]).map PgV.pg = (ps.take (k + 1)).map PgV.pg) ∧ Hid (Below w.heap.size w (w5.setCell ⟨G, 1, none⟩ (.slice a5 (k + 1) c5))) := by
  have E4 : OwnS itLay 92 w4 (w.heap.size + 2) (.slice a4 p.xs.length c4) p.xs := O4.mono (show w.heap.size + 2 ≤ wr.heap.size by omega)
  have P5 : OwnP w5 (w.heap.size + 2) (.slice a5 (k + 1) c5) (qs ++ [(⟨p.used, p.leaf, a4, p.xs.length, c4, p.xs⟩ : PgV)]) :=
    OwnP.snoc (w := wr.drew) (w1 := w4.alloc (.cells #[.bool p.used, .bool p.leaf, .slice a4 p.xs.length c4] 48)) (HO.below (drew_below _)) (B4.alloc B4.size _) (E4.below (new_below _ _)) (fun g hg => (World.ownsRow.lt O4 g hg).1) (by rw [HQ]; exact O5) G5
  have hrow : ∀ j, (Value.slice va k vc).ownBlock = some j → w.heap.size + 2 ≤ j ∧ j ≠ G := fun j hj => ⟨(World.ownsRow.lt HO.row j hj).1, TG.ne HO.row (by decide) j hj⟩
  have s4 := B4.size
  have e0 : wr.drew.heap.size = wr.heap.size := rfl
  have s5 := G5.size
  simp at s5
  have hbl : ∀ q, q < wr.heap.size → (q < w.heap.size + 2 ∨ q = G) → w5.heap[q]? = wr.heap[q]? := fun q hq hq' =>
    (G5.block q (by simp; omega) (fun e => by have := hrow q e.symm; omega)).trans ((Below.heap_alloc _ _ q (by omega)).trans (B4.block q hq))
  have T5 : TagT 26 w5 G := TG.of (hbl G hGl (.inr rfl))
  have hne1 := T5.ne P5.row (by decide)
  have hne2 : ∀ q ∈ qs ++ [(⟨p.used, p.leaf, a4, p.xs.length, c4, p.xs⟩ : PgV)], ∀ g, q.sl.ownBlock = some g → g ≠ G := fun q hq => T5.ne (P5.ent q hq) (by decide)
  have hG := grown_setCell (World.grownBy.refl w5 (some G)) G 1 (.slice a5 (k + 1) c5) rfl
  refine ⟨Lib.hid ((KA.of (by omega) (hbl _ (by omega) (.inl (by omega)))).other 1 _ (by omega)), Lib.hid ((KR.of (by omega) (hbl _ (by omega) (.inl (by omega)))).other 1 _ (by omega)), Lib.hid (L5.set 1 (.slice a5 (k + 1) c5) (by show 1 < 2; decide)), Lib.hid (TagT.set T5 G 1 (.slice a5 (k + 1) c5)),
    Lib.hid ⟨OwnS.kept P5.row hG (own_ne hne1), fun q hq => OwnS.kept (P5.ent q hq) hG (own_ne (hne2 q hq)), P5.out, P5.pair⟩, Lib.hid ?_, Lib.hid ?_⟩
  · rw [List.map_append, HT, List.take_add_one, HP, List.map_append]
    rfl
  · exact ((((HB.drew).trans (B4.mono (show w.heap.size ≤ wr.heap.size by omega))).alloc (by omega) (.cells #[.bool p.used, .bool p.leaf, .slice a4 p.xs.length c4] 48)).grown G5 (by simp; omega) (fun j hj => by have := (hrow j hj).1; omega)).setCell (p := ⟨G, 1, none⟩) (show w.heap.size ≤ G by omega) _


theorem OwnP.nil {w : World} {base n cap : Nat} {a : Option Addr} (h : w.ownsRow base 48 3 (.slice a n cap) 0 []) : OwnP w base (.slice a n cap) [] :=
  ⟨h, fun p hp => (by cases hp), fun p hp => (by cases hp), fun i j p q _ hp => (by simp at hp)⟩

set_option maxRecDepth 100000 in
set_option maxHeartbeats 3200000 in
theorem iCopyB_any (root : Int) (a : Option Addr) (n cap : Nat) (ps : List PgV) (w : World) (h : RdP w a n cap ps) (hn : n ≤ 1099511627776) (hps : ∀ p ∈ ps, p.n ≤ 1099511627776) :
    Calls Try.prog 56 #[.agg #[.int .i64 root, .slice a n cap]] w (NewBook root (ps.map PgV.pg) w) := by
  obtain ⟨i0, hi, hz0, hz1, hz2⟩ := info_parts Try.infoPage
  replace hi := Lib.hid hi
  replace hz0 := Lib.hid hz0
  replace hz1 := Lib.hid hz1
  replace hz2 := Lib.hid hz2
  have hnc := h.1.1.2.1
  have hm := h.1.1.2.2.1
  unfold maxLen at hm
  have HR := Lib.hid h
  have HL := Lib.hid h.1.1.1
  have HN := Lib.hid hps
  obtain ⟨W0, hW0⟩ : ∃ W0, W0 = (w.alloc (.cells #[.int .i64 root, .slice a n cap] 26)).alloc (.cells #[.int .i64 0, .slice none 0 0] 26) := ⟨_, rfl⟩
  have hs0 : W0.heap.size = w.heap.size + 1 + 1 := by subst hW0; simp
  have B0 : Below w.heap.size w W0 := by subst hW0; exact ((Below.refl _ _).alloc (Nat.le_refl _) _).alloc (by simp) _
  have KA : Loc W0 w.heap.size #[.int .i64 root, .slice a n cap] := by subst hW0; exact (Loc.new w _ _).alloc _
  have KR : Loc W0 (w.heap.size + 1) #[.int .i64 0, .slice none 0 0] := by
    subst hW0
    have := Loc.new (w.alloc (.cells #[.int .i64 root, .slice a n cap] 26)) #[.int .i64 0, .slice none 0 0] 26
    rw [show (w.alloc (.cells #[.int .i64 root, .slice a n cap] 26)).heap.size = w.heap.size + 1 by simp] at this
    exact this
  replace KA := Lib.hid KA
  replace KR := Lib.hid KR
  replace B0 := Lib.hid B0
  replace hs0 := Lib.hid hs0
  clear h hps
  go_enter Try.func56, Try.ntmps56
  go_wp2_with fail
  rw [← hW0]
  clear hW0
  obtain ⟨hA, k0, f0⟩ := KA.out
  go_cut [3] (fun v wx => ∃ (G : Nat) (va : Option Addr) (vc : Nat), v = .pointer (some ⟨G, 0, none⟩) ∧ Hid (w.heap.size + 1 < G) ∧ Hid (Loc wx w.heap.size #[.int .i64 root, .slice a n cap]) ∧ Hid (Loc wx (w.heap.size + 1) #[.int .i64 0, .slice none 0 0]) ∧ Hid (Loc wx G #[.int .i64 root, .slice va 0 vc]) ∧ Hid (TagT 26 wx G) ∧ Hid (OwnP wx (w.heap.size + 2) (.slice va 0 vc) []) ∧ Hid (Below w.heap.size w wx))
  case first => as_aux_lemma =>
    have a0 := k0 0
    have a1 := k0 1
    simp at a0 a1
    have KB := Lib.hid (show ∀ V : World, (∀ o, V.cell? ⟨w.heap.size, o, none⟩ = W0.cell? ⟨w.heap.size, o, none⟩) → V.cell? ⟨w.heap.size, 0, none⟩ = some (.int .i64 root) ∧ V.cell? ⟨w.heap.size, 1, none⟩ = some (.slice a n cap) from fun V hV => ⟨(hV _).trans a0, (hV _).trans a1⟩)
    refine wp_region_noPanic ?_
    refine wp_region_held_drew (S := fun V => V.cell? ⟨w.heap.size, 0, none⟩ = some (.int .i64 root) ∧ V.cell? ⟨w.heap.size, 1, none⟩ = some (.slice a n cap)) (by kernel_rfl) (KB.out _ (fun _ => rfl)) (fun hHeld => ?_)
    refine wpAnyH_take (i := 0) (v := ?v0_13) rfl (by kernel_rfl) (by kernel_rfl) (by kernel_rfl) (fun _ _ _ h => h) (Or.inl ⟨by rfl, ?hy0_13⟩) (by assumption) ?rest0_13
    case hy0_13 => intro w hSw; (try dsimp only at hSw); go_simp; (try with_reducible rfl)
    simp only [List.getElem_toArray, List.getElem_cons_zero, Act.put, List.setIfInBounds_toArray, List.set_cons_zero, List.set_cons_succ]
    refine wpAnyH_take (i := 1) (v := ?v1_14) rfl (by kernel_rfl) (by kernel_rfl) (by kernel_rfl) (fun _ _ _ h => h) (Or.inl ⟨by rfl, ?hy1_14⟩) (by assumption) ?rest1_14
    case hy1_14 => intro w hSw; (try dsimp only at hSw); go_simp; (try with_reducible rfl)
    simp only [List.getElem_toArray, List.getElem_cons_zero, List.getElem_cons_succ, Act.put, List.setIfInBounds_toArray, List.set_cons_zero, List.set_cons_succ]
    refine wpAnyH_take (i := 2) (v := ?v2_15) rfl (by kernel_rfl) (by kernel_rfl) (by kernel_rfl) (fun _ _ _ h => h) (Or.inl ⟨by rfl, ?hy2_15⟩) (by assumption) ?rest2_15
    case hy2_15 => intro w hSw; (try dsimp only at hSw); go_simp; (try with_reducible rfl)
    simp only [List.getElem_toArray, List.getElem_cons_zero, List.getElem_cons_succ, Act.put, List.setIfInBounds_toArray, List.set_cons_zero, List.set_cons_succ]
    refine wpAnyH_take (i := 3) (v := ?v3_16) rfl (by kernel_rfl) (by kernel_rfl) (by kernel_rfl) (fun _ _ _ h => h) (Or.inl ⟨by rfl, ?hy3_16⟩) (by assumption) ?rest3_16
    case hy3_16 => intro w hSw; (try dsimp only at hSw); go_simp; (try with_reducible rfl)
    simp only [List.getElem_toArray, List.getElem_cons_zero, List.getElem_cons_succ, Act.put, List.setIfInBounds_toArray, List.set_cons_zero, List.set_cons_succ]
    refine wpAnyH_take (i := 4) (v := ?v4_17) rfl (by kernel_rfl) (by kernel_rfl) (by kernel_rfl) (fun _ _ _ h => h) (Or.inl ⟨by rfl, ?hy4_17⟩) (by assumption) ?rest4_17
    case hy4_17 => intro w hSw; (try dsimp only at hSw); go_simp; (try with_reducible rfl)
    simp only [List.getElem_toArray, List.getElem_cons_zero, List.getElem_cons_succ, Act.put, List.setIfInBounds_toArray, List.set_cons_zero, List.set_cons_succ]
    refine wpAnyH_ready (rs := [5, 7]) (by kernel_rfl) (by simp) ?_
    refine AllReadyH.cons rfl (fun K hK => ?_) (AllReadyH.cons rfl (fun K hK => ?_) AllReadyH.nil)
    · refine step_make_own rfl _ _ 24 rfl (w.heap.size + 2) 48 i0 (.agg #[.bool false, .bool false, .slice none 0 0]) 3 Try.underlying24 hi.out hz0.out hz1.out .i64 .i64 n rfl rfl (by rw [hz2.out]; omega) (by unfold maxLen; omega) (by have := hs0.out; have e0 : W0.drew.heap.size = W0.heap.size := rfl; simp; omega) ?_
      intro w2 o2 g2
      have b2 := grownNone_below g2
      have hk2 : Hid (∀ o, w2.cell? ⟨w.heap.size, o, none⟩ = W0.cell? ⟨w.heap.size, o, none⟩) := Lib.hid (fun o => b2.cell (p := ⟨w.heap.size, o, none⟩) (show w.heap.size < W0.heap.size from KA.out.1))
      refine hK.out _ _ (KB.out _ hk2.out) (fun hHeld => ?_)
      clear hK K
      refine wpAnyH_take (i := 6) (v := ?v6_11) rfl (by kernel_rfl) (by kernel_rfl) (by kernel_rfl) (fun _ _ _ h => h) (Or.inl ⟨by rfl, ?hy6_11⟩) (by assumption) ?rest6_11
      case hy6_11 => intro w hSw; (try dsimp only at hSw); go_simp; (try with_reducible rfl)
      simp only [List.getElem_toArray, List.getElem_cons_zero, List.getElem_cons_succ, Act.put, List.setIfInBounds_toArray, List.set_cons_zero, List.set_cons_succ]
      refine wpAnyH_ready (rs := [7]) (by kernel_rfl) (by simp) ?_
      refine AllReadyH.cons rfl (fun K hK => ?_) AllReadyH.nil
      go_simp
      refine hK.out _ _ (KB.out _ (fun o => (World.cell?_alloc_lt w2 _ ⟨w.heap.size, o, none⟩ (Nat.lt_of_lt_of_le (show w.heap.size < W0.heap.size from KA.out.1) b2.size)).trans (hk2.out o))) (fun hHeld => ?_)
      clear hK K
      refine wpAnyH_ready (rs := [8]) (by kernel_rfl) (by simp) ?_
      refine AllReadyH.cons rfl (fun K hK => ?_) AllReadyH.nil
      go_simp
      refine hK.out _ _ (KB.out _ (fun o => (World.cell?_alloc_lt w2 _ ⟨w.heap.size, o, none⟩ (Nat.lt_of_lt_of_le (show w.heap.size < W0.heap.size from KA.out.1) b2.size)).trans (hk2.out o))) (fun hHeld => ?_)
      clear hK K
      refine wpAnyH_done (by kernel_rfl) ?_ _
      refine NoPanic.normal ?_
      clear hHeld
      have s0 := hs0.out
      have s2 := b2.size
      have e0 : W0.drew.heap.size = W0.heap.size := rfl
      go_wp2_with fail
      go_meet
      exact ⟨w2.heap.size, some ⟨W0.heap.size, 0, none⟩, n, rfl, Lib.hid (show w.heap.size + 1 < w2.heap.size by omega), Lib.hid ((KA.out.drew.below b2).alloc _), Lib.hid ((KR.out.drew.below b2).alloc _), Lib.hid (Loc.new w2 _ _), Lib.hid (TagT.new _ w2 _), Lib.hid ((OwnP.nil o2).below (new_below w2 _)), Lib.hid (((B0.out.drew).trans (b2.mono (show w.heap.size ≤ W0.heap.size by omega))).alloc (show w.heap.size ≤ w2.heap.size by omega) _)⟩
    · go_simp
      refine hK.out _ _ (KB.out _ (fun o => World.cell?_alloc_lt W0 _ ⟨w.heap.size, o, none⟩ KA.out.1)) (fun hHeld => ?_)
      clear hK K
      refine wpAnyH_ready (rs := [5]) (by kernel_rfl) (by simp) ?_
      refine AllReadyH.cons rfl (fun K hK => ?_) AllReadyH.nil
      have e1 : ((W0.alloc (.cells #[.int .i64 0, .slice none 0 0] 26)).drew).heap.size = W0.heap.size + 1 := by show (W0.alloc (.cells #[.int .i64 0, .slice none 0 0] 26)).heap.size = _; simp
      refine step_make_own rfl _ _ 24 rfl (w.heap.size + 2) 48 i0 (.agg #[.bool false, .bool false, .slice none 0 0]) 3 Try.underlying24 hi.out hz0.out hz1.out .i64 .i64 n rfl rfl (by rw [hz2.out]; omega) (by unfold maxLen; omega) (by have := hs0.out; rw [e1]; omega) ?_
      intro w2 o2 g2
      have b2 := grownNone_below g2
      have hk2 : Hid (∀ o, w2.cell? ⟨w.heap.size, o, none⟩ = W0.cell? ⟨w.heap.size, o, none⟩) := Lib.hid (fun o => (b2.cell (p := ⟨w.heap.size, o, none⟩) (show w.heap.size < ((W0.alloc (.cells #[.int .i64 0, .slice none 0 0] 26)).drew).heap.size by have := KA.out.1; omega)).trans (World.cell?_alloc_lt W0 (.cells #[.int .i64 0, .slice none 0 0] 26) ⟨w.heap.size, o, none⟩ KA.out.1))
      have L2 := Lib.hid ((Loc.new W0 #[.int .i64 0, .slice none 0 0] 26).drew.below b2)
      obtain ⟨-, g0, gf⟩ := L2.out
      refine hK.out _ _ (KB.out _ hk2.out) (fun hHeld => ?_)
      clear hK K
      refine wpAnyH_take (i := 6) (v := ?v6_12) rfl (by kernel_rfl) (by kernel_rfl) (by kernel_rfl) (fun _ _ _ h => h) (Or.inl ⟨by rfl, ?hy6_12⟩) (by assumption) ?rest6_12
      case hy6_12 => intro w hSw; (try dsimp only at hSw); go_simp; (try with_reducible rfl)
      simp only [List.getElem_toArray, List.getElem_cons_zero, List.getElem_cons_succ, Act.put, List.setIfInBounds_toArray, List.set_cons_zero, List.set_cons_succ]
      refine wpAnyH_ready (rs := [8]) (by kernel_rfl) (by simp) ?_
      refine AllReadyH.cons rfl (fun K hK => ?_) AllReadyH.nil
      go_simp
      refine hK.out _ _ (KB.out _ (fun o => (World.cell?_setCell_other _ _ _ _ (by intro e; simp only [Addr.mk.injEq] at e; have := KA.out.1; omega)).trans ((World.cell?_setCell_other _ _ _ _ (by intro e; simp only [Addr.mk.injEq] at e; have := KA.out.1; omega)).trans (hk2.out o)))) (fun hHeld => ?_)
      clear hK K
      refine wpAnyH_done (by kernel_rfl) ?_ _
      refine NoPanic.normal ?_
      clear hHeld
      have s0 := hs0.out
      have s2 := b2.size
      have T2 : TagT 26 w2 W0.heap.size := (TagT.new 26 W0 #[.int .i64 0, .slice none 0 0]).of (b2.block _ (by rw [e1]; omega))
      have KA2 := (((KA.out.alloc _).drew.below b2).other 0 (.int .i64 root) (show W0.heap.size ≠ w.heap.size by omega)).other 1 (.slice (some ⟨W0.heap.size + 1, 0, none⟩) 0 n) (show W0.heap.size ≠ w.heap.size by omega)
      have KR2 := (((KR.out.alloc _).drew.below b2).other 0 (.int .i64 root) (show W0.heap.size ≠ w.heap.size + 1 by omega)).other 1 (.slice (some ⟨W0.heap.size + 1, 0, none⟩) 0 n) (show W0.heap.size ≠ w.heap.size + 1 by omega)
      have LG := (L2.out.set 0 (.int .i64 root) (by show 0 < 2; decide)).set 1 (.slice (some ⟨W0.heap.size + 1, 0, none⟩) 0 n) (by show 1 < 2; decide)
      have OG := ((OwnP.nil o2).store T2 0 (.int .i64 root)).store (TagT.set T2 W0.heap.size 0 (.int .i64 root)) 1 (.slice (some ⟨W0.heap.size + 1, 0, none⟩) 0 n)
      have BG := ((((B0.out.alloc (show w.heap.size ≤ W0.heap.size by omega) _).drew).trans (b2.mono (show w.heap.size ≤ _ by omega))).setCell (p := ⟨W0.heap.size, 0, none⟩) (show w.heap.size ≤ W0.heap.size by omega) (.int .i64 root)).setCell (p := ⟨W0.heap.size, 1, none⟩) (show w.heap.size ≤ W0.heap.size by omega) (.slice (some ⟨W0.heap.size + 1, 0, none⟩) 0 n)
      rw [e1] at OG
      go_wp2_with fail
      go_meet
      exact ⟨W0.heap.size, some ⟨W0.heap.size + 1, 0, none⟩, n, rfl, Lib.hid (show w.heap.size + 1 < W0.heap.size by omega), Lib.hid KA2, Lib.hid KR2, Lib.hid LG, Lib.hid ((T2.set _ _ _).set _ _ _), Lib.hid OG, Lib.hid BG⟩
  case rest =>
    obtain ⟨G, va, vc, rfl, hG2, KA, KR, KG, TG, HO, B0⟩ := hcut
    have hz0G := hG2
    obtain ⟨hA, k0, f0⟩ := KA.out
    have a1 := k0 1
    simp at a1
    go_wp2
    go_loopw [16] (fun i wr => ∃ (k : Nat) (va : Option Addr) (vc : Nat) (qs : List PgV), k ≤ n ∧ i = .int .i64 (k : Int) ∧ Hid (qs.length = k) ∧ Hid (Loc wr w.heap.size #[.int .i64 root, .slice a n cap]) ∧ Hid (Loc wr (w.heap.size + 1) #[.int .i64 0, .slice none 0 0]) ∧ Hid (Loc wr G #[.int .i64 root, .slice va k vc]) ∧ Hid (TagT 26 wr G) ∧ Hid (OwnP wr (w.heap.size + 2) (.slice va k vc) qs) ∧ Hid (qs.map PgV.pg = (ps.take k).map PgV.pg) ∧ Hid (Below w.heap.size w wr)) (fun i _ => n - (intOf i).toNat)
    case atStart => exact ⟨0, va, vc, [], Nat.zero_le _, rfl, Lib.hid rfl, KA, KR, KG, TG, HO, Lib.hid rfl, B0⟩
    case round =>
      clear KA KR KG TG HO B0 k0 f0 hA a1 va vc
      obtain ⟨k, va, vc, qs, hk, rfl, HQ, KA, KR, KG, TG, HO, HT, HB⟩ := hrel
      by_cases hlt : k < n
      · obtain ⟨b, off, p, rfl, hbl, hp, hrd, d0, d1, d2⟩ := rdP_at (HR.out.below HB.out) hlt
        have HP := Lib.hid hp
        have hpn := HN.out p (List.mem_of_getElem? hp)
        have z0 : (0 : Int) ≤ k := by omega
        have z1 : (k : Int) < n := by omega
        obtain ⟨H, hH⟩ : ∃ H, H = wr.heap.size := ⟨_, rfl⟩
        obtain ⟨wq, hwq⟩ : ∃ wq, wq = wr.alloc (.cells #[.bool p.used, .bool p.leaf, .slice p.a p.n p.cap] 48) := ⟨_, rfl⟩
        have HPR := Lib.hid (show ∀ j, (Value.slice va k vc).ownBlock = some j → j ≠ H from fun j hj => by have := (World.ownsRow.lt HO.out.row j hj).2; omega)
        have hHG := Lib.hid (show G ≠ H from by have := KG.out.1; omega)
        have KP : Hid (Loc wq H #[.bool p.used, .bool p.leaf, .slice p.a p.n p.cap]) := by subst hwq hH; exact Lib.hid (Loc.new wr _ _)
        have bq : Below wr.heap.size wr wq := by subst hwq; exact new_below _ _
        replace KA := Lib.hid (KA.out.below bq)
        replace KR := Lib.hid (KR.out.below bq)
        replace KG := Lib.hid (KG.out.below bq)
        replace TG := Lib.hid (TG.out.of (bq.block G (by have := hG2.out; have := hHG.out; have := KG.out.1; have e : wq.heap.size = wr.heap.size + 1 := by subst hwq; simp
                                                         omega)))
        replace HO := Lib.hid (HO.out.below bq)
        replace HB := Lib.hid (HB.out.trans (bq.mono HB.out.size))
        have CC := Lib.hid (iCopyN_any p.leaf p.a p.n p.cap p.xs wq.drew ((hrd.below bq).below (drew_below _)) hpn)
        clear hp hrd bq
        go_upto_region 5 with (fail)
        rw [← hH, ← hwq]
        clear hwq hH d0 d1 d2 hbl
        obtain ⟨hGl, j0, g0⟩ := KG.out
        have c1 := j0 1
        simp at c1
        obtain ⟨hHl, p0, -⟩ := KP.out
        have b0 := p0 0
        have b1 := p0 1
        have b2 := p0 2
        simp at b0 b1 b2
        have KB := Lib.hid (show ∀ V : World, (∀ o, V.cell? ⟨H, o, none⟩ = wq.cell? ⟨H, o, none⟩) → V.cell? ⟨H, 0, none⟩ = some (.bool p.used) ∧ V.cell? ⟨H, 1, none⟩ = some (.bool p.leaf) ∧ V.cell? ⟨H, 2, none⟩ = some (.slice p.a p.n p.cap) from fun V hV =>
          ⟨(hV _).trans b0, (hV _).trans b1, (hV _).trans b2⟩)
        have hGl := KG.out.1
        refine wp_last ?_
        intro KK hKK
        go_cut [] (fun wx => ∃ (a5 : Option Addr) (c5 : Nat) (rs : List PgV), Hid (rs.length = k + 1) ∧ Hid (Loc wx w.heap.size #[.int .i64 root, .slice (some ⟨b, off, none⟩) n cap]) ∧ Hid (Loc wx (w.heap.size + 1) #[.int .i64 0, .slice none 0 0]) ∧ Hid (Loc wx G #[.int .i64 root, .slice a5 (k + 1) c5]) ∧ Hid (TagT 26 wx G) ∧ Hid (OwnP wx (w.heap.size + 2) (.slice a5 (k + 1) c5) rs) ∧ Hid (rs.map PgV.pg = (ps.take (k + 1)).map PgV.pg) ∧ Hid (Below w.heap.size w wx))
        case first => as_aux_lemma =>
          refine wp_region_noPanic ?_
          refine wp_region_held_drew (S := fun V => V.cell? ⟨H, 0, none⟩ = some (.bool p.used) ∧ V.cell? ⟨H, 1, none⟩ = some (.bool p.leaf) ∧ V.cell? ⟨H, 2, none⟩ = some (.slice p.a p.n p.cap)) (by kernel_rfl) (KB.out _ (fun _ => rfl)) (fun hHeld => ?_)
          refine wpAnyH_take (i := 0) (v := ?v0_6) rfl (by kernel_rfl) (by kernel_rfl) (by kernel_rfl) (fun _ _ _ h => h) (Or.inl ⟨by rfl, ?hy0_6⟩) (by assumption) ?rest0_6
          case hy0_6 => intro w hSw; (try dsimp only at hSw); go_simp; (try with_reducible rfl)
          simp only [List.getElem_toArray, List.getElem_cons_zero, Act.put, List.setIfInBounds_toArray, List.set_cons_zero, List.set_cons_succ]
          refine wpAnyH_take (i := 2) (v := ?v2_7) rfl (by kernel_rfl) (by kernel_rfl) (by kernel_rfl) (fun _ _ _ h => h) (Or.inl ⟨by rfl, ?hy2_7⟩) (by assumption) ?rest2_7
          case hy2_7 => intro w hSw; (try dsimp only at hSw); go_simp; (try with_reducible rfl)
          simp only [List.getElem_toArray, List.getElem_cons_zero, List.getElem_cons_succ, Act.put, List.setIfInBounds_toArray, List.set_cons_zero, List.set_cons_succ]
          refine wpAnyH_take (i := 3) (v := ?v3_8) rfl (by kernel_rfl) (by kernel_rfl) (by kernel_rfl) (fun _ _ _ h => h) (Or.inl ⟨by rfl, ?hy3_8⟩) (by assumption) ?rest3_8
          case hy3_8 => intro w hSw; (try dsimp only at hSw); go_simp; (try with_reducible rfl)
          simp only [List.getElem_toArray, List.getElem_cons_zero, List.getElem_cons_succ, Act.put, List.setIfInBounds_toArray, List.set_cons_zero, List.set_cons_succ]
          refine wpAnyH_take (i := 4) (v := ?v4_9) rfl (by kernel_rfl) (by kernel_rfl) (by kernel_rfl) (fun _ _ _ h => h) (Or.inl ⟨by rfl, ?hy4_9⟩) (by assumption) ?rest4_9
          case hy4_9 => intro w hSw; (try dsimp only at hSw); go_simp; (try with_reducible rfl)
          simp only [List.getElem_toArray, List.getElem_cons_zero, List.getElem_cons_succ, Act.put, List.setIfInBounds_toArray, List.set_cons_zero, List.set_cons_succ]
          refine wpAnyH_take (i := 5) (v := ?v5_10) rfl (by kernel_rfl) (by kernel_rfl) (by kernel_rfl) (fun _ _ _ h => h) (Or.inl ⟨by rfl, ?hy5_10⟩) (by assumption) ?rest5_10
          case hy5_10 => intro w hSw; (try dsimp only at hSw); go_simp; (try with_reducible rfl)
          simp only [List.getElem_toArray, List.getElem_cons_zero, List.getElem_cons_succ, Act.put, List.setIfInBounds_toArray, List.set_cons_zero, List.set_cons_succ]
          refine wpAnyH_ready (rs := [1, 6]) (by kernel_rfl) (by simp) ?_
          refine AllReadyH.cons rfl (fun K hK => ?_) (AllReadyH.cons rfl (fun K hK => ?_) AllReadyH.nil)
          · go_simp
            refine hK.out _ _ (KB.out _ (fun _ => rfl)) (fun hHeld => ?_)
            clear hK K
            refine wpAnyH_ready (rs := [6]) (by kernel_rfl) (by simp) ?_
            refine AllReadyH.cons rfl (fun K hK => ?_) AllReadyH.nil
            go_simp
            refine CC.out.mono ?_
            rintro e w4 ⟨u4, rfl, o4, b4⟩
            obtain ⟨a4, c4, rfl, -⟩ := OwnS.rd o4
            have hk4 : Hid (∀ o, w4.cell? ⟨H, o, none⟩ = wq.cell? ⟨H, o, none⟩) := Lib.hid (fun o => b4.cell (p := ⟨H, o, none⟩) (show H < wq.heap.size from KP.out.1))
            have L4 := Lib.hid ((KG.out.drew).below b4)
            have c4' := L4.out.2.1 1
            simp at c4'
            have l4 := (World.cell?_alloc_lt w4 (.cells #[.bool p.used, .bool p.leaf, .slice a4 p.xs.length c4] 48) ⟨G, 1, none⟩ L4.out.1).trans c4'
            have hk4a : Hid (∀ o, (w4.alloc (.cells #[.bool p.used, .bool p.leaf, .slice a4 p.xs.length c4] 48)).cell? ⟨H, o, none⟩ = wq.cell? ⟨H, o, none⟩) := Lib.hid (fun o => (World.cell?_alloc_lt w4 _ ⟨H, o, none⟩ (show H < w4.heap.size by have := b4.size; have e : wq.drew.heap.size = wq.heap.size := rfl; have := KP.out.1; omega)).trans (hk4.out o))
            have B4 := Lib.hid b4
            have O4 := Lib.hid o4
            clear b4 o4
            refine hK.out _ _ (KB.out _ hk4.out) (fun hHeld => ?_)
            clear hK K
            refine wpAnyH_take (i := 7) (v := ?v7_1) rfl (by kernel_rfl) (by kernel_rfl) (by kernel_rfl) (fun _ _ _ h => h) (Or.inl ⟨by rfl, ?hy7_1⟩) (by assumption) ?rest7_1
            case hy7_1 => intro w hSw; (try dsimp only at hSw); go_simp; (try with_reducible rfl)
            simp only [List.getElem_toArray, List.getElem_cons_zero, List.getElem_cons_succ, Act.put, List.setIfInBounds_toArray, List.set_cons_zero, List.set_cons_succ]
            refine wpAnyH_ready (rs := [8]) (by kernel_rfl) (by simp) ?_
            refine AllReadyH.cons rfl (fun K hK => ?_) AllReadyH.nil
            go_simp
            refine hK.out _ _ (KB.out _ hk4a.out) (fun hHeld => ?_)
            clear hK K
            refine wpAnyH_ready (rs := [9]) (by kernel_rfl) (by simp) ?_
            refine AllReadyH.cons rfl (fun K hK => ?_) AllReadyH.nil
            refine step_append_src rfl (.tmp 21) (.tmp 28) 24 rfl (w.heap.size + 2) 48 i0 _ 3 40 Try.underlying24 hi.out hz0.out hz1.out hz2.out rfl (by decide) (.slice va k vc) k (qs.flatMap pgLay.cells) rfl (World.ownsRow.alloc (ownP_row ((HO.out.below (drew_below _)).below B4.out) HQ.out) _) (some ⟨w4.heap.size, 0, none⟩) 1 1 (pgLay.cells ⟨p.used, p.leaf, a4, p.xs.length, c4, p.xs⟩) rfl rfl (fun h => by cases h) (fun q hq => by cases hq; exact World.news_of_block (cs := #[.bool p.used, .bool p.leaf, .slice a4 p.xs.length c4]) (t := 48) (fr := (0, 0)) (heap_alloc_new w4 _)) (pgLay.one _) (by unfold maxLen; omega) (by omega) (by have := L4.out.1; have := hG2.out; simp; omega) ?_
            intro v5 w5 o5 g5
            obtain ⟨a5, c5, rfl⟩ := owns_shape o5
            have hk5 : Hid (∀ o, w5.cell? ⟨H, o, none⟩ = wq.cell? ⟨H, o, none⟩) := Lib.hid (fun o => (World.cell?_of_block (a := ⟨H, o, none⟩) (g5.block H (by have := B4.out.size; have e : wq.drew.heap.size = wq.heap.size := rfl; have := KP.out.1; simp; omega) (fun e => HPR.out H e.symm rfl))).trans (hk4a.out o))
            have L5 : Hid (Loc w5 G #[.int .i64 root, .slice va k vc]) := Lib.hid ((L4.out.alloc _).grown g5 (fun j hj => TG.out.ne HO.out.row (by decide) j hj))
            have hk6 : Hid (∀ o, (w5.setCell ⟨G, 1, none⟩ (.slice a5 (k + 1) c5)).cell? ⟨H, o, none⟩ = wq.cell? ⟨H, o, none⟩) := Lib.hid (fun o => (World.cell?_setCell_other _ _ _ _ (by intro e; simp only [Addr.mk.injEq] at e; exact hHG.out e.1)).trans (hk5.out o))
            have j5 := L5.out.2.1
            have e5 := L5.out.2.2
            have G5 := Lib.hid g5
            have O5 := Lib.hid o5
            clear o5 g5
            refine hK.out _ _ (KB.out _ hk5.out) (fun hHeld => ?_)
            clear hK K
            refine wpAnyH_take (i := 10) (v := ?v10_2) rfl (by kernel_rfl) (by kernel_rfl) (by kernel_rfl) (fun _ _ _ h => h) (Or.inl ⟨by rfl, ?hy10_2⟩) (by assumption) ?rest10_2
            case hy10_2 => intro w hSw; (try dsimp only at hSw); go_simp; (try with_reducible rfl)
            simp only [List.getElem_toArray, List.getElem_cons_zero, List.getElem_cons_succ, Act.put, List.setIfInBounds_toArray, List.set_cons_zero, List.set_cons_succ]
            refine wpAnyH_ready (rs := [11]) (by kernel_rfl) (by simp) ?_
            refine AllReadyH.cons rfl (fun K hK => ?_) AllReadyH.nil
            go_simp
            refine hK.out _ _ (KB.out _ hk6.out) (fun hHeld => ?_)
            clear hK K
            refine wpAnyH_done (by kernel_rfl) ?_ _
            refine NoPanic.normal ?_
            clear hHeld
            have RR := Lib.hid (copy_round2 hGl hG2.out KA.out KR.out TG.out HO.out HQ.out HP.out HT.out HB.out B4.out O4.out O5.out G5.out L5.out)
            clear O5 G5 L4
            go_wp2_with fail
            go_meet
            exact ⟨a5, c5, _, len_more HQ, RR.out⟩
          · go_simp
            refine CC.out.mono ?_
            rintro e w4 ⟨u4, rfl, o4, b4⟩
            obtain ⟨a4, c4, rfl, -⟩ := OwnS.rd o4
            have hk4 : Hid (∀ o, w4.cell? ⟨H, o, none⟩ = wq.cell? ⟨H, o, none⟩) := Lib.hid (fun o => b4.cell (p := ⟨H, o, none⟩) (show H < wq.heap.size from KP.out.1))
            have L4 := Lib.hid ((KG.out.drew).below b4)
            have c4' := L4.out.2.1 1
            simp at c4'
            have l4 := (World.cell?_alloc_lt w4 (.cells #[.bool p.used, .bool p.leaf, .slice a4 p.xs.length c4] 48) ⟨G, 1, none⟩ L4.out.1).trans c4'
            have hk4a : Hid (∀ o, (w4.alloc (.cells #[.bool p.used, .bool p.leaf, .slice a4 p.xs.length c4] 48)).cell? ⟨H, o, none⟩ = wq.cell? ⟨H, o, none⟩) := Lib.hid (fun o => (World.cell?_alloc_lt w4 _ ⟨H, o, none⟩ (show H < w4.heap.size by have := b4.size; have e : wq.drew.heap.size = wq.heap.size := rfl; have := KP.out.1; omega)).trans (hk4.out o))
            have B4 := Lib.hid b4
            have O4 := Lib.hid o4
            clear b4 o4
            refine hK.out _ _ (KB.out _ hk4.out) (fun hHeld => ?_)
            clear hK K
            refine wpAnyH_take (i := 7) (v := ?v7_5) rfl (by kernel_rfl) (by kernel_rfl) (by kernel_rfl) (fun _ _ _ h => h) (Or.inl ⟨by rfl, ?hy7_5⟩) (by assumption) ?rest7_5
            case hy7_5 => intro w hSw; (try dsimp only at hSw); go_simp; (try with_reducible rfl)
            simp only [List.getElem_toArray, List.getElem_cons_zero, List.getElem_cons_succ, Act.put, List.setIfInBounds_toArray, List.set_cons_zero, List.set_cons_succ]
            refine wpAnyH_ready (rs := [1, 8]) (by kernel_rfl) (by simp) ?_
            refine AllReadyH.cons rfl (fun K hK => ?_) (AllReadyH.cons rfl (fun K hK => ?_) AllReadyH.nil)
            · go_simp
              refine hK.out _ _ (KB.out _ hk4.out) (fun hHeld => ?_)
              clear hK K
              refine wpAnyH_ready (rs := [8]) (by kernel_rfl) (by simp) ?_
              refine AllReadyH.cons rfl (fun K hK => ?_) AllReadyH.nil
              go_simp
              refine hK.out _ _ (KB.out _ hk4a.out) (fun hHeld => ?_)
              clear hK K
              refine wpAnyH_ready (rs := [9]) (by kernel_rfl) (by simp) ?_
              refine AllReadyH.cons rfl (fun K hK => ?_) AllReadyH.nil
              refine step_append_src rfl (.tmp 21) (.tmp 28) 24 rfl (w.heap.size + 2) 48 i0 _ 3 40 Try.underlying24 hi.out hz0.out hz1.out hz2.out rfl (by decide) (.slice va k vc) k (qs.flatMap pgLay.cells) rfl (World.ownsRow.alloc (ownP_row ((HO.out.below (drew_below _)).below B4.out) HQ.out) _) (some ⟨w4.heap.size, 0, none⟩) 1 1 (pgLay.cells ⟨p.used, p.leaf, a4, p.xs.length, c4, p.xs⟩) rfl rfl (fun h => by cases h) (fun q hq => by cases hq; exact World.news_of_block (cs := #[.bool p.used, .bool p.leaf, .slice a4 p.xs.length c4]) (t := 48) (fr := (0, 0)) (heap_alloc_new w4 _)) (pgLay.one _) (by unfold maxLen; omega) (by omega) (by have := L4.out.1; have := hG2.out; simp; omega) ?_
              intro v5 w5 o5 g5
              obtain ⟨a5, c5, rfl⟩ := owns_shape o5
              have hk5 : Hid (∀ o, w5.cell? ⟨H, o, none⟩ = wq.cell? ⟨H, o, none⟩) := Lib.hid (fun o => (World.cell?_of_block (a := ⟨H, o, none⟩) (g5.block H (by have := B4.out.size; have e : wq.drew.heap.size = wq.heap.size := rfl; have := KP.out.1; simp; omega) (fun e => HPR.out H e.symm rfl))).trans (hk4a.out o))
              have L5 : Hid (Loc w5 G #[.int .i64 root, .slice va k vc]) := Lib.hid ((L4.out.alloc _).grown g5 (fun j hj => TG.out.ne HO.out.row (by decide) j hj))
              have hk6 : Hid (∀ o, (w5.setCell ⟨G, 1, none⟩ (.slice a5 (k + 1) c5)).cell? ⟨H, o, none⟩ = wq.cell? ⟨H, o, none⟩) := Lib.hid (fun o => (World.cell?_setCell_other _ _ _ _ (by intro e; simp only [Addr.mk.injEq] at e; exact hHG.out e.1)).trans (hk5.out o))
              have j5 := L5.out.2.1
              have e5 := L5.out.2.2
              have G5 := Lib.hid g5
              have O5 := Lib.hid o5
              clear o5 g5
              refine hK.out _ _ (KB.out _ hk5.out) (fun hHeld => ?_)
              clear hK K
              refine wpAnyH_take (i := 10) (v := ?v10_3) rfl (by kernel_rfl) (by kernel_rfl) (by kernel_rfl) (fun _ _ _ h => h) (Or.inl ⟨by rfl, ?hy10_3⟩) (by assumption) ?rest10_3
              case hy10_3 => intro w hSw; (try dsimp only at hSw); go_simp; (try with_reducible rfl)
              simp only [List.getElem_toArray, List.getElem_cons_zero, List.getElem_cons_succ, Act.put, List.setIfInBounds_toArray, List.set_cons_zero, List.set_cons_succ]
              refine wpAnyH_ready (rs := [11]) (by kernel_rfl) (by simp) ?_
              refine AllReadyH.cons rfl (fun K hK => ?_) AllReadyH.nil
              go_simp
              refine hK.out _ _ (KB.out _ hk6.out) (fun hHeld => ?_)
              clear hK K
              refine wpAnyH_done (by kernel_rfl) ?_ _
              refine NoPanic.normal ?_
              clear hHeld
              have RR := Lib.hid (copy_round2 hGl hG2.out KA.out KR.out TG.out HO.out HQ.out HP.out HT.out HB.out B4.out O4.out O5.out G5.out L5.out)
              clear O5 G5 L4
              go_wp2_with fail
              go_meet
              exact ⟨a5, c5, _, len_more HQ, RR.out⟩
            · go_simp
              refine hK.out _ _ (KB.out _ hk4a.out) (fun hHeld => ?_)
              clear hK K
              refine wpAnyH_ready (rs := [1]) (by kernel_rfl) (by simp) ?_
              refine AllReadyH.cons rfl (fun K hK => ?_) AllReadyH.nil
              go_simp
              refine hK.out _ _ (KB.out _ hk4a.out) (fun hHeld => ?_)
              clear hK K
              refine wpAnyH_ready (rs := [9]) (by kernel_rfl) (by simp) ?_
              refine AllReadyH.cons rfl (fun K hK => ?_) AllReadyH.nil
              refine step_append_src rfl (.tmp 21) (.tmp 28) 24 rfl (w.heap.size + 2) 48 i0 _ 3 40 Try.underlying24 hi.out hz0.out hz1.out hz2.out rfl (by decide) (.slice va k vc) k (qs.flatMap pgLay.cells) rfl (World.ownsRow.alloc (ownP_row ((HO.out.below (drew_below _)).below B4.out) HQ.out) _) (some ⟨w4.heap.size, 0, none⟩) 1 1 (pgLay.cells ⟨p.used, p.leaf, a4, p.xs.length, c4, p.xs⟩) rfl rfl (fun h => by cases h) (fun q hq => by cases hq; exact World.news_of_block (cs := #[.bool p.used, .bool p.leaf, .slice a4 p.xs.length c4]) (t := 48) (fr := (0, 0)) (heap_alloc_new w4 _)) (pgLay.one _) (by unfold maxLen; omega) (by omega) (by have := L4.out.1; have := hG2.out; simp; omega) ?_
              intro v5 w5 o5 g5
              obtain ⟨a5, c5, rfl⟩ := owns_shape o5
              have hk5 : Hid (∀ o, w5.cell? ⟨H, o, none⟩ = wq.cell? ⟨H, o, none⟩) := Lib.hid (fun o => (World.cell?_of_block (a := ⟨H, o, none⟩) (g5.block H (by have := B4.out.size; have e : wq.drew.heap.size = wq.heap.size := rfl; have := KP.out.1; simp; omega) (fun e => HPR.out H e.symm rfl))).trans (hk4a.out o))
              have L5 : Hid (Loc w5 G #[.int .i64 root, .slice va k vc]) := Lib.hid ((L4.out.alloc _).grown g5 (fun j hj => TG.out.ne HO.out.row (by decide) j hj))
              have hk6 : Hid (∀ o, (w5.setCell ⟨G, 1, none⟩ (.slice a5 (k + 1) c5)).cell? ⟨H, o, none⟩ = wq.cell? ⟨H, o, none⟩) := Lib.hid (fun o => (World.cell?_setCell_other _ _ _ _ (by intro e; simp only [Addr.mk.injEq] at e; exact hHG.out e.1)).trans (hk5.out o))
              have j5 := L5.out.2.1
              have e5 := L5.out.2.2
              have G5 := Lib.hid g5
              have O5 := Lib.hid o5
              clear o5 g5
              refine hK.out _ _ (KB.out _ hk5.out) (fun hHeld => ?_)
              clear hK K
              refine wpAnyH_take (i := 10) (v := ?v10_4) rfl (by kernel_rfl) (by kernel_rfl) (by kernel_rfl) (fun _ _ _ h => h) (Or.inl ⟨by rfl, ?hy10_4⟩) (by assumption) ?rest10_4
              case hy10_4 => intro w hSw; (try dsimp only at hSw); go_simp; (try with_reducible rfl)
              simp only [List.getElem_toArray, List.getElem_cons_zero, List.getElem_cons_succ, Act.put, List.setIfInBounds_toArray, List.set_cons_zero, List.set_cons_succ]
              refine wpAnyH_ready (rs := [11]) (by kernel_rfl) (by simp) ?_
              refine AllReadyH.cons rfl (fun K hK => ?_) AllReadyH.nil
              go_simp
              refine hK.out _ _ (KB.out _ hk6.out) (fun hHeld => ?_)
              clear hK K
              refine wpAnyH_done (by kernel_rfl) ?_ _
              refine NoPanic.normal ?_
              clear hHeld
              have RR := Lib.hid (copy_round2 hGl hG2.out KA.out KR.out TG.out HO.out HQ.out HP.out HT.out HB.out B4.out O4.out O5.out G5.out L5.out)
              clear O5 G5 L4
              go_wp2_with fail
              go_meet
              exact ⟨a5, c5, _, len_more HQ, RR.out⟩
        case rest =>
          obtain ⟨a5, c5, rs, hr⟩ := hcut
          refine hKK _ _ ?_
          go_wp2
          go_roundw
          case rel => exact ⟨k + 1, a5, c5, rs, by omega, by go_num, hr⟩
          case measure => simp [intOf]; omega
      · obtain rfl : k = n := by omega
        have HF : Hid (qs.map PgV.pg = ps.map PgV.pg) := by
          have := HT.out
          rw [List.take_of_length_le (by rw [HL.out]; exact Nat.le_refl _)] at this
          exact Lib.hid this
        obtain ⟨hGl, j0, g0⟩ := KG.out
        obtain ⟨hRl, r0, e0⟩ := KR.out
        have hRG : w.heap.size + 1 ≠ G := by have := hG2.out; omega
        go_wp2
        refine bodyPost_ret (v := .agg #[.int .i64 root, .slice va k vc]) (by simp [results, Try.results56, go_sem, r0]) rfl ⟨_, qs, rfl, HF.out, ?_, ?_⟩
        · refine OwnP.mono (base' := w.heap.size + 2) ?_ (by omega)
          refine HO.out.frame _ _ (fun j h1 h2 => ?_) HO.out
          rw [Below.heap_setCell _ _ _ _ (by intro e; simp at e; omega), Below.heap_setCell _ _ _ _ (by intro e; simp at e; omega)]
        · exact (HB.out.setCell (p := ⟨w.heap.size + 1, 0, none⟩) (show w.heap.size ≤ w.heap.size + 1 by omega) _).setCell (p := ⟨w.heap.size + 1, 1, none⟩) (show w.heap.size ≤ w.heap.size + 1 by omega) _
end Go.Proofs.Ytfefggcfeppeiaa
