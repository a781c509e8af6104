/- The program's Alloc: the library's IndexFunc over pages. -/
import Derived.Test.YtfefggcfeppeiaaBookI3ZPages
namespace Go.Proofs.Ytfefggcfeppeiaa
open Go.RowKit
attribute [local go_sem ↓] Go.wp_at_zero Go.wp_at_succ

set_option maxRecDepth 100000 in
set_option maxHeartbeats 400000 in
/-- The closure: whether a page is unused. -/
theorem iFreeFn_any (u b : Bool) (a : Option Addr) (n cap : Nat) (w : World) (f : Bool) (hf : (!u) = f) : Calls Try.prog 58 #[.agg #[.bool u, .bool b, .slice a n cap]] w fun e w' => e = .returned (.bool f) ∧ Below w.heap.size w w' := by
  go_enter Try.func58, Try.ntmps58
  go_wp2
  go_ret
  exact ⟨rfl, new_below _ _⟩

/-- The first unused page, or none. -/
def FirstFree (ps : List PgV) (w : World) (e : Ending) (w' : World) : Prop :=
  ((∃ (k : Nat) (p : PgV), ps[k]? = some p ∧ p.used = false ∧ (∀ j q, j < k → ps[j]? = some q → q.used = true) ∧ e = .returned (.int .i64 (k : Int))) ∨ ((∀ j q, j < ps.length → ps[j]? = some q → q.used = true) ∧ e = .returned (.int .i64 (-1)))) ∧ Below w.heap.size w w'

set_option maxRecDepth 100000 in
set_option maxHeartbeats 1600000 in
theorem iFirst_any (a : Option Addr) (n cap : Nat) (ps : List PgV) (w : World) (h : RdP w a n cap ps) :
    Calls Try.prog 57 #[.slice a n cap, .func (.func 58) #[] #[]] w (FirstFree ps w) := by
  have hm := h.1.1.2.2.1
  have hnc := h.1.1.2.1
  unfold maxLen at hm
  have HR := Lib.hid h
  have HL := Lib.hid h.1.1.1
  clear h
  go_enter Try.func57, Try.ntmps57
  go_wp2
  go_loopw [8] (fun i wr => ∃ k : Nat, k ≤ n ∧ i = .int .i64 k ∧ Hid (∀ j q, j < k → ps[j]? = some q → q.used = true) ∧ Below w.heap.size w wr) (fun i _ => n - (intOf i).toNat)
  case atStart => exact ⟨0, Nat.zero_le _, rfl, Lib.hid (fun j q hj => by omega), Below.refl _ _⟩
  case round =>
    obtain ⟨k, hk, rfl, HU, hB⟩ := hrel
    by_cases hlt : k < n
    · obtain ⟨b, off, p, rfl, hbl, hp, hrd, d0, d1, d2⟩ := rdP_at (HR.out.below hB) hlt
      have HP := Lib.hid hp
      have z0 : (0 : Int) ≤ k := by omega
      have z1 : (k : Int) < n := by omega
      clear hp hrd
      cases hu : p.used with
      | true =>
        rw [hu] at d0
        have HU2 : Hid (∀ j q, j < k + 1 → ps[j]? = some q → q.used = true) := Lib.hid (fun j q hj hq => by
          by_cases hjk : j < k
          · exact HU.out j q hjk hq
          · obtain rfl : j = k := by omega
            obtain rfl : p = q := Option.some.inj (HP.out.symm.trans hq)
            exact hu)
        have C := Lib.hid (iFreeFn_any true p.leaf p.a p.n p.cap wr false rfl)
        clear hu
        go_wp2_with fail
        refine C.out.mono ?_
        rintro e w1 ⟨rfl, hb⟩
        replace hb := hB.trans (hb.mono hB.size)
        go_wp2
        go_roundw
        case rel => exact ⟨k + 1, by omega, by go_num, HU2, hb⟩
        case measure => simp [intOf]; omega
      | false =>
        rw [hu] at d0
        have C := Lib.hid (iFreeFn_any false p.leaf p.a p.n p.cap wr true rfl)
        have hu' := Lib.hid hu
        clear hu
        go_wp2_with fail
        refine C.out.mono ?_
        rintro e w1 ⟨rfl, hb⟩
        replace hb := hB.trans (hb.mono hB.size)
        go_wp2
        go_ret
        exact ⟨.inl ⟨k, p, HP.out, hu'.out, HU.out, rfl⟩, hb⟩
    · obtain rfl : k = n := by omega
      go_wp2
      go_ret
      exact ⟨.inr ⟨fun j q hj hq => HU.out j q (by rw [HL.out] at hj; exact hj) hq, rfl⟩, hB⟩

/-- A page more. -/
theorem alloc_more {w W0 w3 w4 w5 w6 : World} {n : Nat} {root : Int} {a6 : Option Addr} {c6 vc : Nat} {va : Option Addr} {qs : List PgV} {out : List Pg} (hsz : w.heap.size + 1 < W0.heap.size ∧ W0.heap.size ≤ w3.heap.size ∧ w3.heap.size < w4.heap.size)
    (KR : Loc w4 (w.heap.size + 1) #[.int .i64 0, .slice none 0 0]) (TG : TagT 26 w4 w3.heap.size) (HO : OwnP w4 W0.heap.size (.slice va n vc) qs) (HQ : qs.length = n) (HM : qs.map PgV.pg = out) (HB : Below w.heap.size w w4) (B5 : Below w4.drew.heap.size w4.drew w5)
    (O6 : w6.ownsRow W0.heap.size 48 3 (.slice a6 (n + 1) c6) (n + 1) (qs.flatMap pgLay.cells ++ pgLay.cells ⟨true, true, none, 0, 0, []⟩)) (G6 : (w5.alloc (.cells #[.bool true, .bool true, .slice none 0 0] 48)).grownBy w6 (Value.slice va n vc).ownBlock) (L6 : Loc w6 w3.heap.size #[.int .i64 root, .slice va n vc]) :
    Hid (Loc (w6.setCell ⟨w3.heap.size, 1, none⟩ (.slice a6 (n + 1) c6)) (w.heap.size + 1) #[.int .i64 0, .slice none 0 0]) ∧ Hid (Loc (w6.setCell ⟨w3.heap.size, 1, none⟩ (.slice a6 (n + 1) c6)) w3.heap.size #[.int .i64 root, .slice a6 (n + 1) c6]) ∧
      Hid (OwnP (w6.setCell ⟨w3.heap.size, 1, none⟩ (.slice a6 (n + 1) c6)) W0.heap.size (.slice a6 (n + 1) c6) (qs ++ [(⟨true, true, none, 0, 0, []⟩ : PgV)])) ∧ Hid ((qs ++ [(⟨true, true, none, 0, 0, []⟩ : PgV)]).map PgV.pg = out ++ [leafPg]) ∧ Hid (Below w.heap.size w (w6.setCell ⟨w3.heap.size, 1, none⟩ (.slice a6 (n + 1) c6))) := by
  obtain ⟨h1, h2, h3⟩ := hsz
  have e0 : w4.drew.heap.size = w4.heap.size := rfl
  have s5 := B5.size
  have s6 := G6.size
  simp at s6
  have P6 : OwnP w6 W0.heap.size (.slice a6 (n + 1) c6) (qs ++ [⟨true, true, none, 0, 0, []⟩]) := OwnP.snoc (w := w4.drew) (w1 := w5.alloc (.cells #[.bool true, .bool true, .slice none 0 0] 48)) (HO.below (drew_below _)) (B5.alloc B5.size _) (ownS_none _ _ _) (fun g hg => (by cases hg)) (by rw [HQ]; exact O6) G6
  have hrow : ∀ j, (Value.slice va n vc).ownBlock = some j → W0.heap.size ≤ j ∧ j ≠ w3.heap.size := fun j hj => ⟨(World.ownsRow.lt HO.row j hj).1, TG.ne HO.row (by decide) j hj⟩
  have hbl : ∀ q, q < w4.heap.size → (q < W0.heap.size ∨ q = w3.heap.size) → w6.heap[q]? = w4.heap[q]? := fun q hq hq' =>
    (G6.block q (by simp; omega) (fun e => by have := hrow q e.symm; omega)).trans ((Below.heap_alloc _ _ q (by omega)).trans (B5.block q hq))
  have T6 : TagT 26 w6 w3.heap.size := TG.of (hbl _ h3 (.inr rfl))
  refine ⟨Lib.hid ((KR.of (by omega) (hbl _ (by omega) (.inl (by omega)))).other 1 _ (by omega)), Lib.hid (L6.set 1 (.slice a6 (n + 1) c6) (by show 1 < 2; decide)), Lib.hid (P6.store T6 1 _), Lib.hid ?_, Lib.hid ?_⟩
  · rw [List.map_append, HM]
    rfl
  · exact ((((HB.drew).trans (B5.mono (show w.heap.size ≤ w4.heap.size by omega))).alloc (by omega) (.cells #[.bool true, .bool true, .slice none 0 0] 48)).grown G6 (by simp; omega) (fun j hj => by have := (hrow j hj).1; omega)).setCell (p := ⟨w3.heap.size, 1, none⟩) (show w.heap.size ≤ w3.heap.size by omega) _

set_option maxRecDepth 100000 in
set_option maxHeartbeats 3200000 in
theorem iAlloc_any : CAlloc 12 := by
  intro root a n cap ps w h hn hps
  have hnc := h.1.1.2.1
  have hm := h.1.1.2.2.1
  unfold maxLen at hm
  have HL := Lib.hid h.1.1.1
  obtain ⟨W0, hW0⟩ : ∃ W0, W0 = ((w.alloc (.cells #[.int .i64 root, .slice a n cap] 26)).alloc (.cells #[.int .i64 0, .slice none 0 0] 26)) := ⟨_, rfl⟩
  have hs0 : W0.heap.size = w.heap.size + 1 + 1 := by subst hW0; simp
  have B0 : Below w.heap.size w W0 := by subst hW0; exact (((Below.refl _ _).alloc (Nat.le_refl _) _).alloc (by simp) _)
  have KA : Loc W0 (w.heap.size) #[.int .i64 root, .slice a n cap] := by subst hW0; exact (Loc.new w _ _).alloc _
  have KR : Loc W0 (w.heap.size + 1) #[.int .i64 0, .slice none 0 0] := by
    subst hW0
    have := Loc.new (w.alloc (.cells #[.int .i64 root, .slice a n cap] 26)) #[.int .i64 0, .slice none 0 0] 26
    rw [show (w.alloc (.cells #[.int .i64 root, .slice a n cap] 26)).heap.size = w.heap.size + 1 by simp] at this
    exact this
  have CC := Lib.hid (iCopyB_any root a n cap ps W0 (h.below B0) hn hps)
  have a0 := KA.2.1
  replace KR := Lib.hid KR
  replace B0 := Lib.hid B0
  have ka0 := a0 0
  have ka1 := a0 1
  simp at ka0 ka1
  clear h hps a0 KA
  go_enter Try.func12, Try.ntmps12
  go_wp2_with fail
  rw [← hW0]
  clear hW0
  refine CC.out.mono ?_
  rintro e w3 ⟨v3, qs, rfl, hq, ho, hb⟩
  obtain ⟨va, vc, rfl⟩ := ho.shape
  have hql := len_pg hq
  rw [HL.out] at hql
  rw [hql]
  rw [hql] at ho
  have s3 := hb.size
  have HQ := Lib.hid hq
  obtain ⟨W4, hW4⟩ : ∃ W4, W4 = w3.alloc (.cells #[.int .i64 root, .slice va n vc] 26) := ⟨_, rfl⟩
  have hs4 : W4.heap.size = w3.heap.size + 1 := by subst hW4; simp
  have b34 : Below w3.heap.size w3 W4 := by subst hW4; exact new_below _ _
  have KG : Loc W4 w3.heap.size #[.int .i64 root, .slice va n vc] := by subst hW4; exact Loc.new w3 _ _
  have TG : TagT 26 W4 w3.heap.size := by subst hW4; exact TagT.new _ w3 _
  have HOL := Lib.hid (show ∀ g, (Value.slice va n vc).ownBlock = some g → g < w3.heap.size from fun g hg => (World.ownsRow.lt ho.row g hg).2)
  have KR4 := Lib.hid ((KR.out.below hb).below b34)
  have HO4 := Lib.hid (ho.below b34)
  have HB4 := Lib.hid ((B0.out.trans (hb.mono (by omega))).trans (b34.mono (show w.heap.size ≤ w3.heap.size by omega)))
  have C1 := Lib.hid (iFirst_any va n vc qs W4 (ho.below b34).rd)
  have kg1 := KG.2.1 1
  simp at kg1
  replace KG := Lib.hid KG
  replace TG := Lib.hid TG
  clear ho hq hb CC B0 b34 KR ka0 ka1
  replace hql := Lib.hid hql
  have hs1 : w.heap.size + 1 < W0.heap.size := by omega
  go_wp2_with fail
  rw [← hW4]
  clear hW4
  refine C1.out.mono ?_
  rintro e w4 ⟨hfirst, b4⟩
  have s4 := b4.size
  have KG4 := Lib.hid (KG.out.below b4)
  have TG4 := Lib.hid (TG.out.of (b4.block _ KG.out.1))
  have KR5 := Lib.hid (KR4.out.below b4)
  have HO5 := Lib.hid (HO4.out.below b4)
  have HB5 := Lib.hid (HB4.out.trans (b4.mono (by omega)))
  clear KG TG KR4 HO4 HB4 b4 C1 kg1
  have KR4 := KR5
  have HO4 := HO5
  have HB4 := HB5
  clear KR5 HO5 HB5
  obtain ⟨hGl, g0, fg⟩ := KG4.out
  obtain ⟨hRl, r0, fr⟩ := KR4.out
  have hRG : w.heap.size + 1 ≠ w3.heap.size := by omega
  rcases hfirst with ⟨k, p, hp, hu, hU, rfl⟩ | ⟨hU, rfl⟩
  · have hkn : k < n := by
      have := (List.getElem?_eq_some_iff.1 hp).1
      rw [hql.out] at this
      exact this
    have hv : Hid (allocV (ps.map PgV.pg) = ((ps.map PgV.pg).set k leafPg, (k : Int))) := by
      show _ = _
      rw [← HQ.out]
      exact free_at hU hp hu
    obtain ⟨gb, rfl⟩ : ∃ g, va = some ⟨g, 0, none⟩ := own_head (ownP_row HO4.out (ownP_len HO4.out)) (by omega)
    have hgb := HO4.out.lt
    have hgl := HOL.out gb rfl
    have hrow := Lib.hid (HO4.out.below (drew_below _))
    have e1 := g0 1
    simp at e1
    have z0 : (0 : Int) ≤ k := by omega
    have z1 : (k : Int) < n := by omega
    clear hp hu hU
    go_wp2_with fail
    go_region_law (refine step_go rfl 59 _ _ rfl #[] (by simp) (enters_of Try.func59 (by kernel_rfl) rfl) (R := fun v w' => v = .agg #[.bool true, .bool true, .slice none 0 0] ∧ Below w4.drew.heap.size w4.drew w') ((iNewPage_any _).mono (fun e w' ⟨he, bb⟩ => ⟨_, he, rfl, bb⟩)) ?_; rintro v w5 ⟨rfl, b5⟩; have P5 := Lib.hid (hrow.out.below b5); obtain ⟨y, hy, q0, q1, q2⟩ := ownP_at P5.out hkn; have fz := P5.out.froz; have L5 := Lib.hid ((KG4.out.drew).below b5); have l5 := L5.out.2.1 1; simp at l5; have R5 := Lib.hid ((KR4.out.drew).below b5); have B5 := Lib.hid b5; have hgl5 := P5.out.lt.2; clear b5 hy)
    all_goals
      have s5 := B5.out.size
      have e0 : w4.drew.heap.size = w4.heap.size := rfl
      have P6 : Hid (OwnP (((w5.setCell ⟨gb, k * 3, none⟩ (.bool true)).setCell ⟨gb, k * 3 + 1, none⟩ (.bool true)).setCell ⟨gb, k * 3 + 1 + 1, none⟩ (.slice none 0 0)) W0.heap.size (.slice (some ⟨gb, 0, none⟩) n vc) (qs.set k ⟨true, true, none, 0, 0, []⟩)) :=
        Lib.hid (P5.out.set k ⟨true, true, none, 0, 0, []⟩ (by rw [ownP_len P5.out]; exact hkn) rfl (ownS_none _ _ _) (apart_none _ 0 0).1 (fun _ _ _ _ => (apart_none _ 0 0).1))
      have M6 : Hid ((qs.set k ⟨true, true, none, 0, 0, []⟩).map PgV.pg = (ps.map PgV.pg).set k leafPg) := Lib.hid (map_setP HQ.out)
      have h3 : w.heap.size ≤ gb := by omega
      have B6 := Lib.hid (((((HB4.out.drew).trans (B5.out.mono (by omega))).setCell (p := ⟨gb, k * 3, none⟩) h3 (.bool true)).setCell (p := ⟨gb, k * 3 + 1, none⟩) h3 (.bool true)).setCell (p := ⟨gb, k * 3 + 1 + 1, none⟩) h3 (.slice none 0 0))
      obtain ⟨-, x0, -⟩ := ((L5.out.other (k * 3) (.bool true) (show gb ≠ w3.heap.size by omega)).other (k * 3 + 1) (.bool true) (show gb ≠ w3.heap.size by omega)).other (k * 3 + 1 + 1) (.slice none 0 0) (show gb ≠ w3.heap.size by omega)
      obtain ⟨hR6, y0, fy⟩ := ((R5.out.other (k * 3) (.bool true) (show gb ≠ w.heap.size + 1 by omega)).other (k * 3 + 1) (.bool true) (show gb ≠ w.heap.size + 1 by omega)).other (k * 3 + 1 + 1) (.slice none 0 0) (show gb ≠ w.heap.size + 1 by omega)
      go_wp2
      refine bodyPost_ret (v := .tuple #[.agg #[.int .i64 root, .slice (some ⟨gb, 0, none⟩) n vc], .int .i64 k]) (by simp [results, Try.results12, go_sem, y0]) rfl ?_
      exact bookI_end P6.out (by rw [hv.out]; exact M6.out) (by rw [hv.out]) B6.out (by omega) (by omega) (by omega)
  · have hf := free_none (ps := qs) hU
    rw [HQ.out, hql.out] at hf
    by_cases h48 : 48 ≤ n
    · rw [if_pos h48] at hf
      have hv := Lib.hid hf
      have z48 : (n : Int) ≥ 48 := by omega
      clear hf hU
      go_wp2
      refine bodyPost_ret (v := .tuple #[.agg #[.int .i64 root, .slice va n vc], .int .i64 (-1)]) (by simp [results, Try.results12, go_sem, r0]) rfl ?_
      exact bookI_end HO4.out (by rw [hv.out]; exact HQ.out) (by rw [hv.out]) HB4.out (by omega) (by omega) (by omega)
    · rw [if_neg h48] at hf
      have hv := Lib.hid hf
      have z48 : ¬ (n : Int) ≥ 48 := by omega
      clear hf hU
      obtain ⟨i0, hi, hz0, hz1, hz2⟩ := info_parts Try.infoPage
      replace hi := Lib.hid hi
      replace hz0 := Lib.hid hz0
      replace hz1 := Lib.hid hz1
      replace hz2 := Lib.hid hz2
      have HQL := Lib.hid (ownP_len HO4.out)
      have hsz := Lib.hid (show w.heap.size + 1 < W0.heap.size ∧ W0.heap.size ≤ w3.heap.size ∧ w3.heap.size < w4.heap.size by omega)
      have c1 := g0 1
      simp at c1
      go_wp2_with fail
      go_cut [] (fun wx => ∃ (a6 : Option Addr) (c6 : Nat) (rs : List PgV), Hid (Loc wx (w.heap.size + 1) #[.int .i64 0, .slice none 0 0]) ∧ Hid (Loc wx w3.heap.size #[.int .i64 root, .slice a6 (n + 1) c6]) ∧ Hid (OwnP wx W0.heap.size (.slice a6 (n + 1) c6) rs) ∧ Hid (rs.map PgV.pg = ps.map PgV.pg ++ [leafPg]) ∧ Hid (Below w.heap.size w wx))
      case first => as_aux_lemma =>
        refine wp_region_noPanic ?_
        refine wp_region_held_drew (S := fun _ => True) (by kernel_rfl) trivial (fun hHeld => ?_)
        refine wpAnyH_take (i := 0) (v := ?v0_4) rfl (by kernel_rfl) (by kernel_rfl) (by kernel_rfl) (fun _ _ _ h => h) (Or.inl ⟨by rfl, ?hy0_4⟩) (by assumption) ?rest0_4
        case hy0_4 => intro w hSw; go_simp; (try with_reducible rfl)
        simp only [List.getElem_toArray, List.getElem_cons_zero, Act.put, List.setIfInBounds_toArray, List.set_cons_zero, List.set_cons_succ]
        refine wpAnyH_ready (rs := [1, 2]) (by kernel_rfl) (by simp) ?_
        refine AllReadyH.cons rfl (fun K hK => ?_) (AllReadyH.cons rfl (fun K hK => ?_) AllReadyH.nil)
        · go_simp
          refine hK.out _ _ trivial (fun hHeld => ?_)
          clear hK K
          refine wpAnyH_ready (rs := [2]) (by kernel_rfl) (by simp) ?_
          refine AllReadyH.cons rfl (fun K hK => ?_) AllReadyH.nil
          go_simp
          refine (iNewPage_any _).mono ?_
          rintro e w5 ⟨rfl, b5⟩
          have L5 := Lib.hid ((KG4.out.drew).below b5)
          have c5' := L5.out.2.1 1
          simp at c5'
          have l5 := (World.cell?_alloc_lt w5 (.cells #[.bool true, .bool true, .slice none 0 0] 48) ⟨w3.heap.size, 1, none⟩ L5.out.1).trans c5'
          have B5 := Lib.hid b5
          clear b5
          refine hK.out _ _ trivial (fun hHeld => ?_)
          clear hK K
          refine wpAnyH_ready (rs := [3]) (by kernel_rfl) (by simp) ?_
          refine AllReadyH.cons rfl (fun K hK => ?_) AllReadyH.nil
          go_simp
          refine hK.out _ _ trivial (fun hHeld => ?_)
          clear hK K
          refine wpAnyH_ready (rs := [4]) (by kernel_rfl) (by simp) ?_
          refine AllReadyH.cons rfl (fun K hK => ?_) AllReadyH.nil
          refine step_append_src rfl (.tmp 26) (.tmp 28) 24 rfl W0.heap.size 48 i0 _ 3 40 Try.underlying24 hi.out hz0.out hz1.out hz2.out rfl (by decide) (.slice va n vc) n (qs.flatMap pgLay.cells) rfl (World.ownsRow.alloc (ownP_row ((HO4.out.below (drew_below _)).below B5.out) HQL.out) _) (some ⟨w5.heap.size, 0, none⟩) 1 1 (pgLay.cells ⟨true, true, none, 0, 0, []⟩) rfl rfl (fun h => by cases h) (fun q hq => by cases hq; exact World.news_of_block (cs := #[.bool true, .bool true, .slice none 0 0]) (t := 48) (fr := (0, 0)) (heap_alloc_new w5 _)) (pgLay.one _) (by unfold maxLen; omega) (by omega) (by have := L5.out.1; simp; omega) ?_
          intro v6 w6 o6 g6
          obtain ⟨a6, c6, rfl⟩ := owns_shape o6
          have L6 : Hid (Loc w6 w3.heap.size #[.int .i64 root, .slice va n vc]) := Lib.hid ((L5.out.alloc _).grown g6 (fun j hj => TG4.out.ne HO4.out.row (by decide) j hj))
          have j6 := L6.out.2.1
          have e6 := L6.out.2.2
          have G6 := Lib.hid g6
          have O6 := Lib.hid o6
          clear o6 g6
          refine hK.out _ _ trivial (fun hHeld => ?_)
          clear hK K
          refine wpAnyH_take (i := 5) (v := ?v5_1) rfl (by kernel_rfl) (by kernel_rfl) (by kernel_rfl) (fun _ _ _ h => h) (Or.inl ⟨by rfl, ?hy5_1⟩) (by assumption) ?rest5_1
          case hy5_1 => intro w hSw; go_simp; (try with_reducible rfl)
          simp only [List.getElem_toArray, List.getElem_cons_zero, List.getElem_cons_succ, Act.put, List.setIfInBounds_toArray, List.set_cons_zero, List.set_cons_succ]
          refine wpAnyH_ready (rs := [6]) (by kernel_rfl) (by simp) ?_
          refine AllReadyH.cons rfl (fun K hK => ?_) AllReadyH.nil
          go_simp
          refine hK.out _ _ trivial (fun hHeld => ?_)
          clear hK K
          refine wpAnyH_done (by kernel_rfl) ?_ _
          refine NoPanic.normal ?_
          clear hHeld
          have RR := Lib.hid (alloc_more hsz.out KR4.out TG4.out HO4.out HQL.out HQ.out HB4.out B5.out O6.out G6.out L6.out)
          clear O6 G6 L5
          go_wp2_with fail
          go_meet
          exact ⟨a6, c6, _, RR.out⟩
        · go_simp
          refine (iNewPage_any _).mono ?_
          rintro e w5 ⟨rfl, b5⟩
          have L5 := Lib.hid ((KG4.out.drew).below b5)
          have c5' := L5.out.2.1 1
          simp at c5'
          have l5 := (World.cell?_alloc_lt w5 (.cells #[.bool true, .bool true, .slice none 0 0] 48) ⟨w3.heap.size, 1, none⟩ L5.out.1).trans c5'
          have B5 := Lib.hid b5
          clear b5
          refine hK.out _ _ trivial (fun hHeld => ?_)
          clear hK K
          refine wpAnyH_ready (rs := [1, 3]) (by kernel_rfl) (by simp) ?_
          refine AllReadyH.cons rfl (fun K hK => ?_) (AllReadyH.cons rfl (fun K hK => ?_) AllReadyH.nil)
          · go_simp
            refine hK.out _ _ trivial (fun hHeld => ?_)
            clear hK K
            refine wpAnyH_ready (rs := [3]) (by kernel_rfl) (by simp) ?_
            refine AllReadyH.cons rfl (fun K hK => ?_) AllReadyH.nil
            go_simp
            refine hK.out _ _ trivial (fun hHeld => ?_)
            clear hK K
            refine wpAnyH_ready (rs := [4]) (by kernel_rfl) (by simp) ?_
            refine AllReadyH.cons rfl (fun K hK => ?_) AllReadyH.nil
            refine step_append_src rfl (.tmp 26) (.tmp 28) 24 rfl W0.heap.size 48 i0 _ 3 40 Try.underlying24 hi.out hz0.out hz1.out hz2.out rfl (by decide) (.slice va n vc) n (qs.flatMap pgLay.cells) rfl (World.ownsRow.alloc (ownP_row ((HO4.out.below (drew_below _)).below B5.out) HQL.out) _) (some ⟨w5.heap.size, 0, none⟩) 1 1 (pgLay.cells ⟨true, true, none, 0, 0, []⟩) rfl rfl (fun h => by cases h) (fun q hq => by cases hq; exact World.news_of_block (cs := #[.bool true, .bool true, .slice none 0 0]) (t := 48) (fr := (0, 0)) (heap_alloc_new w5 _)) (pgLay.one _) (by unfold maxLen; omega) (by omega) (by have := L5.out.1; simp; omega) ?_
            intro v6 w6 o6 g6
            obtain ⟨a6, c6, rfl⟩ := owns_shape o6
            have L6 : Hid (Loc w6 w3.heap.size #[.int .i64 root, .slice va n vc]) := Lib.hid ((L5.out.alloc _).grown g6 (fun j hj => TG4.out.ne HO4.out.row (by decide) j hj))
            have j6 := L6.out.2.1
            have e6 := L6.out.2.2
            have G6 := Lib.hid g6
            have O6 := Lib.hid o6
            clear o6 g6
            refine hK.out _ _ trivial (fun hHeld => ?_)
            clear hK K
            refine wpAnyH_take (i := 5) (v := ?v5_2) rfl (by kernel_rfl) (by kernel_rfl) (by kernel_rfl) (fun _ _ _ h => h) (Or.inl ⟨by rfl, ?hy5_2⟩) (by assumption) ?rest5_2
            case hy5_2 => intro w hSw; go_simp; (try with_reducible rfl)
            simp only [List.getElem_toArray, List.getElem_cons_zero, List.getElem_cons_succ, Act.put, List.setIfInBounds_toArray, List.set_cons_zero, List.set_cons_succ]
            refine wpAnyH_ready (rs := [6]) (by kernel_rfl) (by simp) ?_
            refine AllReadyH.cons rfl (fun K hK => ?_) AllReadyH.nil
            go_simp
            refine hK.out _ _ trivial (fun hHeld => ?_)
            clear hK K
            refine wpAnyH_done (by kernel_rfl) ?_ _
            refine NoPanic.normal ?_
            clear hHeld
            have RR := Lib.hid (alloc_more hsz.out KR4.out TG4.out HO4.out HQL.out HQ.out HB4.out B5.out O6.out G6.out L6.out)
            clear O6 G6 L5
            go_wp2_with fail
            go_meet
            exact ⟨a6, c6, _, RR.out⟩
          · go_simp
            refine hK.out _ _ trivial (fun hHeld => ?_)
            clear hK K
            refine wpAnyH_ready (rs := [1]) (by kernel_rfl) (by simp) ?_
            refine AllReadyH.cons rfl (fun K hK => ?_) AllReadyH.nil
            go_simp
            refine hK.out _ _ trivial (fun hHeld => ?_)
            clear hK K
            refine wpAnyH_ready (rs := [4]) (by kernel_rfl) (by simp) ?_
            refine AllReadyH.cons rfl (fun K hK => ?_) AllReadyH.nil
            refine step_append_src rfl (.tmp 26) (.tmp 28) 24 rfl W0.heap.size 48 i0 _ 3 40 Try.underlying24 hi.out hz0.out hz1.out hz2.out rfl (by decide) (.slice va n vc) n (qs.flatMap pgLay.cells) rfl (World.ownsRow.alloc (ownP_row ((HO4.out.below (drew_below _)).below B5.out) HQL.out) _) (some ⟨w5.heap.size, 0, none⟩) 1 1 (pgLay.cells ⟨true, true, none, 0, 0, []⟩) rfl rfl (fun h => by cases h) (fun q hq => by cases hq; exact World.news_of_block (cs := #[.bool true, .bool true, .slice none 0 0]) (t := 48) (fr := (0, 0)) (heap_alloc_new w5 _)) (pgLay.one _) (by unfold maxLen; omega) (by omega) (by have := L5.out.1; simp; omega) ?_
            intro v6 w6 o6 g6
            obtain ⟨a6, c6, rfl⟩ := owns_shape o6
            have L6 : Hid (Loc w6 w3.heap.size #[.int .i64 root, .slice va n vc]) := Lib.hid ((L5.out.alloc _).grown g6 (fun j hj => TG4.out.ne HO4.out.row (by decide) j hj))
            have j6 := L6.out.2.1
            have e6 := L6.out.2.2
            have G6 := Lib.hid g6
            have O6 := Lib.hid o6
            clear o6 g6
            refine hK.out _ _ trivial (fun hHeld => ?_)
            clear hK K
            refine wpAnyH_take (i := 5) (v := ?v5_3) rfl (by kernel_rfl) (by kernel_rfl) (by kernel_rfl) (fun _ _ _ h => h) (Or.inl ⟨by rfl, ?hy5_3⟩) (by assumption) ?rest5_3
            case hy5_3 => intro w hSw; go_simp; (try with_reducible rfl)
            simp only [List.getElem_toArray, List.getElem_cons_zero, List.getElem_cons_succ, Act.put, List.setIfInBounds_toArray, List.set_cons_zero, List.set_cons_succ]
            refine wpAnyH_ready (rs := [6]) (by kernel_rfl) (by simp) ?_
            refine AllReadyH.cons rfl (fun K hK => ?_) AllReadyH.nil
            go_simp
            refine hK.out _ _ trivial (fun hHeld => ?_)
            clear hK K
            refine wpAnyH_done (by kernel_rfl) ?_ _
            refine NoPanic.normal ?_
            clear hHeld
            have RR := Lib.hid (alloc_more hsz.out KR4.out TG4.out HO4.out HQL.out HQ.out HB4.out B5.out O6.out G6.out L6.out)
            clear O6 G6 L5
            go_wp2_with fail
            go_meet
            exact ⟨a6, c6, _, RR.out⟩
      case rest =>
        obtain ⟨a6, c6, rs, KR6, KG6, HO6, HM6, HB6⟩ := hcut
        clear g0 fg r0 fr hRl hGl c1 KG4 KR4 HO4 HB4
        obtain ⟨hG6, x0, fx⟩ := KG6.out
        obtain ⟨hR6, y0, fy⟩ := KR6.out
        have hsz2 := hsz.out
        clear hsz2
        go_wp2_with fail
        go_region
        all_goals
          go_wp2
          refine bodyPost_ret (v := .tuple #[.agg #[.int .i64 root, .slice a6 (n + 1) c6], .int .i64 n]) (by simp [results, Try.results12, go_sem, y0]) rfl ?_
          exact bookI_drew (bookI_end HO6.out (by rw [hv.out]; exact HM6.out) (by rw [hv.out]) HB6.out (by omega) (by omega) (by omega))
end Go.Proofs.Ytfefggcfeppeiaa
