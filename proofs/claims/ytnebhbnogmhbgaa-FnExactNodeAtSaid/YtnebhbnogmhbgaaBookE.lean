/- The model's copy of a book. -/
import Derived.Test.YtnebhbnogmhbgaaBookD
import Derived.Deep.DeepCutAuto
import Derived.Deep.RegionHeld3
namespace Go.Proofs.Ytnebhbnogmhbgaa
open Go.RowKit

theorem own_ne {v : Value} {g : Nat} (h : ∀ k, v.ownBlock = some k → k ≠ g) : v.ownBlock = none ∨ v.ownBlock ≠ some g := by
  cases hv : v.ownBlock with
  | none => exact .inl rfl
  | some k => exact .inr (fun e => h k hv (Option.some.inj e))
theorem ownP_row {w : World} {base n : Nat} {v : Value} {ps : List PgV} (h : OwnP w base v ps) (hl : ps.length = n) : w.ownsRow base 48 3 v n (ps.flatMap pgLay.cells) := by
  subst hl
  exact h.row

theorem len_more {qs : List PgV} {k : Nat} {p : PgV} (h : Hid (qs.length = k)) : Hid ((qs ++ [p]).length = k + 1) := by
  show (qs ++ [p]).length = k + 1
  rw [List.length_append, h.out]
  rfl

theorem copy_round {w wr w4 w5 : World} {G k : Nat} {root : Int} {a a4 a5 : Option Addr} {n cap c4 c5 vc : Nat} {va : Option Addr} {qs ps : List PgV} {p : PgV} (hGl : G < wr.heap.size) (hG2 : w.heap.size + 2 < G)
    (KA : Loc wr w.heap.size #[.int .i64 root, .slice a n cap]) (KR : Loc wr (w.heap.size + 1) #[.int .i64 0, .slice none 0 0]) (TG : TagT 26 wr G) (HO : OwnP wr (w.heap.size + 2) (.slice va k vc) qs) (HQ : qs.length = k) (HP : ps[k]? = some p)
    (HT : qs.map PgV.pg = (ps.take k).map PgV.pg) (HB : Below w.heap.size w wr) (B4 : Below wr.drew.heap.size wr.drew w4) (O4 : OwnS itLay 91 w4 wr.drew.heap.size (.slice a4 p.xs.length c4) p.xs)
    (O5 : w5.ownsRow (w.heap.size + 2) 48 3 (.slice a5 (k + 1) c5) (k + 1) (qs.flatMap pgLay.cells ++ pgLay.cells ⟨p.used, p.leaf, a4, p.xs.length, c4, p.xs⟩)) (G5 : (w4.alloc (.cells #[.bool p.used, .bool p.leaf, .slice a4 p.xs.length c4] 48)).grownBy w5 (Value.slice va k vc).ownBlock) (L5 : Loc w5 G #[.int .i64 root, .slice va k vc]) :
    Hid (Loc (w5.setCell ⟨G, 1, none⟩ (.slice a5 (k + 1) c5)) w.heap.size #[.int .i64 root, .slice a n cap]) ∧ Hid (Loc (w5.setCell ⟨G, 1, none⟩ (.slice a5 (k + 1) c5)) (w.heap.size + 1) #[.int .i64 0, .slice none 0 0]) ∧ Hid (Loc (w5.setCell ⟨G, 1, none⟩ (.slice a5 (k + 1) c5)) G #[.int .i64 root, .slice a5 (k + 1) c5]) ∧
      Hid (TagT 26 (w5.setCell ⟨G, 1, none⟩ (.slice a5 (k + 1) c5)) G) ∧ Hid (OwnP (w5.setCell ⟨G, 1, none⟩ (.slice a5 (k + 1) c5)) (w.heap.size + 2) (.slice a5 (k + 1) c5) (qs ++ [(⟨p.used, p.leaf, a4, p.xs.length, c4, p.xs⟩ : PgV)])) ∧
      Hid ((qs ++ [(⟨p.used, p.leaf, a4, p.xs.length, c4, p.xs⟩ : PgV)]).map PgV.pg = (ps.take (k + 1)).map PgV.pg) ∧ Hid (Below w.heap.size w (w5.setCell ⟨G, 1, none⟩ (.slice a5 (k + 1) c5))) := by
  have E4 : OwnS itLay 91 w4 (w.heap.size + 2) (.slice a4 p.xs.length c4) p.xs := O4.mono (show w.heap.size + 2 ≤ wr.heap.size by omega)
  have P5 : OwnP w5 (w.heap.size + 2) (.slice a5 (k + 1) c5) (qs ++ [(⟨p.used, p.leaf, a4, p.xs.length, c4, p.xs⟩ : PgV)]) :=
    OwnP.snoc (w := wr.drew) (w1 := w4.alloc (.cells #[.bool p.used, .bool p.leaf, .slice a4 p.xs.length c4] 48)) (HO.below (drew_below _)) (B4.alloc B4.size _) (E4.below (new_below _ _)) (fun g hg => (World.ownsRow.lt O4 g hg).1) (by rw [HQ]; exact O5) G5
  have hrow : ∀ j, (Value.slice va k vc).ownBlock = some j → w.heap.size + 2 ≤ j ∧ j ≠ G := fun j hj => ⟨(World.ownsRow.lt HO.row j hj).1, TG.ne HO.row (by decide) j hj⟩
  have s4 := B4.size
  have e0 : wr.drew.heap.size = wr.heap.size := rfl
  have s5 := G5.size
  simp at s5
  have hbl : ∀ q, q < wr.heap.size → (q < w.heap.size + 2 ∨ q = G) → w5.heap[q]? = wr.heap[q]? := fun q hq hq' =>
    (G5.block q (by simp; omega) (fun e => by have := hrow q e.symm; omega)).trans ((Below.heap_alloc _ _ q (by omega)).trans (B4.block q hq))
  have T5 : TagT 26 w5 G := TG.of (hbl G hGl (.inr rfl))
  have hne1 := T5.ne P5.row (by decide)
  have hne2 : ∀ q ∈ qs ++ [(⟨p.used, p.leaf, a4, p.xs.length, c4, p.xs⟩ : PgV)], ∀ g, q.sl.ownBlock = some g → g ≠ G := fun q hq => T5.ne (P5.ent q hq) (by decide)
  have hG := grown_setCell (World.grownBy.refl w5 (some G)) G 1 (.slice a5 (k + 1) c5) rfl
  refine ⟨Lib.hid ((KA.of (by omega) (hbl _ (by omega) (.inl (by omega)))).other 1 _ (by omega)), Lib.hid ((KR.of (by omega) (hbl _ (by omega) (.inl (by omega)))).other 1 _ (by omega)), Lib.hid (L5.set 1 (.slice a5 (k + 1) c5) (by show 1 < 2; decide)), Lib.hid (TagT.set T5 G 1 (.slice a5 (k + 1) c5)),
    Lib.hid ⟨OwnS.kept P5.row hG (own_ne hne1), fun q hq => OwnS.kept (P5.ent q hq) hG (own_ne (hne2 q hq)), P5.out, P5.pair⟩, Lib.hid ?_, Lib.hid ?_⟩
  · rw [List.map_append, HT, List.take_add_one, HP, List.map_append]
    rfl
  · exact ((((HB.drew).trans (B4.mono (show w.heap.size ≤ wr.heap.size by omega))).alloc (by omega) (.cells #[.bool p.used, .bool p.leaf, .slice a4 p.xs.length c4] 48)).grown G5 (by simp; omega) (fun j hj => by have := (hrow j hj).1; omega)).setCell (p := ⟨G, 1, none⟩) (show w.heap.size ≤ G by omega) _

set_option maxRecDepth 100000 in
set_option maxHeartbeats 3200000 in
theorem l7Copy_any (root : Int) (a : Option Addr) (n cap : Nat) (ps : List PgV) (w : World) (h : RdP w a n cap ps) (hn : n ≤ 1099511627776) (hps : ∀ p ∈ ps, p.n ≤ 1099511627776) :
    Calls Try.prog 60 #[.agg #[.int .i64 root, .slice a n cap]] w (NewBook root (ps.map PgV.pg) w) := by
  obtain ⟨i0, hi, hz0, hz1, hz2⟩ := info_parts Try.infoPage
  replace hi := Lib.hid hi
  replace hz0 := Lib.hid hz0
  replace hz1 := Lib.hid hz1
  replace hz2 := Lib.hid hz2
  have hnc := h.1.1.2.1
  have hm := h.1.1.2.2.1
  unfold maxLen at hm
  have HR := Lib.hid h
  have HL := Lib.hid h.1.1.1
  have HN := Lib.hid hps
  obtain ⟨W0, hW0⟩ : ∃ W0, W0 = ((w.alloc (.cells #[.int .i64 root, .slice a n cap] 26)).alloc (.cells #[.int .i64 0, .slice none 0 0] 26)).alloc (.cells #[] 48) := ⟨_, rfl⟩
  have hs0 : W0.heap.size = w.heap.size + 1 + 1 + 1 := by subst hW0; simp
  have B0 : Below w.heap.size w W0 := by subst hW0; exact (((Below.refl _ _).alloc (Nat.le_refl _) _).alloc (by simp) _).alloc (by simp; omega) _
  have KA : Loc W0 w.heap.size #[.int .i64 root, .slice a n cap] := by subst hW0; exact ((Loc.new w _ _).alloc _).alloc _
  have KR : Loc W0 (w.heap.size + 1) #[.int .i64 0, .slice none 0 0] := by
    subst hW0
    have := (Loc.new (w.alloc (.cells #[.int .i64 root, .slice a n cap] 26)) #[.int .i64 0, .slice none 0 0] 26).alloc (.cells #[] 48)
    rw [show (w.alloc (.cells #[.int .i64 root, .slice a n cap] 26)).heap.size = w.heap.size + 1 by simp] at this
    exact this
  have OP : OwnP W0 (w.heap.size + 2) (.slice (some ⟨w.heap.size + 2, 0, none⟩) 0 0) [] := by
    subst hW0
    exact ⟨own_nil ((w.alloc (.cells #[.int .i64 root, .slice a n cap] 26)).alloc (.cells #[.int .i64 0, .slice none 0 0] 26)) 48 3 (w.heap.size + 2) (w.heap.size + 2) (by simp) (Nat.le_refl _), fun p hp => (by cases hp), fun p hp => (by cases hp), fun i j p q _ hp => (by simp at hp)⟩
  obtain ⟨G, hG⟩ : ∃ G, G = w.heap.size + 1 + 1 + 1 := ⟨_, rfl⟩
  have KG := Loc.new W0 #[.int .i64 root, .slice (some ⟨w.heap.size + 2, 0, none⟩) 0 0] 26
  have TG := TagT.new 26 W0 #[.int .i64 root, .slice (some ⟨w.heap.size + 2, 0, none⟩) 0 0]
  rw [hs0, ← hG] at KG TG
  replace KA := Lib.hid (KA.alloc (.cells #[.int .i64 root, .slice (some ⟨w.heap.size + 2, 0, none⟩) 0 0] 26))
  replace KR := Lib.hid (KR.alloc (.cells #[.int .i64 root, .slice (some ⟨w.heap.size + 2, 0, none⟩) 0 0] 26))
  replace KG := Lib.hid KG
  replace TG := Lib.hid TG
  have HO := Lib.hid (OP.below (new_below W0 (.cells #[.int .i64 root, .slice (some ⟨w.heap.size + 2, 0, none⟩) 0 0] 26)))
  replace B0 := Lib.hid (B0.alloc (by omega) (.cells #[.int .i64 root, .slice (some ⟨w.heap.size + 2, 0, none⟩) 0 0] 26))
  clear h hps OP
  go_enter Try.func60, Try.ntmps60
  go_wp2
  rw [← hW0, ← hG]
  clear hW0
  have hG2 : w.heap.size + 2 < G := by omega
  replace hG := Lib.hid hG
  go_loopw [4] (fun i wr => ∃ (k : Nat) (va : Option Addr) (vc : Nat) (qs : List PgV), k ≤ n ∧ i = .int .i64 (k : Int) ∧ Hid (qs.length = k) ∧ Hid (Loc wr w.heap.size #[.int .i64 root, .slice a n cap]) ∧ Hid (Loc wr (w.heap.size + 1) #[.int .i64 0, .slice none 0 0]) ∧ Hid (Loc wr G #[.int .i64 root, .slice va k vc]) ∧ Hid (TagT 26 wr G) ∧ Hid (OwnP wr (w.heap.size + 2) (.slice va k vc) qs) ∧ Hid (qs.map PgV.pg = (ps.take k).map PgV.pg) ∧ Hid (Below w.heap.size w wr)) (fun i _ => n - (intOf i).toNat)
  case atStart => exact ⟨0, _, _, [], Nat.zero_le _, rfl, Lib.hid rfl, KA, KR, KG, TG, HO, Lib.hid rfl, B0⟩
  case round =>
    clear KA KR KG TG HO B0
    obtain ⟨k, va, vc, qs, hk, rfl, HQ, KA, KR, KG, TG, HO, HT, HB⟩ := hrel
    obtain ⟨hA, k0, f0⟩ := KA.out
    obtain ⟨hGl, j0, g0⟩ := KG.out
    by_cases hlt : k < n
    · obtain ⟨b, off, p, rfl, hbl, hp, hrd, d0, d1, d2⟩ := rdP_at (HR.out.below HB.out) hlt
      have hbw : b < w.heap.size := HR.out.1.lt (by omega) rfl
      have HP := Lib.hid hp
      have hpn := HN.out p (List.mem_of_getElem? hp)
      have HRD := Lib.hid hrd
      have z0 : (0 : Int) ≤ k := by omega
      have z1 : (k : Int) < n := by omega
      have c1 := j0 1
      simp at c1
      have a1 := k0 1
      simp at a1
      have hq2 : w.heap.size < w.heap.size + 1 := Nat.lt_succ_self _
      have hbw2 : b < w.heap.size + 1 := by omega
      have KB := Lib.hid (show ∀ V : World, (∀ q o, q < w.heap.size + 1 → V.cell? ⟨q, o, none⟩ = wr.cell? ⟨q, o, none⟩) → V.cell? ⟨w.heap.size, 1, none⟩ = some (.slice (some ⟨b, off, none⟩) n cap) ∧ V.cell? ⟨b, off + k * 3, none⟩ = some (.bool p.used) ∧ V.cell? ⟨b, off + k * 3 + 1, none⟩ = some (.bool p.leaf) ∧ V.cell? ⟨b, off + k * 3 + 1 + 1, none⟩ = some (.slice p.a p.n p.cap) from fun V hV =>
        ⟨(hV _ _ (by omega)).trans a1, (hV _ _ (by omega)).trans d0, (hV _ _ (by omega)).trans d1, (hV _ _ (by omega)).trans d2⟩)
      have CC := Lib.hid (l5Copy_any p.leaf p.a p.n p.cap p.xs wr.drew (hrd.below (drew_below _)) hpn)
      have OL := Lib.hid (ownP_len HO.out)
      clear hp hrd
      go_upto_region 5 with (fail)
      refine wp_last ?_
      intro KK hKK
      go_cut [] (fun wx => ∃ (a5 : Option Addr) (c5 : Nat) (rs : List PgV), Hid (rs.length = k + 1) ∧ Hid (Loc wx w.heap.size #[.int .i64 root, .slice (some ⟨b, off, none⟩) n cap]) ∧ Hid (Loc wx (w.heap.size + 1) #[.int .i64 0, .slice none 0 0]) ∧ Hid (Loc wx G #[.int .i64 root, .slice a5 (k + 1) c5]) ∧ Hid (TagT 26 wx G) ∧ Hid (OwnP wx (w.heap.size + 2) (.slice a5 (k + 1) c5) rs) ∧ Hid (rs.map PgV.pg = (ps.take (k + 1)).map PgV.pg) ∧ Hid (Below w.heap.size w wx))
      case first => as_aux_lemma =>
        refine wp_region_noPanic ?_
        refine wp_region_held_drew (S := fun V => V.cell? ⟨w.heap.size, 1, none⟩ = some (.slice (some ⟨b, off, none⟩) n cap) ∧ V.cell? ⟨b, off + k * 3, none⟩ = some (.bool p.used) ∧ V.cell? ⟨b, off + k * 3 + 1, none⟩ = some (.bool p.leaf) ∧ V.cell? ⟨b, off + k * 3 + 1 + 1, none⟩ = some (.slice p.a p.n p.cap)) (by kernel_rfl) (KB.out _ (fun _ _ _ => rfl)) (fun hHeld => ?_)
        refine wpAnyH_take (i := 0) (v := ?v0_6) rfl (by kernel_rfl) (by kernel_rfl) (by kernel_rfl) (fun _ _ _ h => h) (Or.inl ⟨by rfl, ?hy0_6⟩) (by assumption) ?rest0_6
        case hy0_6 => intro w hSw; (try dsimp only at hSw); go_simp; (try with_reducible rfl)
        simp only [List.getElem_toArray, List.getElem_cons_zero, Act.put, List.setIfInBounds_toArray, List.set_cons_zero, List.set_cons_succ]
        refine wpAnyH_take (i := 2) (v := ?v2_7) rfl (by kernel_rfl) (by kernel_rfl) (by kernel_rfl) (fun _ _ _ h => h) (Or.inl ⟨by rfl, ?hy2_7⟩) (by assumption) ?rest2_7
        case hy2_7 => intro w hSw; (try dsimp only at hSw); go_simp; (try with_reducible rfl)
        simp only [List.getElem_toArray, List.getElem_cons_zero, List.getElem_cons_succ, Act.put, List.setIfInBounds_toArray, List.set_cons_zero, List.set_cons_succ]
        refine wpAnyH_take (i := 3) (v := ?v3_8) rfl (by kernel_rfl) (by kernel_rfl) (by kernel_rfl) (fun _ _ _ h => h) (Or.inl ⟨by rfl, ?hy3_8⟩) (by assumption) ?rest3_8
        case hy3_8 => intro w hSw; (try dsimp only at hSw); go_simp; (try with_reducible rfl)
        simp only [List.getElem_toArray, List.getElem_cons_zero, List.getElem_cons_succ, Act.put, List.setIfInBounds_toArray, List.set_cons_zero, List.set_cons_succ]
        refine wpAnyH_take (i := 4) (v := ?v4_9) rfl (by kernel_rfl) (by kernel_rfl) (by kernel_rfl) (fun _ _ _ h => h) (Or.inl ⟨by rfl, ?hy4_9⟩) (by assumption) ?rest4_9
        case hy4_9 => intro w hSw; (try dsimp only at hSw); go_simp; (try with_reducible rfl)
        simp only [List.getElem_toArray, List.getElem_cons_zero, List.getElem_cons_succ, Act.put, List.setIfInBounds_toArray, List.set_cons_zero, List.set_cons_succ]
        refine wpAnyH_take (i := 5) (v := ?v5_10) rfl (by kernel_rfl) (by kernel_rfl) (by kernel_rfl) (fun _ _ _ h => h) (Or.inl ⟨by rfl, ?hy5_10⟩) (by assumption) ?rest5_10
        case hy5_10 => intro w hSw; (try dsimp only at hSw); go_simp; (try with_reducible rfl)
        simp only [List.getElem_toArray, List.getElem_cons_zero, List.getElem_cons_succ, Act.put, List.setIfInBounds_toArray, List.set_cons_zero, List.set_cons_succ]
        refine wpAnyH_take (i := 6) (v := ?v6_11) rfl (by kernel_rfl) (by kernel_rfl) (by kernel_rfl) (fun _ _ _ h => h) (Or.inl ⟨by rfl, ?hy6_11⟩) (by assumption) ?rest6_11
        case hy6_11 => intro w hSw; (try dsimp only at hSw); go_simp; (try with_reducible rfl)
        simp only [List.getElem_toArray, List.getElem_cons_zero, List.getElem_cons_succ, Act.put, List.setIfInBounds_toArray, List.set_cons_zero, List.set_cons_succ]
        refine wpAnyH_take (i := 7) (v := ?v7_12) rfl (by kernel_rfl) (by kernel_rfl) (by kernel_rfl) (fun _ _ _ h => h) (Or.inl ⟨by rfl, ?hy7_12⟩) (by assumption) ?rest7_12
        case hy7_12 => intro w hSw; (try dsimp only at hSw); go_simp; (try with_reducible rfl)
        simp only [List.getElem_toArray, List.getElem_cons_zero, List.getElem_cons_succ, Act.put, List.setIfInBounds_toArray, List.set_cons_zero, List.set_cons_succ]
        refine wpAnyH_take (i := 8) (v := ?v8_13) rfl (by kernel_rfl) (by kernel_rfl) (by kernel_rfl) (fun _ _ _ h => h) (Or.inl ⟨by rfl, ?hy8_13⟩) (by assumption) ?rest8_13
        case hy8_13 => intro w hSw; (try dsimp only at hSw); go_simp; (try with_reducible rfl)
        simp only [List.getElem_toArray, List.getElem_cons_zero, List.getElem_cons_succ, Act.put, List.setIfInBounds_toArray, List.set_cons_zero, List.set_cons_succ]
        refine wpAnyH_take (i := 9) (v := ?v9_14) rfl (by kernel_rfl) (by kernel_rfl) (by kernel_rfl) (fun _ _ _ h => h) (Or.inl ⟨by rfl, ?hy9_14⟩) (by assumption) ?rest9_14
        case hy9_14 => intro w hSw; (try dsimp only at hSw); go_simp; (try with_reducible rfl)
        simp only [List.getElem_toArray, List.getElem_cons_zero, List.getElem_cons_succ, Act.put, List.setIfInBounds_toArray, List.set_cons_zero, List.set_cons_succ]
        refine wpAnyH_take (i := 10) (v := ?v10_15) rfl (by kernel_rfl) (by kernel_rfl) (by kernel_rfl) (fun _ _ _ h => h) (Or.inl ⟨by rfl, ?hy10_15⟩) (by assumption) ?rest10_15
        case hy10_15 => intro w hSw; (try dsimp only at hSw); go_simp; (try with_reducible rfl)
        simp only [List.getElem_toArray, List.getElem_cons_zero, List.getElem_cons_succ, Act.put, List.setIfInBounds_toArray, List.set_cons_zero, List.set_cons_succ]
        refine wpAnyH_take (i := 11) (v := ?v11_16) rfl (by kernel_rfl) (by kernel_rfl) (by kernel_rfl) (fun _ _ _ h => h) (Or.inl ⟨by rfl, ?hy11_16⟩) (by assumption) ?rest11_16
        case hy11_16 => intro w hSw; (try dsimp only at hSw); go_simp; (try with_reducible rfl)
        simp only [List.getElem_toArray, List.getElem_cons_zero, List.getElem_cons_succ, Act.put, List.setIfInBounds_toArray, List.set_cons_zero, List.set_cons_succ]
        refine wpAnyH_take (i := 12) (v := ?v12_17) rfl (by kernel_rfl) (by kernel_rfl) (by kernel_rfl) (fun _ _ _ h => h) (Or.inl ⟨by rfl, ?hy12_17⟩) (by assumption) ?rest12_17
        case hy12_17 => intro w hSw; (try dsimp only at hSw); go_simp; (try with_reducible rfl)
        simp only [List.getElem_toArray, List.getElem_cons_zero, List.getElem_cons_succ, Act.put, List.setIfInBounds_toArray, List.set_cons_zero, List.set_cons_succ]
        refine wpAnyH_take (i := 13) (v := ?v13_18) rfl (by kernel_rfl) (by kernel_rfl) (by kernel_rfl) (fun _ _ _ h => h) (Or.inl ⟨by rfl, ?hy13_18⟩) (by assumption) ?rest13_18
        case hy13_18 => intro w hSw; (try dsimp only at hSw); go_simp; (try with_reducible rfl)
        simp only [List.getElem_toArray, List.getElem_cons_zero, List.getElem_cons_succ, Act.put, List.setIfInBounds_toArray, List.set_cons_zero, List.set_cons_succ]
        refine wpAnyH_ready (rs := [1, 14]) (by kernel_rfl) (by simp) ?_
        refine AllReadyH.cons rfl (fun K hK => ?_) (AllReadyH.cons rfl (fun K hK => ?_) AllReadyH.nil)
        · go_simp
          refine hK.out _ _ (KB.out _ (fun _ _ _ => rfl)) (fun hHeld => ?_)
          clear hK K
          refine wpAnyH_ready (rs := [14]) (by kernel_rfl) (by simp) ?_
          refine AllReadyH.cons rfl (fun K hK => ?_) AllReadyH.nil
          go_simp
          refine CC.out.mono ?_
          rintro e w4 ⟨u4, rfl, o4, b4⟩
          obtain ⟨a4, c4, rfl, -⟩ := OwnS.rd o4
          have hk4 : Hid (∀ q o, q < w.heap.size + 1 → w4.cell? ⟨q, o, none⟩ = wr.cell? ⟨q, o, none⟩) := Lib.hid (fun q o hq => b4.cell (p := ⟨q, o, none⟩) (show q < wr.heap.size by omega))
          have L4 := Lib.hid ((KG.out.drew).below b4)
          have c4' := L4.out.2.1 1
          simp at c4'
          have l4 := (World.cell?_alloc_lt w4 (.cells #[.bool p.used, .bool p.leaf, .slice a4 p.xs.length c4] 48) ⟨G, 1, none⟩ L4.out.1).trans c4'
          have hk4a : Hid (∀ q o, q < w.heap.size + 1 → (w4.alloc (.cells #[.bool p.used, .bool p.leaf, .slice a4 p.xs.length c4] 48)).cell? ⟨q, o, none⟩ = wr.cell? ⟨q, o, none⟩) := Lib.hid (fun q o hq => (World.cell?_alloc_lt w4 _ ⟨q, o, none⟩ (show q < w4.heap.size by have := b4.size; have e : wr.drew.heap.size = wr.heap.size := rfl; omega)).trans (hk4.out q o hq))
          have B4 := Lib.hid b4
          have O4 := Lib.hid o4
          clear b4 o4
          refine hK.out _ _ (KB.out _ hk4.out) (fun hHeld => ?_)
          clear hK K
          refine wpAnyH_take (i := 15) (v := ?v15_1) rfl (by kernel_rfl) (by kernel_rfl) (by kernel_rfl) (fun _ _ _ h => h) (Or.inl ⟨by rfl, ?hy15_1⟩) (by assumption) ?rest15_1
          case hy15_1 => intro w hSw; (try dsimp only at hSw); go_simp; (try with_reducible rfl)
          simp only [List.getElem_toArray, List.getElem_cons_zero, List.getElem_cons_succ, Act.put, List.setIfInBounds_toArray, List.set_cons_zero, List.set_cons_succ]
          refine wpAnyH_ready (rs := [16]) (by kernel_rfl) (by simp) ?_
          refine AllReadyH.cons rfl (fun K hK => ?_) AllReadyH.nil
          go_simp
          refine hK.out _ _ (KB.out _ hk4a.out) (fun hHeld => ?_)
          clear hK K
          refine wpAnyH_ready (rs := [17]) (by kernel_rfl) (by simp) ?_
          refine AllReadyH.cons rfl (fun K hK => ?_) AllReadyH.nil
          refine step_append_src rfl (.tmp 17) (.tmp 32) 24 rfl (w.heap.size + 2) 48 i0 _ 3 40 Try.underlying24 hi.out hz0.out hz1.out hz2.out rfl (by decide) (.slice va k vc) k (qs.flatMap pgLay.cells) rfl (World.ownsRow.alloc (ownP_row ((HO.out.below (drew_below _)).below B4.out) HQ.out) _) (some ⟨w4.heap.size, 0, none⟩) 1 1 (pgLay.cells ⟨p.used, p.leaf, a4, p.xs.length, c4, p.xs⟩) rfl rfl (fun h => by cases h) (fun q hq => by cases hq; exact World.news_of_block (cs := #[.bool p.used, .bool p.leaf, .slice a4 p.xs.length c4]) (t := 48) (fr := (0, 0)) (heap_alloc_new w4 _)) (pgLay.one _) (by unfold maxLen; omega) (by omega) (by have := L4.out.1; simp; omega) ?_
          intro v5 w5 o5 g5
          obtain ⟨a5, c5, rfl⟩ := owns_shape o5
          have hrow : ∀ j, (Value.slice va k vc).ownBlock = some j → w.heap.size + 2 ≤ j := fun j hj => (World.ownsRow.lt HO.out.row j hj).1
          have hk5 : Hid (∀ q o, q < w.heap.size + 1 → w5.cell? ⟨q, o, none⟩ = wr.cell? ⟨q, o, none⟩) := Lib.hid (fun q o hq => (World.cell?_of_block (a := ⟨q, o, none⟩) (g5.block q (by have := L4.out.1; simp; omega) (fun e => by have := hrow q e.symm; omega))).trans (hk4a.out q o hq))
          have L5 : Hid (Loc w5 G #[.int .i64 root, .slice va k vc]) := Lib.hid ((L4.out.alloc _).grown g5 (fun j hj => TG.out.ne HO.out.row (by decide) j hj))
          have hk6 : Hid (∀ q o, q < w.heap.size + 1 → (w5.setCell ⟨G, 1, none⟩ (.slice a5 (k + 1) c5)).cell? ⟨q, o, none⟩ = wr.cell? ⟨q, o, none⟩) := Lib.hid (fun q o hq => (World.cell?_setCell_other _ _ _ _ (by intro e; simp only [Addr.mk.injEq] at e; omega)).trans (hk5.out q o hq))
          have j5 := L5.out.2.1
          have e5 := L5.out.2.2
          have G5 := Lib.hid g5
          have O5 := Lib.hid o5
          clear o5 g5
          refine hK.out _ _ (KB.out _ hk5.out) (fun hHeld => ?_)
          clear hK K
          refine wpAnyH_take (i := 18) (v := ?v18_2) rfl (by kernel_rfl) (by kernel_rfl) (by kernel_rfl) (fun _ _ _ h => h) (Or.inl ⟨by rfl, ?hy18_2⟩) (by assumption) ?rest18_2
          case hy18_2 => intro w hSw; (try dsimp only at hSw); go_simp; (try with_reducible rfl)
          simp only [List.getElem_toArray, List.getElem_cons_zero, List.getElem_cons_succ, Act.put, List.setIfInBounds_toArray, List.set_cons_zero, List.set_cons_succ]
          refine wpAnyH_ready (rs := [19]) (by kernel_rfl) (by simp) ?_
          refine AllReadyH.cons rfl (fun K hK => ?_) AllReadyH.nil
          go_simp
          refine hK.out _ _ (KB.out _ hk6.out) (fun hHeld => ?_)
          clear hK K
          refine wpAnyH_done (by kernel_rfl) ?_ _
          refine NoPanic.normal ?_
          clear hHeld
          have RR := Lib.hid (copy_round hGl hG2 KA.out KR.out TG.out HO.out HQ.out HP.out HT.out HB.out B4.out O4.out O5.out G5.out L5.out)
          clear O5 G5 L4
          go_wp2_with fail
          go_meet
          exact ⟨a5, c5, _, len_more HQ, RR.out⟩
        · go_simp
          refine CC.out.mono ?_
          rintro e w4 ⟨u4, rfl, o4, b4⟩
          obtain ⟨a4, c4, rfl, -⟩ := OwnS.rd o4
          have hk4 : Hid (∀ q o, q < w.heap.size + 1 → w4.cell? ⟨q, o, none⟩ = wr.cell? ⟨q, o, none⟩) := Lib.hid (fun q o hq => b4.cell (p := ⟨q, o, none⟩) (show q < wr.heap.size by omega))
          have L4 := Lib.hid ((KG.out.drew).below b4)
          have c4' := L4.out.2.1 1
          simp at c4'
          have l4 := (World.cell?_alloc_lt w4 (.cells #[.bool p.used, .bool p.leaf, .slice a4 p.xs.length c4] 48) ⟨G, 1, none⟩ L4.out.1).trans c4'
          have hk4a : Hid (∀ q o, q < w.heap.size + 1 → (w4.alloc (.cells #[.bool p.used, .bool p.leaf, .slice a4 p.xs.length c4] 48)).cell? ⟨q, o, none⟩ = wr.cell? ⟨q, o, none⟩) := Lib.hid (fun q o hq => (World.cell?_alloc_lt w4 _ ⟨q, o, none⟩ (show q < w4.heap.size by have := b4.size; have e : wr.drew.heap.size = wr.heap.size := rfl; omega)).trans (hk4.out q o hq))
          have B4 := Lib.hid b4
          have O4 := Lib.hid o4
          clear b4 o4
          refine hK.out _ _ (KB.out _ hk4.out) (fun hHeld => ?_)
          clear hK K
          refine wpAnyH_take (i := 15) (v := ?v15_5) rfl (by kernel_rfl) (by kernel_rfl) (by kernel_rfl) (fun _ _ _ h => h) (Or.inl ⟨by rfl, ?hy15_5⟩) (by assumption) ?rest15_5
          case hy15_5 => intro w hSw; (try dsimp only at hSw); go_simp; (try with_reducible rfl)
          simp only [List.getElem_toArray, List.getElem_cons_zero, List.getElem_cons_succ, Act.put, List.setIfInBounds_toArray, List.set_cons_zero, List.set_cons_succ]
          refine wpAnyH_ready (rs := [1, 16]) (by kernel_rfl) (by simp) ?_
          refine AllReadyH.cons rfl (fun K hK => ?_) (AllReadyH.cons rfl (fun K hK => ?_) AllReadyH.nil)
          · go_simp
            refine hK.out _ _ (KB.out _ hk4.out) (fun hHeld => ?_)
            clear hK K
            refine wpAnyH_ready (rs := [16]) (by kernel_rfl) (by simp) ?_
            refine AllReadyH.cons rfl (fun K hK => ?_) AllReadyH.nil
            go_simp
            refine hK.out _ _ (KB.out _ hk4a.out) (fun hHeld => ?_)
            clear hK K
            refine wpAnyH_ready (rs := [17]) (by kernel_rfl) (by simp) ?_
            refine AllReadyH.cons rfl (fun K hK => ?_) AllReadyH.nil
            refine step_append_src rfl (.tmp 17) (.tmp 32) 24 rfl (w.heap.size + 2) 48 i0 _ 3 40 Try.underlying24 hi.out hz0.out hz1.out hz2.out rfl (by decide) (.slice va k vc) k (qs.flatMap pgLay.cells) rfl (World.ownsRow.alloc (ownP_row ((HO.out.below (drew_below _)).below B4.out) HQ.out) _) (some ⟨w4.heap.size, 0, none⟩) 1 1 (pgLay.cells ⟨p.used, p.leaf, a4, p.xs.length, c4, p.xs⟩) rfl rfl (fun h => by cases h) (fun q hq => by cases hq; exact World.news_of_block (cs := #[.bool p.used, .bool p.leaf, .slice a4 p.xs.length c4]) (t := 48) (fr := (0, 0)) (heap_alloc_new w4 _)) (pgLay.one _) (by unfold maxLen; omega) (by omega) (by have := L4.out.1; simp; omega) ?_
            intro v5 w5 o5 g5
            obtain ⟨a5, c5, rfl⟩ := owns_shape o5
            have hrow : ∀ j, (Value.slice va k vc).ownBlock = some j → w.heap.size + 2 ≤ j := fun j hj => (World.ownsRow.lt HO.out.row j hj).1
            have hk5 : Hid (∀ q o, q < w.heap.size + 1 → w5.cell? ⟨q, o, none⟩ = wr.cell? ⟨q, o, none⟩) := Lib.hid (fun q o hq => (World.cell?_of_block (a := ⟨q, o, none⟩) (g5.block q (by have := L4.out.1; simp; omega) (fun e => by have := hrow q e.symm; omega))).trans (hk4a.out q o hq))
            have L5 : Hid (Loc w5 G #[.int .i64 root, .slice va k vc]) := Lib.hid ((L4.out.alloc _).grown g5 (fun j hj => TG.out.ne HO.out.row (by decide) j hj))
            have hk6 : Hid (∀ q o, q < w.heap.size + 1 → (w5.setCell ⟨G, 1, none⟩ (.slice a5 (k + 1) c5)).cell? ⟨q, o, none⟩ = wr.cell? ⟨q, o, none⟩) := Lib.hid (fun q o hq => (World.cell?_setCell_other _ _ _ _ (by intro e; simp only [Addr.mk.injEq] at e; omega)).trans (hk5.out q o hq))
            have j5 := L5.out.2.1
            have e5 := L5.out.2.2
            have G5 := Lib.hid g5
            have O5 := Lib.hid o5
            clear o5 g5
            refine hK.out _ _ (KB.out _ hk5.out) (fun hHeld => ?_)
            clear hK K
            refine wpAnyH_take (i := 18) (v := ?v18_3) rfl (by kernel_rfl) (by kernel_rfl) (by kernel_rfl) (fun _ _ _ h => h) (Or.inl ⟨by rfl, ?hy18_3⟩) (by assumption) ?rest18_3
            case hy18_3 => intro w hSw; (try dsimp only at hSw); go_simp; (try with_reducible rfl)
            simp only [List.getElem_toArray, List.getElem_cons_zero, List.getElem_cons_succ, Act.put, List.setIfInBounds_toArray, List.set_cons_zero, List.set_cons_succ]
            refine wpAnyH_ready (rs := [19]) (by kernel_rfl) (by simp) ?_
            refine AllReadyH.cons rfl (fun K hK => ?_) AllReadyH.nil
            go_simp
            refine hK.out _ _ (KB.out _ hk6.out) (fun hHeld => ?_)
            clear hK K
            refine wpAnyH_done (by kernel_rfl) ?_ _
            refine NoPanic.normal ?_
            clear hHeld
            have RR := Lib.hid (copy_round hGl hG2 KA.out KR.out TG.out HO.out HQ.out HP.out HT.out HB.out B4.out O4.out O5.out G5.out L5.out)
            clear O5 G5 L4
            go_wp2_with fail
            go_meet
            exact ⟨a5, c5, _, len_more HQ, RR.out⟩
          · go_simp
            refine hK.out _ _ (KB.out _ hk4a.out) (fun hHeld => ?_)
            clear hK K
            refine wpAnyH_ready (rs := [1]) (by kernel_rfl) (by simp) ?_
            refine AllReadyH.cons rfl (fun K hK => ?_) AllReadyH.nil
            go_simp
            refine hK.out _ _ (KB.out _ hk4a.out) (fun hHeld => ?_)
            clear hK K
            refine wpAnyH_ready (rs := [17]) (by kernel_rfl) (by simp) ?_
            refine AllReadyH.cons rfl (fun K hK => ?_) AllReadyH.nil
            refine step_append_src rfl (.tmp 17) (.tmp 32) 24 rfl (w.heap.size + 2) 48 i0 _ 3 40 Try.underlying24 hi.out hz0.out hz1.out hz2.out rfl (by decide) (.slice va k vc) k (qs.flatMap pgLay.cells) rfl (World.ownsRow.alloc (ownP_row ((HO.out.below (drew_below _)).below B4.out) HQ.out) _) (some ⟨w4.heap.size, 0, none⟩) 1 1 (pgLay.cells ⟨p.used, p.leaf, a4, p.xs.length, c4, p.xs⟩) rfl rfl (fun h => by cases h) (fun q hq => by cases hq; exact World.news_of_block (cs := #[.bool p.used, .bool p.leaf, .slice a4 p.xs.length c4]) (t := 48) (fr := (0, 0)) (heap_alloc_new w4 _)) (pgLay.one _) (by unfold maxLen; omega) (by omega) (by have := L4.out.1; simp; omega) ?_
            intro v5 w5 o5 g5
            obtain ⟨a5, c5, rfl⟩ := owns_shape o5
            have hrow : ∀ j, (Value.slice va k vc).ownBlock = some j → w.heap.size + 2 ≤ j := fun j hj => (World.ownsRow.lt HO.out.row j hj).1
            have hk5 : Hid (∀ q o, q < w.heap.size + 1 → w5.cell? ⟨q, o, none⟩ = wr.cell? ⟨q, o, none⟩) := Lib.hid (fun q o hq => (World.cell?_of_block (a := ⟨q, o, none⟩) (g5.block q (by have := L4.out.1; simp; omega) (fun e => by have := hrow q e.symm; omega))).trans (hk4a.out q o hq))
            have L5 : Hid (Loc w5 G #[.int .i64 root, .slice va k vc]) := Lib.hid ((L4.out.alloc _).grown g5 (fun j hj => TG.out.ne HO.out.row (by decide) j hj))
            have hk6 : Hid (∀ q o, q < w.heap.size + 1 → (w5.setCell ⟨G, 1, none⟩ (.slice a5 (k + 1) c5)).cell? ⟨q, o, none⟩ = wr.cell? ⟨q, o, none⟩) := Lib.hid (fun q o hq => (World.cell?_setCell_other _ _ _ _ (by intro e; simp only [Addr.mk.injEq] at e; omega)).trans (hk5.out q o hq))
            have j5 := L5.out.2.1
            have e5 := L5.out.2.2
            have G5 := Lib.hid g5
            have O5 := Lib.hid o5
            clear o5 g5
            refine hK.out _ _ (KB.out _ hk5.out) (fun hHeld => ?_)
            clear hK K
            refine wpAnyH_take (i := 18) (v := ?v18_4) rfl (by kernel_rfl) (by kernel_rfl) (by kernel_rfl) (fun _ _ _ h => h) (Or.inl ⟨by rfl, ?hy18_4⟩) (by assumption) ?rest18_4
            case hy18_4 => intro w hSw; (try dsimp only at hSw); go_simp; (try with_reducible rfl)
            simp only [List.getElem_toArray, List.getElem_cons_zero, List.getElem_cons_succ, Act.put, List.setIfInBounds_toArray, List.set_cons_zero, List.set_cons_succ]
            refine wpAnyH_ready (rs := [19]) (by kernel_rfl) (by simp) ?_
            refine AllReadyH.cons rfl (fun K hK => ?_) AllReadyH.nil
            go_simp
            refine hK.out _ _ (KB.out _ hk6.out) (fun hHeld => ?_)
            clear hK K
            refine wpAnyH_done (by kernel_rfl) ?_ _
            refine NoPanic.normal ?_
            clear hHeld
            have RR := Lib.hid (copy_round hGl hG2 KA.out KR.out TG.out HO.out HQ.out HP.out HT.out HB.out B4.out O4.out O5.out G5.out L5.out)
            clear O5 G5 L4
            go_wp2_with fail
            go_meet
            exact ⟨a5, c5, _, len_more HQ, RR.out⟩
      case rest =>
        obtain ⟨a5, c5, rs, hr⟩ := hcut
        refine hKK _ _ ?_
        go_wp2
        go_roundw
        case rel => exact ⟨k + 1, a5, c5, rs, by omega, by go_num, hr⟩
        case measure => simp [intOf]; omega
    · obtain rfl : k = n := by omega
      have HF : Hid (qs.map PgV.pg = ps.map PgV.pg) := by
        have := HT.out
        rw [List.take_of_length_le (by rw [HL.out]; exact Nat.le_refl _)] at this
        exact Lib.hid this
      obtain ⟨hRl, r0, e0⟩ := KR.out
      have hRG : w.heap.size + 1 ≠ G := by omega
      go_wp2
      refine bodyPost_ret (v := .agg #[.int .i64 root, .slice va k vc]) (by simp [results, Try.results60, go_sem, r0]) rfl ⟨_, qs, rfl, HF.out, ?_, ?_⟩
      · refine OwnP.mono (base' := w.heap.size + 2) ?_ (by omega)
        refine HO.out.frame _ _ (fun j h1 h2 => ?_) HO.out
        rw [Below.heap_setCell _ _ _ _ (by intro e; simp at e; omega), Below.heap_setCell _ _ _ _ (by intro e; simp at e; omega)]
      · exact (HB.out.setCell (p := ⟨w.heap.size + 1, 0, none⟩) (show w.heap.size ≤ w.heap.size + 1 by omega) _).setCell (p := ⟨w.heap.size + 1, 1, none⟩) (show w.heap.size ≤ w.heap.size + 1 by omega) _
end Go.Proofs.Ytnebhbnogmhbgaa
