/- The model's draw of a node, good or bad: l5Any. -/
import Derived.Test.YtfefggcfeppeiaaGreatDrawNode3ZLooks
namespace Go.Proofs.YtfefggcfeppeiaaGreat
open Go.RowKit
attribute [local go_sem ↓] Go.wp_at_zero Go.wp_at_succ

set_option maxHeartbeats 6400000 in
set_option maxRecDepth 100000 in
theorem l5Any_any (g : Nat) (zs : List Int) (w : World) (h : Cur g zs w) :
    Calls Tryz.prog 54 #[.pointer (some ⟨g, 0, none⟩)] w (DrawnNode g zs 8 w) := by
  obtain ⟨i0, hi, hz0, hz1, hz2⟩ := info_parts Tryz.infoEntry
  replace hi := Lib.hid hi
  replace hz0 := Lib.hid hz0
  replace hz1 := Lib.hid hz1
  replace hz2 := Lib.hid hz2
  have hlt := cur_lt h
  have K := Lib.hid (Loc.new w #[.bool false, .slice none 0 0] 59)
  go_enter Tryz.func54, Tryz.ntmps54
  go_wp2_with fail
  refine (l5Draw_any g zs _ (cur_alloc h _)).mono ?_
  rintro e w1 ⟨b, v, ys, rfl, hl, ho, cu, G⟩
  obtain ⟨a', c', rfl, -⟩ := OwnS.rd ho
  have s1 := G.size
  simp at s1
  have ST : Hid (StN w (w1.alloc (.cells #[.bool b, .slice a' ys.length c'] 59)) g zs w1.heap.size b (.slice a' ys.length c') ys) := Lib.hid ⟨cur_alloc cu (.cells #[.bool b, .slice a' ys.length c'] 59), grown_alloc (grown_trans (World.grownBy_alloc w (.cells #[.bool false, .slice none 0 0] 59) (some g)) G) (.cells #[.bool b, .slice a' ys.length c'] 59), (K.out.far G hlt).alloc _, Loc.new w1 _ _, OwnS.mono (L := itLay) (ho.below (new_below w1 _)) (by simp), TagN.new w1 _, by omega⟩
  clear ho cu G h K
  go_wp2_with fail
  refine (l1Below_any g zs 12 _ ST.out.cur (by omega)).mono ?_
  rintro e w2 ⟨x, rfl, x0, x1, cu, g2⟩
  simp at x1
  replace ST := Lib.hid (ST.out.far hlt g2 cu)
  generalize hq : w1.heap.size = q at *
  have hqw : w.heap.size < q := by omega
  have s2 := (Lib.hid ST.out.loc.1).out
  clear cu g2 hq
  rcases (by omega : x = 0 ∨ x = 1 ∨ x = 2 ∨ x = 3 ∨ x = 4 ∨ 5 ≤ x) with rfl | rfl | rfl | rfl | rfl | hx
  · -- 0: the kind is turned
    have ST2 := Lib.hid (ST.out.leaf hlt (!b))
    obtain ⟨-, j1, e1⟩ := ST.out.loc
    obtain ⟨-, k0, f0⟩ := ST2.out.res
    obtain ⟨-, j0, e0⟩ := ST2.out.loc
    go_wp2
    exact bodyPost_ret (v := .agg #[.bool (!b), .slice a' ys.length c']) (by simp [results, Tryz.results54, go_sem, k0]) rfl (ST2.out.fin hlt (by omega))
  · -- 1: one entry more
    have STd := Lib.hid (StN.drew (ST.out.alloc (.cells #[.int .i64 0, .int .i64 47, .int .i64 48, .int .i64 999, .int .i64 1000, .int .i64 (-1)] 3)))
    have RI : Hid (RdI .i64 (w2.alloc (.cells #[.int .i64 0, .int .i64 47, .int .i64 48, .int .i64 999, .int .i64 1000, .int .i64 (-1)] 3)).drew (some ⟨w2.heap.size, 0, none⟩) 6 6 [0, 47, 48, 999, 1000, -1]) := Lib.hid ((rdI_new w2 .i64 [0, 47, 48, 999, 1000, -1] _ _ 6 rfl rfl (by simp [maxLen])).below (drew_below _))
    have l0 := ST.out.loc.2.1
    have l1 := (ST.out.alloc (.cells #[.int .i64 0, .int .i64 47, .int .i64 48, .int .i64 999, .int .i64 1000, .int .i64 (-1)] 3)).loc.2.1
    have m0 := ST.out.loc.2.2
    go_wp2_with fail
    go_region_law (first
      | (refine step_go rfl 53 _ _ rfl #[.pointer (some ⟨g, 0, none⟩), .slice (some ⟨w2.heap.size, 0, none⟩) 6 6] (by simp [Act.eval]) (enters_of Tryz.func53 (by kernel_rfl) rfl) (R := fun v w' => ∃ y, v = .int .i64 y ∧ Cur g zs w' ∧ (w2.alloc (.cells #[.int .i64 0, .int .i64 47, .int .i64 48, .int .i64 999, .int .i64 1000, .int .i64 (-1)] 3)).drew.grownBy w' (some g)) ((l1Int_any g zs [0, 47, 48, 999, 1000, -1] (some ⟨w2.heap.size, 0, none⟩) 6 6 _ STd.out.cur RI.out (by omega) (by omega) (fun x hx => by cases hx; simp; omega)).mono (fun e w' ⟨y, he, _, c, gg⟩ => ⟨_, he, y, rfl, c, gg⟩)) ?_; rintro v w3 ⟨y, rfl, c3, g3⟩; have ST3 := Lib.hid (STd.out.far hlt g3 c3); have l3 := ST3.out.loc.2.1; have m3 := ST3.out.loc.2.2; clear c3 g3)
      | (refine step_go rfl 30 _ _ rfl #[.pointer (some ⟨g, 0, none⟩)] (by simp [Act.eval]) (enters_of Tryz.func30 (by kernel_rfl) rfl) (R := fun v w' => ∃ p0 p1 p2 p3, v = .agg #[.int .i64 p0, .int .i64 p1, .int .i64 p2, .int .i64 p3] ∧ Cur g zs w' ∧ w3.grownBy w' (some g)) ((l2Any_any g zs _ ST3.out.cur).mono (fun e w' ⟨p0, p1, p2, p3, he, _, c, gg⟩ => ⟨_, he, p0, p1, p2, p3, rfl, c, gg⟩)) ?_; rintro v w4 ⟨p0, p1, p2, p3, rfl, c4, g4⟩; have ST4 := Lib.hid (ST3.out.far hlt g4 c4); have l4 := ST4.out.loc.2.1; have m4 := ST4.out.loc.2.2; have ST4a := Lib.hid (ST4.out.alloc (.cells #[.int .i64 y, .int .i64 p0, .int .i64 p1, .int .i64 p2, .int .i64 p3] 77)); have l4a := ST4a.out.loc.2.1; have m4a := ST4a.out.loc.2.2; have s4 := (Lib.hid ST4.out.loc.1).out; clear c4 g4)
      | ((refine step_append_src rfl (.tmp 18) (.tmp 25) 57 rfl (w.heap.size + 1) 77 i0 _ 5 40 Tryz.underlying57 hi.out hz0.out hz1.out hz2.out rfl (by decide) (Value.slice a' ys.length c') ys.length (ys.flatMap itLay.cells) (by simp [Act.eval]) ST4a.out.own (some ⟨w4.heap.size, 0, none⟩) 1 1 (itLay.cells (⟨y, p0, p1, p2, p3⟩ : It)) (by simp [Act.eval]) rfl (fun h => by cases h) (fun p hp => by cases hp; exact World.news_of_block (cs := #[.int .i64 y, .int .i64 p0, .int .i64 p1, .int .i64 p2, .int .i64 p3]) (t := 77) (fr := (0, 0)) (heap_alloc_new w4 _)) (itLay.one (⟨y, p0, p1, p2, p3⟩ : It)) (by unfold maxLen; omega) (by omega) (by simp; omega) ?_); intro v5 w5 o5 g5; obtain ⟨a5, c5, rfl⟩ := owns_shape o5; have A5 := Lib.hid (StN.app (zz := ys ++ [(⟨y, p0, p1, p2, p3⟩ : It)]) ST4a.out hlt g5 (ownS_snoc o5)); have k5 := A5.out.2.2.2.1.2.1; have e5 := A5.out.2.2.2.1.2.2; clear o5))
    all_goals
      have ST6 := Lib.hid (StN.put hlt hqw A5.out)
      obtain ⟨-, k0, f0⟩ := ST6.out.res
      obtain ⟨-, j0, e0⟩ := ST6.out.loc
      go_wp2
      exact bodyPost_ret (v := .agg #[.bool b, .slice a5 (ys.length + 1) c5]) (by simp [results, Tryz.results54, go_sem, k0]) rfl (ST6.out.fin hlt (by simp; omega))
  · -- 2: four entries more
    go_wp2_with fail
    clear s2
    go_loopw [4] (fun vi wr => ∃ (t : Nat) (a'' : Option Addr) (c'' : Nat) (zz : List It), vi = .int .i64 t ∧ t ≤ 4 ∧ zz.length ≤ 4 + t ∧ Hid (StN w wr g zs q b (.slice a'' zz.length c'') zz)) (fun vi _ => 4 - (intOf vi).toNat)
    case atStart => exact ⟨0, a', c', ys, rfl, by omega, by omega, ST⟩
    case round =>
      clear ST
      obtain ⟨t, a'', c'', zz, rfl, ht, hlz, ST⟩ := hrel
      by_cases ht4 : t < 4
      · have z0 : (t : Int) < 4 := by omega
        obtain ⟨u, hu⟩ : ∃ u : Int, u = 31 + (t : Int) := ⟨_, rfl⟩
        have e31 : IntKind.i64.wrap (31 + (t : Int)) = u := by rw [hu, IntKind.wrap_i64]; omega
        clear hu
        have STd := Lib.hid ST.out.drew
        have l0 := ST.out.loc.2.1
        have m0 := ST.out.loc.2.2
        have s2 := (Lib.hid ST.out.loc.1).out
        go_wp2_with fail
        go_region_law (first
          | (refine step_go rfl 56 _ _ rfl #[.pointer (some ⟨g, 0, none⟩)] (by simp [Act.eval, Act.put]) (enters_of Tryz.func56 (by kernel_rfl) rfl) (R := fun v w' => ∃ p0 p1 p2 p3, v = .agg #[.int .i64 p0, .int .i64 p1, .int .i64 p2, .int .i64 p3] ∧ Cur g zs w' ∧ wr.drew.grownBy w' (some g)) ((l2Draw_any g zs _ STd.out.cur).mono (fun e w' ⟨p0, p1, p2, p3, he, _, c, gg⟩ => ⟨_, he, p0, p1, p2, p3, rfl, c, gg⟩)) ?_; rintro v w4 ⟨p0, p1, p2, p3, rfl, c4, g4⟩; have ST4 := Lib.hid (STd.out.far hlt g4 c4); have l4 := ST4.out.loc.2.1; have m4 := ST4.out.loc.2.2; have ST4a := Lib.hid (ST4.out.alloc (.cells #[.int .i64 u, .int .i64 p0, .int .i64 p1, .int .i64 p2, .int .i64 p3] 77)); have l4a := ST4a.out.loc.2.1; have m4a := ST4a.out.loc.2.2; have s4 := (Lib.hid ST4.out.loc.1).out; clear c4 g4)
          | ((refine step_append_src rfl (.tmp 35) (.tmp 41) 57 rfl (w.heap.size + 1) 77 i0 _ 5 40 Tryz.underlying57 hi.out hz0.out hz1.out hz2.out rfl (by decide) (Value.slice a'' zz.length c'') zz.length (zz.flatMap itLay.cells) (by simp [Act.eval]) ST4a.out.own (some ⟨w4.heap.size, 0, none⟩) 1 1 (itLay.cells (⟨u, p0, p1, p2, p3⟩ : It)) (by simp [Act.eval]) rfl (fun h => by cases h) (fun p hp => by cases hp; exact World.news_of_block (cs := #[.int .i64 u, .int .i64 p0, .int .i64 p1, .int .i64 p2, .int .i64 p3]) (t := 77) (fr := (0, 0)) (heap_alloc_new w4 _)) (itLay.one (⟨u, p0, p1, p2, p3⟩ : It)) (by unfold maxLen; omega) (by omega) (by simp; omega) ?_); intro v5 w5 o5 g5; obtain ⟨a5, c5, rfl⟩ := owns_shape o5; have A5 := Lib.hid (StN.app (zz := zz ++ [(⟨u, p0, p1, p2, p3⟩ : It)]) ST4a.out hlt g5 (ownS_snoc o5)); have k5 := A5.out.2.2.2.1.2.1; have e5 := A5.out.2.2.2.1.2.2; clear o5))
        all_goals
          have ST6 := Lib.hid (StN.put hlt hqw A5.out)
          go_wp2
          go_roundw
          case rel => exact ⟨t + 1, a5, c5, zz ++ [⟨u, p0, p1, p2, p3⟩], by go_num, by omega, by simp; omega, by rw [List.length_append]; exact ST6⟩
          case measure => simp [intOf]; omega
      · obtain rfl : t = 4 := by omega
        have z0 : ¬ ((4 : Int) < 4) := by omega
        obtain ⟨-, k0, f0⟩ := ST.out.res
        obtain ⟨-, j0, e0⟩ := ST.out.loc
        go_wp2
        exact bodyPost_ret (v := .agg #[.bool b, .slice a'' zz.length c'']) (by simp [results, Tryz.results54, go_sem, k0]) rfl (ST.out.fin hlt (by omega))
  · -- 3: the entries twice
    obtain ⟨-, j1, e1⟩ := ST.out.loc
    have HO := Lib.hid ST.out.own
    have HR := Lib.hid (rdS_owns ST.out.own)
    go_wp2_with (at_builtin; refine append_src rfl (.tmp 47) (.tmp 49) 57 rfl (w.heap.size + 1) 77 i0 _ 5 40 Tryz.underlying57 hi.out hz0.out hz1.out hz2.out rfl (by decide) (.slice a' ys.length c') ys.length (ys.flatMap itLay.cells) rfl HO.out a' ys.length c' (ys.flatMap itLay.cells) rfl HR.out.len HR.out.nil HR.out.news (flat_one itLay _) ?_ ?_ ?_ ?_)
    case refine_1 => unfold maxLen; omega
    case refine_2 => omega
    case refine_3 => omega
    intro v5 w5 o5 g5
    obtain ⟨a5, c5, rfl⟩ := owns_shape o5
    have HO5 : Hid (OwnS itLay 77 w5 (w.heap.size + 1) (.slice a5 (ys.length + ys.length) c5) (ys ++ ys)) := by
      show w5.ownsRow _ _ 5 _ _ _
      rw [List.length_append, List.flatMap_append]
      exact o5
    have A5 := Lib.hid (ST.out.app hlt g5 HO5.out)
    have k5 := A5.out.2.2.2.1.2.1
    have e5 := A5.out.2.2.2.1.2.2
    have ST6 := Lib.hid (StN.put hlt hqw A5.out)
    clear o5 g5 j1 e1
    obtain ⟨-, k0, f0⟩ := ST6.out.res
    obtain ⟨-, j0, e0⟩ := ST6.out.loc
    go_wp2
    exact bodyPost_ret (v := .agg #[.bool b, .slice a5 (ys.length + ys.length) c5]) (by simp [results, Tryz.results54, go_sem, k0]) rfl (ST6.out.fin hlt (by simp; omega))
  · -- 4: no entries
    obtain ⟨-, j1, e1⟩ := ST.out.loc
    have hs : (w2.setCell ⟨q, 1, none⟩ (.slice (some ⟨w2.heap.size, 0, none⟩) 0 0)).heap.size = w2.heap.size := by simp
    have ST6 : Hid (StN w ((w2.setCell ⟨q, 1, none⟩ (.slice (some ⟨w2.heap.size, 0, none⟩) 0 0)).alloc (.cells #[] 77)) g zs q b (.slice (some ⟨w2.heap.size, 0, none⟩) 0 0) []) :=
      Lib.hid ⟨cur_alloc (cur_set' ST.out.cur (by omega) _ _) _, grown_alloc (grown_new ST.out.gr (by omega) _ _) _, (ST.out.res.other _ _ (by omega)).alloc _, (ST.out.loc.set 1 _ (by simp)).alloc _,
        own_nil _ 77 5 (w.heap.size + 1) w2.heap.size hs (by omega), (ST.out.tag.set _ _ _).of (Below.heap_alloc _ _ _ (by rw [hs]; exact s2)), hqw⟩
    clear hs
    obtain ⟨-, k0, f0⟩ := ST6.out.res
    obtain ⟨-, j0, e0⟩ := ST6.out.loc
    go_wp2
    exact bodyPost_ret (v := .agg #[.bool b, .slice (some ⟨w2.heap.size, 0, none⟩) 0 0]) (by simp [results, Tryz.results54, go_sem, k0]) rfl (ST6.out.fin hlt (by simp))
  · -- as it was drawn
    have h0 : (x == 0) = false := by rw [beq_eq_false_iff_ne]; omega
    have h1 : (x == 1) = false := by rw [beq_eq_false_iff_ne]; omega
    have h2 : (x == 2) = false := by rw [beq_eq_false_iff_ne]; omega
    have h3 : (x == 3) = false := by rw [beq_eq_false_iff_ne]; omega
    have h4 : (x == 4) = false := by rw [beq_eq_false_iff_ne]; omega
    obtain ⟨-, k0, f0⟩ := ST.out.res
    obtain ⟨-, j0, e0⟩ := ST.out.loc
    go_wp2
    exact bodyPost_ret (v := .agg #[.bool b, .slice a' ys.length c']) (by simp [results, Tryz.results54, go_sem, k0]) rfl (ST.out.fin hlt (by omega))
end Go.Proofs.YtfefggcfeppeiaaGreat
